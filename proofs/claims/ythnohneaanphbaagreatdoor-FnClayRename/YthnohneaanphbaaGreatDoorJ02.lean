import Derived.Test.YthnohneaanphbaaGreatDoorJ01
namespace Go.Proofs.YthnohneaanphbaaGreatDoor
open Go.RowKit
set_option maxRecDepth 20000
def ndV (x:Nd):Value:=.agg #[.int .i64 x.kind,.int .i64 x.op,.int .i64 x.n,.string x.text,.int .i64 x.kids]
theorem l1In_dec (x lo hi:Int) (w:World) :
  Calls Tryz.prog 22 #[.int .i64 x,.int .i64 lo,.int .i64 hi] w fun e w'=>e=.returned (.bool (decide (lo≤x) && decide (x≤hi)))∧w'=w:=l1In_any x lo hi w
def Pl1 (k:Int):Prop:=∀ (op n kids:Int) (t:ByteArray) (w:World),t.size≤maxLen→Calls Tryz.prog 48 #[ndV ⟨k,op,n,t,kids⟩] w fun e w'=>Says e (PlainNd ⟨k,op,n,t,kids⟩)∧Below w.heap.size w w'
def FiveAt (W:World) (b i:Nat) (x:Nd):Prop :=
 W.cell? ⟨b,i * 5,none⟩=some (.int .i64 x.kind)∧W.cell? ⟨b,i * 5+1,none⟩=some (.int .i64 x.op)∧W.cell? ⟨b,i * 5+2,none⟩=some (.int .i64 x.n)∧W.cell? ⟨b,i * 5+3,none⟩=some (.string x.text)∧W.cell? ⟨b,i * 5+4,none⟩=some (.int .i64 x.kids)
theorem FiveAt.below {W W':World} {B b i:Nat} {x:Nd} (h:FiveAt W b i x) (hb:Below B W W') (hB:b < B):FiveAt W' b i x:=by
 obtain ⟨h0,h1,h2,h3,h4⟩:=h
 exact ⟨(hb.cell (p:=⟨b,_,none⟩) hB).trans h0,(hb.cell (p:=⟨b,_,none⟩) hB).trans h1,(hb.cell (p:=⟨b,_,none⟩) hB).trans h2,(hb.cell (p:=⟨b,_,none⟩) hB).trans h3,(hb.cell (p:=⟨b,_,none⟩) hB).trans h4⟩
def PlacesAt (W:World) (g o m N:Nat) (ks:Nat→Nat):Prop:=∀ i,i < m→W.cell? ⟨g,o+i,none⟩=some (.int .i64 (ks i))∧ks i < N
theorem PlacesAt.below {W W':World} {B g o m N:Nat} {ks:Nat→Nat} (h:PlacesAt W g o m N ks) (hb:Below B W W') (hB:g < B):PlacesAt W' g o m N ks:=fun i hi =>
 ⟨(hb.cell (p:=⟨g,_,none⟩) hB).trans (h i hi).1,(h i hi).2⟩
def NodesAt (W:World) (b N:Nat) (nd:Nat→Nd):Prop:=∀ i,i < N→FiveAt W b i (nd i)
theorem NodesAt.below {W W':World} {B b N:Nat} {nd:Nat→Nd} (h:NodesAt W b N nd) (hb:Below B W W') (hB:b < B):NodesAt W' b N nd:=fun i hi=>(h i hi).below hb hB
theorem btree {w wr:World} {X:Obj} (h:Below (w.heap.size+1) (w.alloc X) wr):Below w.heap.size w wr :=
 Below.trans ((Below.refl w.heap.size w).alloc (Nat.le_refl _) X) (h.mono (B':=w.heap.size) (Nat.le_succ _))
theorem tree_cell {w wr:World} {v:Value} {t:TypeId} (h:Below (w.heap.size+1) (w.alloc (.cells #[v] t)) wr):wr.cell? ⟨w.heap.size,0,none⟩=some v:=by
 rw [h.cell (p:=⟨w.heap.size,0,none⟩) (Nat.lt_succ_self _),cell_new_row];rfl
set_option maxHeartbeats 1000000 in
theorem l2Apart_any (b N cap g o m c:Nat) (nd:Nat→Nd) (ks:Nat→Nat) (w:World) (hm:m≤1000000) (hb:b < w.heap.size) (hg:g < w.heap.size) (hn:NodesAt w b N nd) (hk:PlacesAt w g o m N ks) :
  Calls Tryz.prog 76 #[.agg #[.slice (some ⟨b,0,none⟩) N cap],.slice (some ⟨g,o,none⟩) m c] w fun e w'=>Says e (Apart m (fun i=>nd (ks i)))∧Below w.heap.size w w':=by
 have HN:=hid hn
 have HK:=hid hk
 clear hn hk
 go_enter Tryz.func76,Tryz.ntmps76
 go_wp2
 go_loopw [5] (fun i wr=>∃ j:Nat,j≤m∧i=.int .i64 j∧Apart j (fun i=>nd (ks i))∧Below (w.heap.size+1) (w.alloc (.cells #[.slice (some ⟨b,0,none⟩) N cap] 25)) wr) (fun i _=>m - (intOf i).toNat)
 case atStart=>exact ⟨0,Nat.zero_le _,rfl,fun i h=>absurd h (Nat.not_lt_zero _),Below.refl _ _⟩
 case round =>
  obtain ⟨j,hj,rfl,hap,hbw⟩:=hrel
  have HAP:=hid hap
  have HBW:=hid hbw
  clear hap hbw
  by_cases hlt:j < m
  ·go_wp2
   go_loopw [6] (fun i wr=>∃ q:Nat,q≤j∧i=.int .i64 q∧(∀ i,i < q→¬ (nd (ks i)).text=(nd (ks j)).text)∧Below (w.heap.size+1) (w.alloc (.cells #[.slice (some ⟨b,0,none⟩) N cap] 25)) wr) (fun i _=>j - (intOf i).toNat)
   case atStart=>exact ⟨0,Nat.zero_le _,rfl,fun i h=>absurd h (Nat.not_lt_zero _),HBW.out⟩
   case round =>
    rename_i wo wr
    obtain ⟨q,hq,rfl,hin,hbw⟩:=hrel
    have HQ:=hid hin
    have HB2:=hid hbw
    clear hin hbw
    by_cases hl2:q < j
    ·have t0:=tree_cell HB2.out
     have HNr:=HN.out.below (btree HB2.out) hb
     have HKr:=HK.out.below (btree HB2.out) hg
     obtain ⟨a0,a1⟩:=HKr q (Nat.lt_trans hl2 hlt)
     obtain ⟨b0,b1⟩:=HKr j hlt
     obtain ⟨_,_,_,a2,_⟩:=HNr (ks q) a1
     obtain ⟨_,_,_,b2,_⟩:=HNr (ks j) b1
     have HNr2:=hid HNr
     have HKr2:=hid HKr
     clear HNr HKr
     cases ht:((nd (ks q)).text.toList == (nd (ks j)).text.toList)
     ·have HNE:Hid (¬ (nd (ks q)).text=(nd (ks j)).text):=fun h=>by rw [h] at ht;simp at ht
      go_wp2
      go_region
      go_wp2
      go_roundw
      case rel=>exact ⟨q+1,by omega,by go_num,fun i hi=>by
       rcases Nat.lt_or_eq_of_le (Nat.lt_succ_iff.1 hi) with h | h
       ·exact HQ.out i h
       ·subst h;exact HNE.out,HB2.out.drew⟩
      case measure=>simp [intOf];omega
     ·have HEQ:Hid ((nd (ks q)).text=(nd (ks j)).text):=bytes_eq ht
      go_wp2
      go_region
      go_wp2
      go_ret
      exact ⟨says_f (fun h=>h j hlt q hl2 HEQ.out),(btree HB2.out).drew⟩
    ·go_wp2
     go_roundw
     case rel=>exact ⟨j+1,by omega,by go_num,fun i hi k hk=>by
      rcases Nat.lt_or_eq_of_le (Nat.lt_succ_iff.1 hi) with h | h
      ·exact HAP.out i h k hk
      ·subst h;exact HQ.out k (by omega),HB2.out⟩
     case measure=>simp [intOf];omega
  ·go_wp2
   go_ret
   obtain rfl:j=m:=by omega
   exact ⟨says_t HAP.out,btree HBW.out⟩
end Go.Proofs.YthnohneaanphbaaGreatDoor
namespace Go.Proofs.YthnohneaanphbaaGreatDoor
open Go.RowKit
def RowAt (W:World) (e:TypeId) (g cap n:Nat) (xs:List Value):Prop:=xs.length=n∧n≤cap∧cap≤maxLen∧∃ cur,W.heap[g]?=some (.cells cur e (0,0))∧cur.size=cap∧cur.toList.take n=xs
theorem RowAt.own {W:World} {B:Nat} {e:TypeId} {g cap n:Nat} {xs:List Value} (h:RowAt W e g cap n xs) (hB:B≤g):W.ownsRow B e 1 (.slice (some ⟨g,0,none⟩) n cap) n xs:=by
 obtain ⟨h1,h2,h3,cur,h4,h5,h6⟩:=h
 exact ⟨by omega,.inr ⟨g,cap,cur,rfl,hB,h4,h2,h3,by omega,by rw [Nat.mul_one];exact h6⟩⟩
theorem RowAt.of_own {W:World} {B:Nat} {e:TypeId} {v:Value} {n:Nat} {xs:List Value} (h:W.ownsRow B e 1 v n xs) (hv:¬ v=.slice none 0 0):∃ g cap,v=.slice (some ⟨g,0,none⟩) n cap∧B≤g∧RowAt W e g cap n xs:=by
 obtain ⟨h1,⟨h2,_⟩ | ⟨g,cap,cur,h2,h3,h4,h5,h6,h7,h8⟩⟩:=h
 ·exact absurd h2 hv
 ·exact ⟨g,cap,h2,h3,by omega,h5,h6,cur,h4,by omega,by rw [Nat.mul_one] at h8;exact h8⟩
theorem RowAt.lt {W:World} {e:TypeId} {g cap n:Nat} {xs:List Value} (h:RowAt W e g cap n xs):g < W.heap.size:=by
 obtain ⟨_,_,_,cur,h4,_⟩:=h
 exact (Array.getElem?_eq_some_iff.1 h4).1
theorem RowAt.keep {W W':World} {e:TypeId} {g cap n:Nat} {xs:List Value} (h:RowAt W e g cap n xs) (hk:W'.heap[g]?=W.heap[g]?):RowAt W' e g cap n xs:=by
 obtain ⟨h1,h2,h3,cur,h4,h5⟩:=h
 exact ⟨h1,h2,h3,cur,hk.trans h4,h5⟩
theorem RowAt.alloc {W:World} {e:TypeId} {g cap n:Nat} {xs:List Value} (h:RowAt W e g cap n xs) (o:Obj):RowAt (W.alloc o) e g cap n xs:=h.keep (Below.heap_alloc W o g h.lt)
theorem RowAt.grown {W W':World} {e:TypeId} {g cap n:Nat} {xs:List Value} {row:Option Nat} (h:RowAt W e g cap n xs) (hg:W.grownBy W' row) (hne:row≠some g):RowAt W' e g cap n xs:=h.keep (hg.block g h.lt (fun e=>hne e.symm))
theorem RowAt.below {W W':World} {e:TypeId} {g cap n B:Nat} {xs:List Value} (h:RowAt W e g cap n xs) (hb:Below B W W') (hB:g < B):RowAt W' e g cap n xs:=h.keep (hb.block g hB)
theorem RowAt.front {W:World} {e:TypeId} {g cap n:Nat} {xs ys:List Value} (h:RowAt W e g cap n (xs ++ ys)):RowAt W e g cap xs.length xs:=by
 obtain ⟨h1,h2,h3,cur,h4,h5,h6⟩:=h
 rw [List.length_append] at h1
 refine ⟨rfl,by omega,h3,cur,h4,h5,?_⟩
 have:(cur.toList.take n).take xs.length=(xs ++ ys).take xs.length:=by rw [h6]
 rw [List.take_take,Nat.min_eq_left (by omega)] at this
 rw [this];simp
theorem RowAt.cell {W:World} {e:TypeId} {g cap n:Nat} {xs:List Value} (h:RowAt W e g cap n xs) (i:Nat) (hi:i < n):W.cell? ⟨g,i,none⟩=xs[i]?:=by
 obtain ⟨h1,h2,h3,cur,h4,h5,h6⟩:=h
 have e1:W.cell? ⟨g,i,none⟩=cur[i]?:=by unfold World.cell?;rw [h4];rfl
 rw [e1,← h6,List.getElem?_take_of_lt hi];simp
def intRow (s:List Nat):List Value:=s.map fun (x:Nat)=>Value.int .i64 (x:Int)
theorem intRow_length (s:List Nat):(intRow s).length=s.length:=by simp [intRow]
theorem intRow_append (s t:List Nat):intRow (s ++ t)=intRow s ++ intRow t:=by simp [intRow]
theorem intRow_one (s:List Nat):∀ u ∈ intRow s,u.oneCell'=true:=by
 intro u hu
 obtain ⟨x,_,rfl⟩:=List.mem_map.1 hu
 rfl
def gridRow (L:List (Nat × Nat × List Nat)):List Value:=L.map fun x=>Value.slice (some ⟨x.1,0,none⟩) x.2.2.length x.2.1
theorem info_int:(Tryz.prog.info? 3).map (fun i=>(i.zero,i.size,i.bytes))=some (some (.int .i64 0),1,8):=by kernel_rfl
theorem info_ints:(Tryz.prog.info? 31).map (fun i=>(i.zero,i.size,i.bytes))=some (some (.slice none 0 0),1,24):=by kernel_rfl
def kidsF (nd:Nat→Nd):Nat→Option (List (List Nat) × List Nat)
 | 0=>some ([],[])
 | j+1=>match kidsF nd j with
  | none=>none
  | some (o,s)=>if 0≤(nd j).kids∧(nd j).kids≤s.length then some (o ++ [s.drop (s.length - (nd j).kids.toNat)],s.take (s.length - (nd j).kids.toNat) ++ [j]) else none
theorem kidsF_len (nd:Nat→Nd) (j:Nat) (o:List (List Nat)) (s:List Nat) (h:kidsF nd j=some (o,s)):o.length=j∧s.length≤j∧(∀ x ∈ s,x < j):=by
 induction j generalizing o s with
 | zero=>simp [kidsF] at h;obtain ⟨rfl,rfl⟩:=h;simp
 | succ j ih =>
  simp only [kidsF] at h
  cases hk:kidsF nd j with
  | none=>rw [hk] at h;cases h
  | some x =>
   obtain ⟨o',s'⟩:=x
   rw [hk] at h
   obtain ⟨i1,i2,i3⟩:=ih o' s' hk
   dsimp only at h
   split at h
   ·cases h
    refine ⟨by simp [i1],by simp;omega,?_⟩
    intro x hx
    rcases List.mem_append.1 hx with hx | hx
    ·have:=i3 x (List.mem_of_mem_take hx);omega
    ·simp at hx;omega
   ·cases h
theorem kidsF_bad {nd:Nat→Nd} {j:Nat} {o:List (List Nat)} {s:List Nat} (h:kidsF nd j=some (o,s)) (hb:¬ (0≤(nd j).kids∧(nd j).kids≤s.length)) (N:Nat) (hN:j < N):kidsF nd N=none:=by
 have h1:kidsF nd (j+1)=none:=by simp only [kidsF];rw [h];simp only;rw [if_neg hb]
 induction N with
 | zero=>omega
 | succ N ih =>
  by_cases e:j=N
  ·subst e;exact h1
  ·simp only [kidsF];rw [ih (by omega)]
theorem kidsF_good {nd:Nat→Nd} {j k:Nat} {o:List (List Nat)} {sp sk:List Nat} (h:kidsF nd j=some (o,sp ++ sk)) (hk:(nd j).kids=k) (hl:sk.length=k):kidsF nd (j+1)=some (o ++ [sk],sp ++ [j]):=by
 have e:(sp ++ sk).length - ((k:Int)).toNat=sp.length:=by simp;omega
 simp only [kidsF];rw [h];simp only
 rw [hk,if_pos ⟨by omega,by simp;omega⟩,e]
 simp
end Go.Proofs.YthnohneaanphbaaGreatDoor
namespace Go.Proofs.YthnohneaanphbaaGreatDoor
def upK (l:List Nat):Nat:=l.foldl (fun h x=>max h (x+1)) 0
theorem upK_snoc (l:List Nat) (x:Nat):upK (l ++ [x])=max (upK l) (x+1):=by simp [upK]
def kidHighs (hs ks:List Nat):List Nat:=ks.map fun k=>hs.getD k 0
def highs (o:List (List Nat)):List Nat:=o.foldl (fun hs ks=>hs ++ [upK (kidHighs hs ks)]) []
theorem highs_snoc (o:List (List Nat)) (ks:List Nat):highs (o ++ [ks])=highs o ++ [upK (kidHighs (highs o) ks)]:=by simp [highs]
theorem highs_length (o:List (List Nat)):(highs o).length=o.length:=by
 have:∀ n,∀ o:List (List Nat),o.length=n→(highs o).length=o.length:=by
  intro n
  induction n with
  | zero=>intro o h;rw [List.length_eq_zero_iff.1 h];rfl
  | succ n ih =>
   intro o h
   obtain ⟨o',ks,rfl⟩:=(List.eq_nil_or_concat o).resolve_left (by rintro rfl;cases h)
   rw [List.concat_eq_append] at h ⊢
   rw [highs_snoc,List.length_append,List.length_append,ih o' (by simp at h;exact h)]
   rfl
 exact this _ o rfl
theorem highs_take (o:List (List Nat)) (i:Nat) (hi:i < o.length):highs (o.take (i+1))=highs (o.take i) ++ [upK (kidHighs (highs (o.take i)) (o.getD i []))]:=by
 rw [List.take_succ_eq_append_getElem hi,highs_snoc,List.getD_eq_getElem?_getD,List.getElem?_eq_getElem hi]
 rfl
theorem highs_pre (o:List (List Nat)) (j:Nat):∀ i,i < j→j≤o.length→(highs (o.take j)).getD i 0=(highs o).getD i 0:=by
 have:∀ d,∀ j,j+d=o.length→∀ i,i < j→(highs (o.take j)).getD i 0=(highs o).getD i 0:=by
  intro d
  induction d with
  | zero=>intro j h i _;rw [List.take_of_length_le (by omega)]
  | succ d ih =>
   intro j h i hi
   rw [← ih (j+1) (by omega) i (by omega),highs_take o j (by omega)]
   rw [List.getD_eq_getElem?_getD,List.getD_eq_getElem?_getD,List.getElem?_append_left (by rw [highs_length,List.length_take];omega)]
 intro i hi hj
 exact this (o.length - j) j (by omega) i hi
theorem upK_le {l:List Nat} {x:Nat} (h:x ∈ l):x+1≤upK l:=by
 have:∀ n,∀ l:List Nat,l.length=n→x ∈ l→x+1≤upK l:=by
  intro n
  induction n with
  | zero=>intro l h hx;rw [List.length_eq_zero_iff.1 h] at hx;cases hx
  | succ n ih =>
   intro l h hx
   obtain ⟨l',y,rfl⟩:=(List.eq_nil_or_concat l).resolve_left (by rintro rfl;cases h)
   rw [List.concat_eq_append] at h hx ⊢
   rw [upK_snoc]
   rcases List.mem_append.1 hx with hx | hx
   ·have:=ih l' (by simp at h;exact h) hx
    omega
   ·simp at hx;omega
 exact this _ l rfl h
def FitAt (nd:Nat→Nd) (o:List (List Nat)) (i:Nat):Prop:=PlainNd (nd i)∧KidsOk (nd i).kind (o.getD i []).length (fun k=>nd ((o.getD i []).getD k 0))
def ValidT (nd:Nat→Nd) (N:Nat):Prop:=1≤N∧N≤5000∧(nd (N - 1)).kind=24∧∃ o x,kidsF nd N=some (o,[x])∧∀ i,i < N→(highs o).getD i 0≤50∧FitAt nd o i
theorem kidsF_step {nd:Nat→Nd} {j:Nat} {o:List (List Nat)} {s:List Nat} (h:kidsF nd (j+1)=some (o,s)):∃ o' sp sk,kidsF nd j=some (o',sp ++ sk)∧o=o' ++ [sk]∧s=sp ++ [j]∧(nd j).kids=sk.length:=by
 simp only [kidsF] at h
 cases hk:kidsF nd j with
 | none=>rw [hk] at h;cases h
 | some x =>
  obtain ⟨o',s'⟩:=x
  rw [hk] at h
  dsimp only at h
  split at h
  ·rename_i hc
   cases h
   refine ⟨o',_,_,by rw [List.take_append_drop],rfl,rfl,?_⟩
   rw [List.length_drop];omega
  ·cases h
theorem kidsF_pre {nd:Nat→Nd} {N:Nat} {o:List (List Nat)} {s:List Nat} (h:kidsF nd N=some (o,s)) (j:Nat) (hj:j≤N):∃ s',kidsF nd j=some (o.take j,s'):=by
 induction N generalizing o s with
 | zero =>
  obtain rfl:j=0:=by omega
  simp [kidsF] at h ⊢
 | succ N ih =>
  by_cases e:j=N+1
  ·subst e
   have:=(kidsF_len nd _ _ _ h).1
   exact ⟨s,by rw [List.take_of_length_le (by omega)];exact h⟩
  ·obtain ⟨o',sp,sk,h1,rfl,rfl,_⟩:=kidsF_step h
   have:=(kidsF_len nd _ _ _ h1).1
   rw [List.take_append_of_le_length (by omega)]
   exact ih h1 (by omega)
theorem kidsF_cover {nd:Nat→Nd} {j:Nat} {o:List (List Nat)} {s:List Nat} (h:kidsF nd j=some (o,s)):∀ i,i < j→∃ y,y ∈ s∧(highs o).getD i 0≤(highs o).getD y 0:=by
 induction j generalizing o s with
 | zero=>intro i hi;omega
 | succ j ih =>
  intro i hi
  obtain ⟨o',sp,sk,h1,rfl,rfl,_⟩:=kidsF_step h
  have hl:=kidsF_len nd _ _ _ h1
  have hh:(highs o').length=j:=by rw [highs_length];exact hl.1
  have old:∀ y,y < j→(highs o' ++ [upK (kidHighs (highs o') sk)]).getD y 0=(highs o').getD y 0:=fun y hy=>by
   rw [List.getD_eq_getElem?_getD,List.getD_eq_getElem?_getD,List.getElem?_append_left (by omega)]
  have new:(highs o' ++ [upK (kidHighs (highs o') sk)]).getD j 0=upK (kidHighs (highs o') sk):=by
   rw [List.getD_eq_getElem?_getD,List.getElem?_append_right (by omega),hh];simp
  rw [highs_snoc]
  by_cases e:i=j
  ·subst e;exact ⟨i,by simp,Nat.le_refl _⟩
  ·obtain ⟨y,hy,hle⟩:=ih h1 i (by omega)
   have hyj:=hl.2.2 y hy
   rcases List.mem_append.1 hy with hy | hy
   ·exact ⟨y,by simp [hy],by rw [old i (by omega),old y hyj];exact hle⟩
   ·refine ⟨j,by simp,?_⟩
    rw [old i (by omega),new]
    have:=upK_le (l:=kidHighs (highs o') sk) (x:=(highs o').getD y 0) (List.mem_map.2 ⟨y,hy,rfl⟩)
    omega
theorem valid_end {nd:Nat→Nd} {N:Nat} {o:List (List Nat)} {s:List Nat} (hN:N≤5000) (h:kidsF nd N=some (o,s)) (hf:∀ i,i < N→FitAt nd o i):ValidT nd N ↔ s.length=1∧(nd (s.getD 0 0)).kind=24∧(highs o).getD (s.getD 0 0) 0≤50:=by
 cases N with
 | zero =>
  simp [kidsF] at h
  obtain ⟨rfl,rfl⟩:=h
  constructor
  ·rintro ⟨h,_⟩;omega
  ·rintro ⟨h,_⟩;cases h
 | succ N =>
  obtain ⟨o',sp,sk,h1,ho,hs,_⟩:=kidsF_step h
  constructor
  ·rintro ⟨_,_,h3,o2,x,h4,h5⟩
   rw [h] at h4
   cases h4
   have hx:x=N:=by
    cases sp with
    | nil=>simp at hs;exact hs
    | cons a t=>cases t <;> simp at hs
   subst hx
   exact ⟨rfl,by simpa using h3,by simpa using (h5 x (by omega)).1⟩
  ·rintro ⟨h3,h4,h5⟩
   obtain ⟨x,hx⟩:=List.length_eq_one_iff.1 h3
   subst hx
   have hx:x=N:=by
    cases sp with
    | nil=>simp at hs;exact hs
    | cons a t=>cases t <;> simp at hs
   subst hx
   refine ⟨by omega,hN,by simpa using h4,o,x,h,fun i hi=>⟨?_,hf i hi⟩⟩
   obtain ⟨y,hy,hle⟩:=kidsF_cover h i hi
   simp at hy
   subst hy
   simp at h5
   simp at hle ⊢
   omega
theorem invalid_at {nd:Nat→Nd} {N j:Nat} {o:List (List Nat)} {sp sk:List Nat} (hj:j < N) (h:kidsF nd j=some (o,sp ++ sk)) (hk:(nd j).kids=sk.length) (hb:¬ (PlainNd (nd j)∧KidsOk (nd j).kind sk.length (fun k=>nd (sk.getD k 0)))):¬ ValidT nd N:=by
 rintro ⟨_,_,_,O,x,h4,h5⟩
 obtain ⟨s',h6⟩:=kidsF_pre h4 (j+1) (by omega)
 rw [kidsF_good h hk rfl] at h6
 injection h6 with h6
 injection h6 with h6 _
 have hl:=kidsF_len nd _ _ _ h
 have hO:=(kidsF_len nd _ _ _ h4).1
 have e:O.getD j []=sk:=by
  have:(O.take (j+1))[j]?=(o ++ [sk])[j]?:=by rw [h6]
  rw [List.getElem?_take_of_lt (by omega),List.getElem?_append_right (by omega),hl.1] at this
  rw [List.getD_eq_getElem?_getD,this];simp
 have:=(h5 j hj).2
 unfold FitAt at this
 rw [e] at this
 exact hb this
theorem FitAt_snoc {nd:Nat→Nd} {o:List (List Nat)} {sk:List Nat} (h:∀ i,i < o.length→FitAt nd o i) (hn:PlainNd (nd o.length)∧KidsOk (nd o.length).kind sk.length (fun k=>nd (sk.getD k 0))):∀ i,i < o.length+1→FitAt nd (o ++ [sk]) i:=by
 intro i hi
 unfold FitAt
 by_cases e:i=o.length
 ·subst e
  have:(o ++ [sk]).getD o.length []=sk:=by rw [List.getD_eq_getElem?_getD,List.getElem?_append_right (Nat.le_refl _)];simp
  rw [this];exact hn
 ·have:(o ++ [sk]).getD i []=o.getD i []:=by rw [List.getD_eq_getElem?_getD,List.getD_eq_getElem?_getD,List.getElem?_append_left (by omega)]
  rw [this];exact h i (by omega)
end Go.Proofs.YthnohneaanphbaaGreatDoor
namespace Go.Proofs.YthnohneaanphbaaGreatDoor
open Go.RowKit
set_option maxRecDepth 20000
def SixAt (W:World) (g o:Nat) (x:Nd) (h:Nat):Prop :=
 W.cell? ⟨g,o,none⟩=some (.int .i64 x.kind)∧W.cell? ⟨g,o+1,none⟩=some (.int .i64 x.op)∧W.cell? ⟨g,o+2,none⟩=some (.int .i64 x.n)∧W.cell? ⟨g,o+3,none⟩=some (.string x.text)∧W.cell? ⟨g,o+4,none⟩=some (.int .i64 x.kids)∧W.cell? ⟨g,o+5,none⟩=some (.int .i64 h)
theorem SixAt.below {W W':World} {B g o h:Nat} {x:Nd} (hs:SixAt W g o x h) (hb:Below B W W') (hB:g < B):SixAt W' g o x h:=by
 obtain ⟨h0,h1,h2,h3,h4,h5⟩:=hs
 exact ⟨(hb.cell (p:=⟨g,_,none⟩) hB).trans h0,(hb.cell (p:=⟨g,_,none⟩) hB).trans h1,(hb.cell (p:=⟨g,_,none⟩) hB).trans h2,(hb.cell (p:=⟨g,_,none⟩) hB).trans h3,(hb.cell (p:=⟨g,_,none⟩) hB).trans h4,(hb.cell (p:=⟨g,_,none⟩) hB).trans h5⟩
def StandAt (W:World) (g o m:Nat) (st:Nat→Nd) (hi:Nat→Nat):Prop:=∀ i,i < m→SixAt W g (o+i * 6) (st i) (hi i)
theorem StandAt.below {W W':World} {B g o m:Nat} {st:Nat→Nd} {hi:Nat→Nat} (h:StandAt W g o m st hi) (hb:Below B W W') (hB:g < B):StandAt W' g o m st hi:=fun i hm=>(h i hm).below hb hB
set_option maxHeartbeats 1000000 in
theorem highAbove_any (g o m c:Nat) (st:Nat→Nd) (hi:Nat→Nat) (w:World) (hm:m≤5000) (hh:∀ i,i < m→hi i≤5000) (hg:g < w.heap.size) (hs:StandAt w g o m st hi) :
  Calls Tryz.prog 63 #[.slice (some ⟨g,o,none⟩) m c] w fun e w'=>e=.returned (.int .i64 (upK ((List.range m).map hi)))∧Below w.heap.size w w':=by
 have HS:=hid hs
 clear hs
 go_enter Tryz.func63,Tryz.ntmps63
 go_wp2
 go_loopw [3,8] (fun h i wr=>∃ j:Nat,j≤m∧i=.int .i64 j∧h=.int .i64 (upK ((List.range j).map hi))∧upK ((List.range j).map hi)≤5001∧Below w.heap.size w wr) (fun _ i _=>m - (intOf i).toNat)
 case atStart=>exact ⟨0,Nat.zero_le _,rfl,rfl,by simp [upK],Below.refl _ _⟩
 case round =>
  obtain ⟨j,hj,rfl,rfl,hu,hbw⟩:=hrel
  have HBW:=hid hbw
  clear hbw
  by_cases hlt:j < m
  ·obtain ⟨a0,a1,a2,a3,a4,a5⟩:=(HS.out.below HBW.out hg) j hlt
   have HU:Hid (upK ((List.range (j+1)).map hi)=max (upK ((List.range j).map hi)) (hi j+1)):=by
    show _=_
    rw [List.range_succ,List.map_append,← upK_snoc];rfl
   have hhj:=hh j hlt
   generalize upK ((List.range j).map hi)=u at *
   go_wp2
   go_roundw
   case rel=>exact ⟨j+1,by omega,by go_num,by rw [HU.out];congr 1;split <;> omega,by rw [HU.out];omega,HBW.out.alloc HBW.out.size _⟩
   case measure=>simp [intOf];omega
  ·obtain rfl:j=m:=by omega
   go_wp2
   go_ret
   exact ⟨rfl,HBW.out⟩
set_option maxHeartbeats 400000 in
theorem highAbove_none (ad:Option Addr) (c:Nat) (w:World) :
  Calls Tryz.prog 63 #[.slice ad 0 c] w fun e w'=>e=.returned (.int .i64 0)∧w'=w:=by
 go_enter Tryz.func63,Tryz.ntmps63
 go_wp2
 go_loopw [3,8] (fun h i wr=>i=.int .i64 0∧h=.int .i64 0∧wr=w) (fun _ _ _=>0)
 case atStart=>exact ⟨rfl,rfl,rfl⟩
 case round =>
  obtain ⟨rfl,rfl,rfl⟩:=hrel
  go_wp2
  go_ret
  exact ⟨rfl,rfl⟩
def StA (W:World) (ad:Option Addr) (m:Nat) (st:Nat→Nd) (hi:Nat→Nat):Prop:=m=0∨∃ g o,ad=some ⟨g,o,none⟩∧g < W.heap.size∧StandAt W g o m st hi
theorem StA.below {W W':World} {ad:Option Addr} {m:Nat} {st:Nat→Nd} {hi:Nat→Nat} (h:StA W ad m st hi) (hb:Below W.heap.size W W'):StA W' ad m st hi:=by
 rcases h with h | ⟨g,o,rfl,h1,h2⟩
 ·exact .inl h
 ·exact .inr ⟨g,o,rfl,Nat.lt_of_lt_of_le h1 hb.size,h2.below hb h1⟩
theorem highAbove_all (ad:Option Addr) (m c:Nat) (st:Nat→Nd) (hi:Nat→Nat) (w:World) (hm:m≤5000) (hh:∀ i,i < m→hi i≤5000) (hs:StA w ad m st hi) :
  Calls Tryz.prog 63 #[.slice ad m c] w fun e w'=>e=.returned (.int .i64 (upK ((List.range m).map hi)))∧Below w.heap.size w w':=by
 rcases hs with rfl | ⟨g,o,rfl,h1,h2⟩
 ·refine (highAbove_none ad c w).mono ?_
  rintro e w' ⟨rfl,rfl⟩
  exact ⟨rfl,Below.refl _ _⟩
 ·exact highAbove_any g o m c st hi w hm hh h1 h2
end Go.Proofs.YthnohneaanphbaaGreatDoor
