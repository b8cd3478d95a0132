import Derived.Deep.RegionHeld3
import Derived.Test.YthnohneaanphbaaGreatDoorJ19
import Derived.Test.YthnohneaanphbaaGreatDoorJ35
import Derived.Test.YthnohneaanphbaaGreatDoorJ25
import Derived.Test.YthnohneaanphbaaGreatDoorJ09
import Derived.Test.YthnohneaanphbaaGreatDoorJ15
namespace Go.Proofs.YthnohneaanphbaaGreatDoor
open Go.RowKit
set_option maxRecDepth 20000
theorem kids_lt {nd:Nat→Nd} {N:Nat} {O:List (List Nat)} {s:List Nat} (h:kidsF nd N=some (O,s)) (j:Nat) (hj:j < N):∀ y ∈ O.getD j [],y < j:=by
 obtain ⟨s',h6⟩:=kidsF_pre h (j+1) (by omega)
 obtain ⟨o',sp,sk,h1,h2,_,_⟩:=kidsF_step h6
 have hl:=kidsF_len nd _ _ _ h1
 have hO:=(kidsF_len nd _ _ _ h).1
 have e:O.getD j []=sk:=by
  have:(O.take (j+1))[j]?=(o' ++ [sk])[j]?:=by rw [h2]
  rw [List.getElem?_take_of_lt (by omega),List.getElem?_append_right (by omega),hl.1] at this
  rw [List.getD_eq_getElem?_getD,this];simp
 intro y hy
 rw [e] at hy
 exact hl.2.2 y (by simp [hy])
theorem kids_len_le {nd:Nat→Nd} {N:Nat} {O:List (List Nat)} {s:List Nat} (h:kidsF nd N=some (O,s)) (j:Nat) (hj:j < N):(O.getD j []).length≤j:=by
 obtain ⟨s',h6⟩:=kidsF_pre h (j+1) (by omega)
 obtain ⟨o',sp,sk,h1,h2,_,_⟩:=kidsF_step h6
 have hl:=kidsF_len nd _ _ _ h1
 have hO:=(kidsF_len nd _ _ _ h).1
 have e:O.getD j []=sk:=by
  have:(O.take (j+1))[j]?=(o' ++ [sk])[j]?:=by rw [h2]
  rw [List.getElem?_take_of_lt (by omega),List.getElem?_append_right (by omega),hl.1] at this
  rw [List.getD_eq_getElem?_getD,this];simp
 rw [e]
 have:=hl.2.1
 rw [List.length_append] at this
 omega
def Seven (W:World) (a b go j:Nat) (x:Nd) (v u:Value):Prop:=W.cell? ⟨a,0,none⟩=some v∧W.cell? ⟨b,j * 5,none⟩=some (.int .i64 x.kind)∧W.cell? ⟨b,j * 5+1,none⟩=some (.int .i64 x.op)∧W.cell? ⟨b,j * 5+2,none⟩=some (.int .i64 x.n)∧W.cell? ⟨b,j * 5+3,none⟩=some (.string x.text)∧W.cell? ⟨b,j * 5+4,none⟩=some (.int .i64 x.kids)∧W.cell? ⟨go,j,none⟩=some u
theorem Seven.below {W W':World} {a b go j B:Nat} {x:Nd} {v u:Value} (h:Seven W a b go j x v u) (hb:Below B W W') (h1:a < B) (h2:b < B) (h3:go < B):Seven W' a b go j x v u:=by
 obtain ⟨c1,c2,c3,c4,c5,c6,c7⟩:=h
 exact ⟨(hb.cell (p:=⟨a,_,none⟩) h1).trans c1,(hb.cell (p:=⟨b,_,none⟩) h2).trans c2,(hb.cell (p:=⟨b,_,none⟩) h2).trans c3,(hb.cell (p:=⟨b,_,none⟩) h2).trans c4,(hb.cell (p:=⟨b,_,none⟩) h2).trans c5,(hb.cell (p:=⟨b,_,none⟩) h2).trans c6,(hb.cell (p:=⟨go,_,none⟩) h3).trans c7⟩
def SInv (nd:Nat→Nd) (O:List (List Nat)) (B:Nat) (W1 W:World) (j:Nat) (vh:Value):Prop:=∃ g c,vh=.slice (some ⟨g,0,none⟩) j c∧B≤g∧RowAt W 3 g c j (intRow (highs (O.take j)))∧(∀ x,x < j→(highs O).getD x 0≤50∧FitAt nd O x)∧Below B W1 W
theorem below_drewN {B:Nat} {w w':World} (h:Below B w w') (n:Nat):Below B w (w'.drewN n):=by
 induction n with
 | zero=>exact h
 | succ n ih=>exact ih.drew
theorem Says.pos {e:Ending} {P:Prop} (h:Says e P) (hp:P):e=.returned (.bool true):=by
 rcases h.get with ⟨h1,_⟩ | ⟨_,h2⟩
 ·exact h1
 ·exact absurd hp h2
theorem Says.neg {e:Ending} {P:Prop} (h:Says e P) (hp:¬ P):e=.returned (.bool false):=by
 rcases h.get with ⟨_,h2⟩ | ⟨h1,_⟩
 ·exact absurd h2 hp
 ·exact h1
theorem upK_take (l:List Nat) (q:Nat) (hq:q < l.length):upK (l.take (q+1))=max (upK (l.take q)) (l[q]+1):=by
 rw [List.take_succ_eq_append_getElem hq,upK_snoc]
theorem upK_bound (l:List Nat) (b:Nat) (h:∀ x ∈ l,x≤b):upK l≤b+1:=by
 have:∀ n,∀ l:List Nat,l.length=n→(∀ x ∈ l,x≤b)→upK l≤b+1:=by
  intro n
  induction n with
  | zero=>intro l h _;rw [List.length_eq_zero_iff.1 h];simp [upK]
  | succ n ih =>
   intro l h hx
   obtain ⟨l',y,rfl⟩:=(List.eq_nil_or_concat l).resolve_left (by rintro rfl;cases h)
   rw [List.concat_eq_append] at h hx ⊢
   rw [upK_snoc]
   have h1:=ih l' (by simp at h;exact h) (fun x hm=>hx x (by simp [hm]))
   have h2:=hx y (by simp)
   omega
 exact this _ l rfl h
theorem SInv_step {nd:Nat→Nd} {O:List (List Nat)} {B:Nat} {W1 W:World} {j:Nat} {ks:List Nat} {v:Value} (hO:j < O.length) (hks:O.getD j []=ks) (hnn:¬ v=.slice none 0 0)
  (hown:W.ownsRow B 3 1 v (j+1) (intRow (highs (O.take j)) ++ [.int .i64 (upK (kidHighs (highs (O.take j)) ks):Nat)])) (hfit:∀ x,x < j→(highs O).getD x 0≤50∧FitAt nd O x)
  (h50:upK (kidHighs (highs (O.take j)) ks)≤50) (hP:PlainNd (nd j)) (hK:KidsOk (nd j).kind ks.length (fun i=>nd (ks.getD i 0))) (hb:Below B W1 W):SInv nd O B W1 W (j+1) v:=by
 obtain ⟨g,c,rfl,hB,hr⟩:=RowAt.of_own hown hnn
 have e:highs (O.take (j+1))=highs (O.take j) ++ [upK (kidHighs (highs (O.take j)) ks)]:=by rw [highs_take O j hO,hks]
 refine ⟨g,c,rfl,hB,?_,?_,hb⟩
 ·rw [e,intRow_append];exact hr
 ·intro x hx
  rcases Nat.lt_or_eq_of_le (Nat.lt_succ_iff.1 hx) with h | h
  ·exact hfit x h
  ·subst h
   refine ⟨?_,?_⟩
   ·rw [← highs_pre O (x+1) x (by omega) (by omega),e,List.getD_eq_getElem?_getD,List.getElem?_append_right (by rw [highs_length,List.length_take];omega)]
    rw [highs_length,List.length_take,Nat.min_eq_left (by omega),Nat.sub_self]
    simpa using h50
   ·unfold FitAt
    rw [hks]
    exact ⟨hP,hK⟩
theorem spec_bad {nd:Nat→Nd} {N j:Nat} {O:List (List Nat)} {x:Nat} {ks:List Nat} (h:kidsF nd N=some (O,[x])) (hj:j < N) (hks:O.getD j []=ks) (hb:¬ (upK (kidHighs (highs (O.take j)) ks)≤50∧PlainNd (nd j)∧KidsOk (nd j).kind ks.length (fun i=>nd (ks.getD i 0)))):¬ ValidT nd N:=by
 rintro ⟨_,_,_,O2,x2,h4,h5⟩
 rw [h] at h4
 cases h4
 have hO:=(kidsF_len nd _ _ _ h).1
 obtain ⟨f1,f2⟩:=h5 j hj
 unfold FitAt at f2
 rw [hks] at f2
 refine hb ⟨?_,f2.1,f2.2⟩
 rw [← highs_pre O (j+1) j (by omega) (by omega),highs_take O j (by omega),List.getD_eq_getElem?_getD,List.getElem?_append_right (by rw [highs_length,List.length_take];omega)] at f1
 rw [highs_length,List.length_take,Nat.min_eq_left (by omega),Nat.sub_self,hks] at f1
 simpa using f1
set_option maxHeartbeats 4000000 in
theorem specValid_any (b N cap:Nat) (nd:Nat→Nd) (w:World) (hN1:1≤N) (hN:N≤5000) (h24:(nd (N - 1)).kind=24) (hb:b < w.heap.size) (hn:NodesAt w b N nd) (hx:∀ i,i < N→(nd i).text.size≤maxLen) :
  Calls Tryz.prog 27 #[.agg #[.slice (some ⟨b,0,none⟩) N cap]] w fun e w'=>Says e (ValidT nd N)∧Below w.heap.size w w':=by
 have HX:=hid hx
 have HBT:=hid ((Below.refl w.heap.size w).alloc (Nat.le_refl _) (.cells #[.slice (some ⟨b,0,none⟩) N cap] 25))
 have HNT:=hid (hn.below HBT.out hb)
 have HN:=hid hn
 have hb0:=hb
 have HIN:Hid ((decide ((1:Int)≤(N:Int)) && decide ((N:Int)≤5000))=true):=by show _=_;simp;omega
 have a0:=((hn.below HBT.out hb) (N - 1) (by omega)).1
 rw [h24] at a0
 clear hn hx
 go_enter Tryz.func27,Tryz.ntmps27
 go_wp2_with (first
  | (go_at_call 22;refine (l1In_dec _ _ _ _).mono ?_;rintro e w' ⟨rfl,hw⟩;have hw2:=hw.symm;clear hw;subst hw2;rw [HIN.out])
  | (go_at_call 47;refine (l2Kids_any b N cap nd _ hN (by simp;omega) HNT.out).mono ?_;rintro e w1 ⟨hb1,⟨v,rfl,hno⟩ | ⟨L,x,go,co,rfl,hkf,hrow,hgo,hall⟩⟩))
 ·have HF:Hid (¬ ValidT nd N):=fun ⟨_,_,_,O,x,h4,_⟩=>hno O x h4
  clear hno
  go_ret
  exact ⟨says_f HF.out,HBT.out.trans (hb1.mono (by simp))⟩
 ·have HKF:=hid hkf
  have HROW:=hid hrow
  have HALL:=hid hall
  have HB1:=hid hb1
  have hLl:L.length=N:=by have:=(kidsF_len nd _ _ _ hkf).1;rwa [List.length_map] at this
  have hgo1:=hrow.lt
  have hw1:w.heap.size+1≤w1.heap.size:=by have:=hb1.size;simpa using this
  have hgo2:w.heap.size+1≤go:=by simpa using hgo
  obtain ⟨O,hO⟩:∃ O,L.map (fun x=>x.2.2)=O:=⟨_,rfl⟩
  rw [hO] at HKF
  have HO:=hid hO
  have hOl:O.length=N:=by rw [← hO,List.length_map];exact hLl
  obtain ⟨i0,hi,hz0,hz1,hz2⟩:=info_parts info_int
  have HHI:=hid (And.intro hi (And.intro hz0 (And.intro hz1 hz2)))
  have HBB:=hid (HBT.out.trans (hb1.mono (B':=w.heap.size) (by simp)))
  have HTC:=hid (tree_cell (w:=w) (wr:=w1) (by simpa using hb1))
  have HLL:=hid hLl
  have HOL:=hid hOl
  clear hkf hrow hall hb1 hgo hO hi hz0 hz1 hz2 hLl hOl a0
  go_loopw [6,7] (fun vh i wr=>∃ j:Nat,j≤N∧i=.int .i64 j∧SInv nd O w1.heap.size w1 wr j vh) (fun _ i _=>N - (intOf i).toNat)
  case atStart =>
   refine ⟨0,Nat.zero_le _,rfl,w1.heap.size,0,rfl,Nat.le_refl _,?_,fun x h=>absurd h (Nat.not_lt_zero _),(Below.refl _ _).alloc (Nat.le_refl _) _⟩
   exact ⟨rfl,Nat.le_refl _,by unfold maxLen;omega,#[],heap_alloc_new w1 _,rfl,rfl⟩
  case round =>
   obtain ⟨j,hj,rfl,gh,c,rfl,hBg,hrh,hfit,hbw⟩:=hrel
   have HRH:=hid hrh
   have HFIT:=hid hfit
   have HBW:=hid hbw
   have hghl:=hrh.lt
   clear hrh hfit hbw
   by_cases hlt:j < N
   ·have hjL:j < L.length:=by have:=HLL.out;omega
    obtain ⟨⟨gk,ck,ks⟩,hLj⟩:∃ y,L[j]?=some y:=⟨L[j],List.getElem?_eq_getElem hjL⟩
    have hmem:(gk,ck,ks) ∈ L:=List.mem_of_getElem? hLj
    obtain ⟨hgk0,hrk⟩:=HALL.out _ hmem
    have hgk1:=hrk.lt
    have HKS:Hid (O.getD j []=ks):=by
     show _=_
     rw [← HO.out,List.getD_eq_getElem?_getD,List.getElem?_map,hLj];rfl
    have HLT:=hid (kids_lt HKF.out j hlt)
    rw [HKS.out] at HLT
    have hbx:∀ p:Addr,p.block < w1.heap.size→wr.cell? p=w1.cell? p:=fun p hp=>HBW.out.cell hp
    have c1:wr.cell? ⟨go,j,none⟩=some (.slice (some ⟨gk,0,none⟩) ks.length ck):=by
     rw [hbx _ hgo1,HROW.out.cell j hjL]
     simp [gridRow,hLj]
    have HG:Hid ((gridRow L)[j]?=some (.slice (some ⟨gk,0,none⟩) ks.length ck)):=by
     show _=_
     simp [gridRow,hLj]
    have HC2:Hid (∀ q (hq:q < ks.length),wr.cell? ⟨gk,q,none⟩=some (.int .i64 (ks[q]:Nat))):=fun q hq=>by
     rw [hbx _ hgk1,hrk.cell q hq]
     simp [intRow,hq]
    have HC3:Hid (∀ y,y < j→wr.cell? ⟨gh,y,none⟩=some (.int .i64 ((highs (O.take j)).getD y 0:Nat))):=fun y hy=>by
     have hl:(highs (O.take j)).length=j:=by rw [highs_length,List.length_take];have:=HOL.out;omega
     rw [HRH.out.cell y hy]
     simp [intRow,hl,hy]
    have HUB:Hid (∀ q,upK ((kidHighs (highs (O.take j)) ks).take q)≤5001):=fun q=>upK_bound _ 5000 (fun x hx=>by
     obtain ⟨y,_,rfl⟩:=List.mem_map.1 (List.mem_of_mem_take hx)
     have:=highs_le (O.take j) y
     rw [List.length_take] at this
     show (highs (O.take j)).getD y 0≤5000
     omega)
    have hksl:ks.length≤5000:=by have:=kids_len_le HKF.out j hlt;rw [HKS.out] at this;omega
    have HRK:=hid hrk
    clear hrk hmem hLj hbx
    go_wp2
    go_loop [8,9] (fun h i=>∃ q:Nat,q≤ks.length∧i=.int .i64 q∧h=.int .i64 (upK ((kidHighs (highs (O.take j)) ks).take q):Nat)) (fun _ i=>ks.length - (intOf i).toNat)
    case atStart=>exact ⟨0,Nat.zero_le _,rfl,rfl⟩
    case round =>
     obtain ⟨q,hq,rfl,rfl⟩:=hrel
     by_cases hql:q < ks.length
     ·have d2:=HC2.out q hql
      have hyj:ks[q] < j:=HLT.out _ (List.getElem_mem hql)
      have d3:=HC3.out ks[q] hyj
      have hkl:q < (kidHighs (highs (O.take j)) ks).length:=by simp [kidHighs];exact hql
      have HS:=hid (upK_take _ q hkl)
      have hkg:(kidHighs (highs (O.take j)) ks)[q]=(highs (O.take j)).getD ks[q] 0:=by simp [kidHighs]
      rw [hkg] at HS
      have hub:=HUB.out q
      have hub2:(highs (O.take j)).getD ks[q] 0≤5000:=by
       have:=highs_le (O.take j) ks[q]
       rw [List.length_take] at this
       omega
      clear hkg hkl
      generalize (highs (O.take j)).getD ks[q] 0=hy at *
      generalize ks[q]=y at *
      generalize upK ((kidHighs (highs (O.take j)) ks).take q)=u at *
      by_cases hgt:u < hy+1
      ·go_wp2
       go_round
       case rel=>exact ⟨q+1,by omega,by go_num,by rw [HS.out];congr 1;omega⟩
       case measure=>simp [intOf];omega
      ·go_wp2
       go_round
       case rel=>exact ⟨q+1,by omega,by go_num,by rw [HS.out];congr 1;omega⟩
       case measure=>simp [intOf];omega
     ·obtain rfl:q=ks.length:=by omega
      have HUF:Hid ((kidHighs (highs (O.take j)) ks).take ks.length=kidHighs (highs (O.take j)) ks):=List.take_of_length_le (by simp [kidHighs])
      rw [HUF.out]
      obtain ⟨h,hh⟩:∃ h,upK (kidHighs (highs (O.take j)) ks)=h:=⟨_,rfl⟩
      rw [hh]
      have hh50:h≤5001:=by have:=HUB.out ks.length;rw [HUF.out,hh] at this;exact this
      have HBAD:=hid (spec_bad HKF.out hlt HKS.out)
      rw [hh] at HBAD
      have HBE:Hid (∀ W,Below w1.heap.size w1 W→Below w.heap.size w W):=fun W hb=>HBB.out.trans (hb.mono (by omega))
      have HSV:Hid (∀ W,Below w1.heap.size w1 W→Seven W w.heap.size b go j (nd j) (.slice (some ⟨b,0,none⟩) N cap) (.slice (some ⟨gk,0,none⟩) ks.length ck)):=fun W hb=>by
       obtain ⟨f0,f1,f2,f3,f4⟩:=(HN.out.below (HBE.out W hb) hb0) j hlt
       refine ⟨(hb.cell (p:=⟨w.heap.size,0,none⟩) hw1).trans HTC.out,f0,f1,f2,f3,f4,?_⟩
       rw [hb.cell (p:=⟨go,j,none⟩) hgo1,HROW.out.cell j hjL]
       exact HG.out
      have HPL:Hid (∀ W,Below w1.heap.size w1 W→PlacesAt W gk 0 ks.length N (fun i=>ks.getD i 0)):=fun W hb i hi=>by
       refine ⟨?_,?_⟩
       ·rw [hb.cell (p:=⟨gk,0+i,none⟩) hgk1,Nat.zero_add,HRK.out.cell i hi]
        simp [intRow,hi]
       ·show ks.getD i 0 < N
        rw [List.getD_eq_getElem?_getD,List.getElem?_eq_getElem hi]
        have:=HLT.out _ (List.getElem_mem hi)
        simp;omega
      have hbw1:b < w1.heap.size:=by omega
      by_cases h5:h≤50
      ·have hd:decide ((50:Int) < (h:Int))=false:=by simp;omega
       by_cases hP:PlainNd (nd j)
       ·have HP:=hid hP
        by_cases hK:KidsOk (nd j).kind ks.length (fun i=>nd (ks.getD i 0))
        ·have HK:=hid hK
         clear hP hK
         go_wp2_with (at_builtin;refine wpList_append_own_at _ rfl (.tmp 72) (.tmp 74) 31 rfl w1.heap.size 3 i0 (.int .i64 0) 1 8 Tryz.underlying31 HHI.out.1 HHI.out.2.1 HHI.out.2.2.1 HHI.out.2.2.2 rfl (by decide) (.slice (some ⟨gh,0,none⟩) j c) j (intRow (highs (O.take j))) rfl ((HRH.out.alloc _).own hBg) ⟨wr.heap.size,0,none⟩ 1 1 [.int .i64 h] rfl rfl (cell_one_new _ _ _) (by simp [Value.oneCell']) (by unfold maxLen;omega) (by omega) (by have:=HBW.out.size;simp;omega) ?_;intro v2 w2 o2 g2 nn2 b2;have O2:=hid o2;have NN2:=hid (some_not_nil nn2);have HB2:=hid ((HBW.out.alloc HBW.out.size _).grown g2 (by have:=HBW.out.size;simp;omega) (fun q e=>by injection e with e;exact e ▸ hBg));have hw2:=HB2.out.size;clear o2 g2 nn2 b2)
         obtain ⟨s1,s2,s3,s4,s5,s6,s7⟩:=HSV.out _ HB2.out
         go_region_held3 (fun w'=>w'.cell? ⟨w.heap.size,0,none⟩=some (.slice (some ⟨b,0,none⟩) N cap)∧w'.cell? ⟨b,j * 5,none⟩=some (.int .i64 (nd j).kind)∧w'.cell? ⟨b,j * 5+1,none⟩=some (.int .i64 (nd j).op)∧w'.cell? ⟨b,j * 5+2,none⟩=some (.int .i64 (nd j).n)∧w'.cell? ⟨b,j * 5+3,none⟩=some (.string (nd j).text)∧w'.cell? ⟨b,j * 5+4,none⟩=some (.int .i64 (nd j).kids)∧w'.cell? ⟨go,j,none⟩=some (.slice (some ⟨gk,0,none⟩) ks.length ck)) (first | (exact Seven.below ⟨s1,s2,s3,s4,s5,s6,s7⟩ (W:=w2.drew) hb3 (by simp;omega) (by simp;omega) (by simp;omega)) | (exact HSV.out _ HB4.out) | go_keep) (first | (go_at_call 48;refine (l2Plain_any (nd j) _ (HX.out j hlt)).mono ?_;rintro e w3 ⟨hs3,hb3⟩;have HB3:=hid (HB2.out.drew.trans (hb3.mono (by simpa using hw2)));obtain rfl:=hs3.pos HP.out) | (go_at_call 49;refine (l2KidsOk_any (nd j).kind b N cap gk 0 ks.length ck nd (fun i=>ks.getD i 0) _ (by omega) HRK.out.2.1 (Nat.lt_of_lt_of_le (Nat.lt_of_lt_of_le hbw1 hw2) hb3.size) (Nat.lt_of_lt_of_le (Nat.lt_of_lt_of_le hgk1 hw2) hb3.size) (HN.out.below (HBE.out _ HB3.out) hb0) (HPL.out _ HB3.out)).mono ?_;rintro e w4 ⟨hs4,hb4⟩;have HB4:=hid (HB3.out.trans (hb4.mono (Nat.le_trans hw2 hb3.size)));have HO4:=hid (own_below (own_below (show w2.drew.ownsRow w1.heap.size 3 1 v2 (j+1) _ from O2.out) hb3) hb4);obtain rfl:=hs4.pos HK.out))
         have NX:=hid (SInv_step (by have:=HOL.out;omega) HKS.out NN2.out (by rw [hh];exact HO4.out) HFIT.out (by rw [hh];exact h5) HP.out HK.out HB4.out)
         go_wp2
         go_roundw
         case rel=>exact ⟨j+1,by omega,by go_num,NX.out⟩
         case measure=>simp [intOf];omega
        ·have HF:=hid (HBAD.out (fun h=>hK h.2.2))
         have HK:=hid hK
         clear hP hK
         go_wp2_with (at_builtin;refine wpList_append_own_at _ rfl (.tmp 72) (.tmp 74) 31 rfl w1.heap.size 3 i0 (.int .i64 0) 1 8 Tryz.underlying31 HHI.out.1 HHI.out.2.1 HHI.out.2.2.1 HHI.out.2.2.2 rfl (by decide) (.slice (some ⟨gh,0,none⟩) j c) j (intRow (highs (O.take j))) rfl ((HRH.out.alloc _).own hBg) ⟨wr.heap.size,0,none⟩ 1 1 [.int .i64 h] rfl rfl (cell_one_new _ _ _) (by simp [Value.oneCell']) (by unfold maxLen;omega) (by omega) (by have:=HBW.out.size;simp;omega) ?_;intro v2 w2 o2 g2 nn2 b2;have O2:=hid o2;have NN2:=hid (some_not_nil nn2);have HB2:=hid ((HBW.out.alloc HBW.out.size _).grown g2 (by have:=HBW.out.size;simp;omega) (fun q e=>by injection e with e;exact e ▸ hBg));have hw2:=HB2.out.size;clear o2 g2 nn2 b2)
         obtain ⟨s1,s2,s3,s4,s5,s6,s7⟩:=HSV.out _ HB2.out
         go_region_held3 (fun w'=>w'.cell? ⟨w.heap.size,0,none⟩=some (.slice (some ⟨b,0,none⟩) N cap)∧w'.cell? ⟨b,j * 5,none⟩=some (.int .i64 (nd j).kind)∧w'.cell? ⟨b,j * 5+1,none⟩=some (.int .i64 (nd j).op)∧w'.cell? ⟨b,j * 5+2,none⟩=some (.int .i64 (nd j).n)∧w'.cell? ⟨b,j * 5+3,none⟩=some (.string (nd j).text)∧w'.cell? ⟨b,j * 5+4,none⟩=some (.int .i64 (nd j).kids)∧w'.cell? ⟨go,j,none⟩=some (.slice (some ⟨gk,0,none⟩) ks.length ck)) (first | (exact Seven.below ⟨s1,s2,s3,s4,s5,s6,s7⟩ (W:=w2.drew) hb3 (by simp;omega) (by simp;omega) (by simp;omega)) | (exact HSV.out _ HB4.out) | go_keep) (first | (go_at_call 48;refine (l2Plain_any (nd j) _ (HX.out j hlt)).mono ?_;rintro e w3 ⟨hs3,hb3⟩;have HB3:=hid (HB2.out.drew.trans (hb3.mono (by simpa using hw2)));obtain rfl:=hs3.pos HP.out) | (go_at_call 49;refine (l2KidsOk_any (nd j).kind b N cap gk 0 ks.length ck nd (fun i=>ks.getD i 0) _ (by omega) HRK.out.2.1 (Nat.lt_of_lt_of_le (Nat.lt_of_lt_of_le hbw1 hw2) hb3.size) (Nat.lt_of_lt_of_le (Nat.lt_of_lt_of_le hgk1 hw2) hb3.size) (HN.out.below (HBE.out _ HB3.out) hb0) (HPL.out _ HB3.out)).mono ?_;rintro e w4 ⟨hs4,hb4⟩;have HB4:=hid (HB3.out.trans (hb4.mono (Nat.le_trans hw2 hb3.size)));have HO4:=hid (own_below (own_below (show w2.drew.ownsRow w1.heap.size 3 1 v2 (j+1) _ from O2.out) hb3) hb4);obtain rfl:=hs4.neg HK.out))
         go_wp2
         go_ret
         exact ⟨says_f HF.out,HBE.out _ HB4.out⟩
       ·have HF:=hid (HBAD.out (fun h=>hP h.2.1))
        have HP:=hid hP
        clear hP
        go_wp2_with (at_builtin;refine wpList_append_own_at _ rfl (.tmp 72) (.tmp 74) 31 rfl w1.heap.size 3 i0 (.int .i64 0) 1 8 Tryz.underlying31 HHI.out.1 HHI.out.2.1 HHI.out.2.2.1 HHI.out.2.2.2 rfl (by decide) (.slice (some ⟨gh,0,none⟩) j c) j (intRow (highs (O.take j))) rfl ((HRH.out.alloc _).own hBg) ⟨wr.heap.size,0,none⟩ 1 1 [.int .i64 h] rfl rfl (cell_one_new _ _ _) (by simp [Value.oneCell']) (by unfold maxLen;omega) (by omega) (by have:=HBW.out.size;simp;omega) ?_;intro v2 w2 o2 g2 nn2 b2;have O2:=hid o2;have NN2:=hid (some_not_nil nn2);have HB2:=hid ((HBW.out.alloc HBW.out.size _).grown g2 (by have:=HBW.out.size;simp;omega) (fun q e=>by injection e with e;exact e ▸ hBg));have hw2:=HB2.out.size;clear o2 g2 nn2 b2)
        have HSW:∀ p:Gr w2,Seven p.W w.heap.size b go j (nd j) (.slice (some ⟨b,0,none⟩) N cap) (.slice (some ⟨gk,0,none⟩) ks.length ck):=fun p=>HSV.out _ (HB2.out.trans (p.h.mono hw2))
        have t0:=fun p:Gr w2=>(HSW p).1
        have t1:=fun p:Gr w2=>(HSW p).2.1
        have t2:=fun p:Gr w2=>(HSW p).2.2.1
        have t3:=fun p:Gr w2=>(HSW p).2.2.2.1
        have t4:=fun p:Gr w2=>(HSW p).2.2.2.2.1
        have t5:=fun p:Gr w2=>(HSW p).2.2.2.2.2.1
        have t6:=fun p:Gr w2=>(HSW p).2.2.2.2.2.2
        clear HSW
        have hne:Nonempty (Gr w2):=⟨⟨w2,Below.refl _ _⟩⟩
        refine wp_region_gr (by kernel_rfl) (by kernel_rfl) ?_
        repeat (go_big_quiet_step (first | (go_at_call 48;refine Calls.gr_of (v:=.bool false) fun _=>?_;refine (l2Plain_any (nd j) _ (HX.out j hlt)).mono ?_;rintro e w3 ⟨hs3,hb3⟩;exact ⟨hs3.neg HP.out,hb3⟩)))
        refine wpQuiet_nil ?_
        intro _ hw'
        obtain ⟨pw,rfl⟩:=hw'
        have HB4:=hid (HB2.out.trans (pw.h.mono hw2))
        clear t0 t1 t2 t3 t4 t5 t6
        go_wp2
        go_ret
        exact ⟨says_f HF.out,HBE.out _ HB4.out⟩
      ·have HF:=hid (HBAD.out (fun h=>h5 h.1))
       have hd:(50:Int) < (h:Int):=by omega
       go_wp2_with (at_builtin;refine wpList_append_own_at _ rfl (.tmp 72) (.tmp 74) 31 rfl w1.heap.size 3 i0 (.int .i64 0) 1 8 Tryz.underlying31 HHI.out.1 HHI.out.2.1 HHI.out.2.2.1 HHI.out.2.2.2 rfl (by decide) (.slice (some ⟨gh,0,none⟩) j c) j (intRow (highs (O.take j))) rfl ((HRH.out.alloc _).own hBg) ⟨wr.heap.size,0,none⟩ 1 1 [.int .i64 h] rfl rfl (cell_one_new _ _ _) (by simp [Value.oneCell']) (by unfold maxLen;omega) (by omega) (by have:=HBW.out.size;simp;omega) ?_;intro v2 w2 o2 g2 nn2 b2;have O2:=hid o2;have NN2:=hid (some_not_nil nn2);have HB2:=hid ((HBW.out.alloc HBW.out.size _).grown g2 (by have:=HBW.out.size;simp;omega) (fun q e=>by injection e with e;exact e ▸ hBg));have hw2:=HB2.out.size;clear o2 g2 nn2 b2)
       go_quiet (fail)
       go_wp2
       go_ret
       exact ⟨says_f HF.out,HBE.out _ (below_drewN HB2.out _)⟩
   ·obtain rfl:j=N:=by omega
    have HT:Hid (ValidT nd j):=⟨hN1,hN,h24,O,x,HKF.out,HFIT.out⟩
    go_wp2
    go_ret
    exact ⟨says_t HT.out,HBB.out.trans (HBW.out.mono (by omega))⟩
theorem info_sd:(Tryz.prog.info? 113).map (fun i=>(i.zero,i.size,i.bytes))=some (some (.agg #[.int .i64 0,.int .i64 0,.int .i64 0,.string ⟨#[]⟩,.int .i64 0,.int .i64 0]),6,56):=by kernel_rfl
def VInv (nd:Nat→Nd) (B:Nat) (W0 W:World) (j:Nat) (vo:Value):Prop:=∃ o s,kidsF nd j=some (o,s)∧(∀ x,x < j→FitAt nd o x)∧W.ownsRow B 113 6 vo s.length (sdRow nd (highs o) s)∧Below B W0 W
theorem five_new {w w1:World} {a0 a1 a2 a3 a4:Value} {t:TypeId} (h:Below (w.alloc (.cells #[a0,a1,a2,a3,a4] t)).heap.size (w.alloc (.cells #[a0,a1,a2,a3,a4] t)) w1) :
  w1.cell? ⟨w.heap.size,0,none⟩=some a0∧w1.cell? ⟨w.heap.size,1,none⟩=some a1∧w1.cell? ⟨w.heap.size,2,none⟩=some a2∧w1.cell? ⟨w.heap.size,3,none⟩=some a3∧w1.cell? ⟨w.heap.size,4,none⟩=some a4:=by
 have f:∀ i,w1.cell? ⟨w.heap.size,i,none⟩=#[a0,a1,a2,a3,a4][i]?:=fun i=>by
  rw [h.cell (p:=⟨w.heap.size,i,none⟩) (by simp),cell_new_row]
 exact ⟨f 0,f 1,f 2,f 3,f 4⟩
theorem five_keep {W W':World} {B g:Nat} {a0 a1 a2 a3 a4:Value} (h:Below B W.drew W') (hB:g < B) (hw:W.cell? ⟨g,0,none⟩=some a0∧W.cell? ⟨g,1,none⟩=some a1∧W.cell? ⟨g,2,none⟩=some a2∧W.cell? ⟨g,3,none⟩=some a3∧W.cell? ⟨g,4,none⟩=some a4) :
  W'.cell? ⟨g,0,none⟩=some a0∧W'.cell? ⟨g,1,none⟩=some a1∧W'.cell? ⟨g,2,none⟩=some a2∧W'.cell? ⟨g,3,none⟩=some a3∧W'.cell? ⟨g,4,none⟩=some a4:=by
 obtain ⟨h0,h1,h2,h3,h4⟩:=hw
 exact ⟨(h.cell (p:=⟨g,_,none⟩) hB).trans h0,(h.cell (p:=⟨g,_,none⟩) hB).trans h1,(h.cell (p:=⟨g,_,none⟩) hB).trans h2,(h.cell (p:=⟨g,_,none⟩) hB).trans h3,(h.cell (p:=⟨g,_,none⟩) hB).trans h4⟩
theorem cell_six_new (w:World) (a b c d e f:Value) (t:TypeId):∀ j u,[a,b,c,d,e,f][j]?=some u→(w.alloc (.cells #[a,b,c,d,e,f] t)).cell? ((⟨w.heap.size,0,none⟩:Addr).add j)=some u:=by
 intro j u hj
 have e1:((⟨w.heap.size,0,none⟩:Addr).add j)=⟨w.heap.size,j,none⟩:=by unfold Addr.add;simp;intro h;exact h.symm
 rw [e1,cell_new_row,← hj];simp
theorem five_grown {W W':World} {g r:Nat} {X:Obj} {a0 a1 a2 a3 a4:Value} (h:(W.alloc X).grownBy W' (some r)) (hg:g < W.heap.size) (hr:r≠g) (hw:W.cell? ⟨g,0,none⟩=some a0∧W.cell? ⟨g,1,none⟩=some a1∧W.cell? ⟨g,2,none⟩=some a2∧W.cell? ⟨g,3,none⟩=some a3∧W.cell? ⟨g,4,none⟩=some a4) :
  W'.cell? ⟨g,0,none⟩=some a0∧W'.cell? ⟨g,1,none⟩=some a1∧W'.cell? ⟨g,2,none⟩=some a2∧W'.cell? ⟨g,3,none⟩=some a3∧W'.cell? ⟨g,4,none⟩=some a4:=by
 have e:∀ i,W'.cell? ⟨g,i,none⟩=W.cell? ⟨g,i,none⟩:=fun i=>by
  have:=h.block g (by simp;omega) (fun e=>hr (by injection e with e;exact e.symm))
  rw [← cell_alloc_lt W X g i hg]
  unfold World.cell?
  rw [this]
 obtain ⟨h0,h1,h2,h3,h4⟩:=hw
 exact ⟨(e _).trans h0,(e _).trans h1,(e _).trans h2,(e _).trans h3,(e _).trans h4⟩
theorem five_grown_none {W W':World} {g:Nat} {X:Obj} {a0 a1 a2 a3 a4:Value} (h:(W.alloc X).grownBy W' none) (hg:g < W.heap.size) (hw:W.cell? ⟨g,0,none⟩=some a0∧W.cell? ⟨g,1,none⟩=some a1∧W.cell? ⟨g,2,none⟩=some a2∧W.cell? ⟨g,3,none⟩=some a3∧W.cell? ⟨g,4,none⟩=some a4) :
  W'.cell? ⟨g,0,none⟩=some a0∧W'.cell? ⟨g,1,none⟩=some a1∧W'.cell? ⟨g,2,none⟩=some a2∧W'.cell? ⟨g,3,none⟩=some a3∧W'.cell? ⟨g,4,none⟩=some a4:=by
 have e:∀ i,W'.cell? ⟨g,i,none⟩=W.cell? ⟨g,i,none⟩:=fun i=>by
  have:=h.block g (by simp;omega) (fun e=>by cases e)
  rw [← cell_alloc_lt W X g i hg]
  unfold World.cell?
  rw [this]
 obtain ⟨h0,h1,h2,h3,h4⟩:=hw
 exact ⟨(e _).trans h0,(e _).trans h1,(e _).trans h2,(e _).trans h3,(e _).trans h4⟩
theorem kid_highs (hs sk:List Nat) (k:Nat) (hk:sk.length=k):((List.range k).map fun i=>hs.getD (sk.getD i 0) 0)=kidHighs hs sk:=by
 subst hk
 apply List.ext_getElem
 ·simp [kidHighs]
 ·intro i h1 h2
  simp [kidHighs] at h1 h2 ⊢
  simp [h1]
theorem VInv_step {nd:Nat→Nd} {B:Nat} {W0 W:World} {j p k:Nat} {o:List (List Nat)} {sp sk:List Nat} {v:Value} {x:Nd} {h:Nat} (hkf:kidsF nd j=some (o,sp ++ sk)) (hfit:∀ x,x < j→FitAt nd o x) (hk:(nd j).kids=sk.length) (hp:sp.length=p) (hsk:sk.length=k)
  (hx:x=nd j) (hh:h=upK ((List.range k).map fun i=>(highs o).getD (sk.getD i 0) 0)) (hown:W.ownsRow B 113 6 v (p+1) (sdRow nd (highs o) sp ++ sdCells x h)) (hP:PlainNd (nd j)) (hK:KidsOk (nd j).kind k (fun i=>nd (sk.getD i 0))) (hb:Below B W0 W):VInv nd B W0 W (j+1) v:=by
 have hl:=kidsF_len nd _ _ _ hkf
 rw [kid_highs _ _ _ hsk] at hh
 subst hx hh
 refine ⟨o ++ [sk],sp ++ [j],kidsF_good hkf hk rfl,?_,?_,hb⟩
 ·have:=FitAt_snoc (nd:=nd) (o:=o) (sk:=sk) (by rw [hl.1];exact hfit) (by rw [hl.1,hsk];exact ⟨hP,hK⟩)
  rw [hl.1] at this
  exact this
 ·rw [highs_snoc,sdRow_snoc nd (highs o) _ j sp (fun x hx=>by rw [highs_length,hl.1];exact hl.2.2 x (by simp [hx])) (by rw [highs_length];exact hl.1),List.length_append,hp]
  exact hown
set_option maxHeartbeats 4000000 in
theorem implValid_any (b N cap:Nat) (nd:Nat→Nd) (w:World) (hN:N≤5000) (hb:b < w.heap.size) (hn:NodesAt w b N nd) (hx:∀ i,i < N→(nd i).text.size≤maxLen) :
  Calls Tryz.prog 34 #[.agg #[.slice (some ⟨b,0,none⟩) N cap]] w fun e w'=>Says e (ValidT nd N)∧Below w.heap.size w w':=by
 have HN:=hid hn
 have HX:=hid hx
 clear hn hx
 obtain ⟨i0,hi,hz0,hz1,hz2⟩:=info_parts info_sd
 have HHI:=hid (And.intro hi (And.intro hz0 (And.intro hz1 hz2)))
 clear hi hz0 hz1 hz2
 go_enter Tryz.func34,Tryz.ntmps34
 go_wp2_with (go_at_call 39;refine (clayWords_any _).mono ?_;rintro e w' ⟨rfl,rfl⟩)
 go_loopw [4,17] (fun vo i wr=>∃ j:Nat,j≤N∧i=.int .i64 j∧VInv nd (w.heap.size+2) ((w.alloc (.cells #[.slice (some ⟨b,0,none⟩) N cap] 25)).alloc (.map (wordE 17) 17)) wr j vo) (fun _ i _=>N - (intOf i).toNat)
 case atStart=>exact ⟨0,Nat.zero_le _,rfl,[],[],rfl,fun x h=>absurd h (Nat.not_lt_zero _),own_nil _ _,Below.refl _ _⟩
 case round =>
  obtain ⟨j,hj,rfl,o,s,hkf,hfit,hown,hbw⟩:=hrel
  have HKF:=hid hkf
  have HFIT:=hid hfit
  have HBW:=hid hbw
  have HLEN:=hid (kidsF_len nd _ _ _ hkf)
  have hsz:w.heap.size+2≤wr.heap.size:=by have:=hbw.size;simpa using this
  have HB0:=hid ((below_two w (.cells #[.slice (some ⟨b,0,none⟩) N cap] 25) (.map (wordE 17) 17)).trans (hbw.mono (B':=w.heap.size) (by omega)))
  have HMAP:Hid (wr.heap[w.heap.size+1]?=some (.map (wordE 17) 17)):=by
   have:=heap_alloc_new (w.alloc (.cells #[.slice (some ⟨b,0,none⟩) N cap] 25)) (.map (wordE 17) 17)
   rw [World.size_alloc] at this
   exact (hbw.block _ (by omega)).trans this
  clear hkf hfit hbw
  by_cases hlt:j < N
  ·obtain ⟨a0,a1,a2,a3,a4⟩:=(HN.out.below HB0.out hb) j hlt
   by_cases hok:0≤(nd j).kids∧(nd j).kids≤s.length
   ·obtain ⟨k,hk⟩:=Int.eq_ofNat_of_zero_le hok.1
    have hks:k≤s.length:=by omega
    clear hok
    obtain ⟨sp,sk,hs,hsk⟩:∃ sp sk,s=sp ++ sk∧sk.length=k:=⟨s.take (s.length - k),s.drop (s.length - k),(List.take_append_drop _ _).symm,by simp;omega⟩
    subst hs
    obtain ⟨p,hp⟩:∃ p,sp.length=p:=⟨_,rfl⟩
    have hpk:(sp ++ sk).length=p+k:=by rw [List.length_append,hp,hsk]
    have HK:Hid ((nd j).kids=sk.length):=by rw [hsk];exact hk
    have hpj:p+k≤j:=by have:=HLEN.out.2.1;omega
    have HND:Hid ((⟨(nd j).kind,(nd j).op,(nd j).n,(nd j).text,(k:Int)⟩:Nd)=nd j):=by
     show _=_
     rw [← hk]
    rw [hk] at a4
    rw [hpk] at hks hown
    clear hk
    rcases SdAt.of_own hown with ⟨rfl,h1,h2⟩ | ⟨g,co,rfl,hBg,hrow⟩
    ·obtain rfl:k=0:=by omega
     obtain rfl:p=0:=by omega
     obtain rfl:sp=[]:=List.length_eq_zero_iff.1 hp
     clear h2 hown
     have HST:Hid (∀ W,Below wr.heap.size wr W→StA W none 0 (fun i=>nd (sk.getD i 0)) (fun i=>(highs o).getD (sk.getD i 0) 0)):=fun W _=>.inl rfl
     have HXK:Hid (∀ i,i < 0→(nd (sk.getD i 0)).text.size≤maxLen):=fun i hi=>HX.out _ (by
      have:sk.getD i 0 ∈ [] ++ sk:=by
       rw [List.getD_eq_getElem?_getD,List.getElem?_eq_getElem (by omega)]
       simp
      have:=HLEN.out.2.2 _ this
      omega)
     go_wp2_with (first
      | (go_at_call 61;refine (usesFit_any ⟨(nd j).kind,(nd j).op,(nd j).n,(nd j).text,((0:Nat):Int)⟩ (w.heap.size+1) _ (HX.out j hlt) (by rw [Below.heap_alloc _ _ _ (by omega)];exact HMAP.out)).mono ?_;rintro e w1 ⟨hs1,hb1⟩;obtain ⟨k0,k1,k2,k3,k4⟩:=five_new hb1;have HB1:=hid hb1;clear hb1;rcases hs1.get with ⟨rfl,hP1⟩ | ⟨rfl,hP1⟩;all_goals (have HP1:=hid hP1;clear hP1 hs1))
      | (go_at_call 62;refine (kidsFit_any _ none 0 _ (fun i=>nd (sk.getD i 0)) (fun i=>(highs o).getD (sk.getD i 0) 0) _ (by omega) HXK.out (by omega) (by unfold maxLen;omega) (HST.out _ (((Below.refl _ _).alloc (Nat.le_refl _) _).trans (HB1.out.mono (by simp))))).mono ?_;rintro e w2 ⟨hs2,hb2⟩;obtain ⟨q0,q1,q2,q3,q4⟩:=five_new (HB1.out.trans (hb2.mono HB1.out.size));have HB2:=hid hb2;clear hb2;rcases hs2.get with ⟨rfl,hP2⟩ | ⟨rfl,hP2⟩;all_goals (have HP2:=hid hP2;clear hP2 hs2)))
     ·have HH:Hid (∀ i,i < 0→(fun i=>(highs o).getD (sk.getD i 0) 0) i≤5000):=fun i _=>by have:=highs_le o (sk.getD i 0);have:=HLEN.out.1;show (highs o).getD (sk.getD i 0) 0≤5000;omega
      have HBX:=hid ((HBW.out.alloc hsz _).trans ((HB1.out.trans (HB2.out.mono HB1.out.size)).mono (B':=w.heap.size+2) (by simp;omega)))
      have HBR:=hid (((Below.refl _ _).alloc (Nat.le_refl _) _).trans ((HB1.out.trans (HB2.out.mono HB1.out.size)).mono (B':=wr.heap.size) (by simp)))
      have hw2:wr.heap.size < w2.heap.size:=by have:=HB2.out.size;have:=HB1.out.size;simp at this;omega
      have hw3:w.heap.size+2≤w2.drew.heap.size:=by have:=HBX.out.size;simp at this ⊢;omega
      go_region_held3 (fun w'=>w'.cell? ⟨wr.heap.size,0,none⟩=some (.int .i64 (nd j).kind)∧w'.cell? ⟨wr.heap.size,1,none⟩=some (.int .i64 (nd j).op)∧w'.cell? ⟨wr.heap.size,2,none⟩=some (.int .i64 (nd j).n)∧w'.cell? ⟨wr.heap.size,3,none⟩=some (.string (nd j).text)∧w'.cell? ⟨wr.heap.size,4,none⟩=some (.int .i64 0)) (first | (exact five_keep hb3 (by simp;omega) ⟨q0,q1,q2,q3,q4⟩) | (exact S4) | go_keep) (first | (go_at_call 63;refine (highAbove_all none 0 _ _ _ _ (by omega) HH.out (HST.out _ HBR.out.drew)).mono ?_;rintro e w3 ⟨rfl,hb3⟩) | (refine step_append_own_at rfl (.tmp 52) (.tmp 57) 108 rfl (w.heap.size+2) 113 i0 (.agg #[.int .i64 0,.int .i64 0,.int .i64 0,.string ⟨#[]⟩,.int .i64 0,.int .i64 0]) 6 56 Tryz.underlying108 HHI.out.1 HHI.out.2.1 HHI.out.2.2.1 HHI.out.2.2.2 rfl (by decide) (.slice none 0 0) 0 (sdRow nd (highs o) []) (by simp [Act.eval]) (own_nil _ _) ⟨w3.heap.size,0,none⟩ 1 1 (sdCells ⟨(nd j).kind,(nd j).op,(nd j).n,(nd j).text,((0:Nat):Int)⟩ (upK ((List.range 0).map fun i=>(highs o).getD (sk.getD i 0) 0))) (by simp [Act.eval]) rfl (cell_six_new _ _ _ _ _ _ _ _) (by simp [sdCells,Value.oneCell']) (by unfold maxLen;omega) (by omega) (by have:=HBR.out.size;have:=hb3.size;simp at this;simp;omega) ?_;intro v4 w4 o4 g4 n4 b4;have S4:=five_grown_none g4 (Nat.lt_of_lt_of_le hw2 hb3.size) (five_keep hb3 (by simp;omega) ⟨q0,q1,q2,q3,q4⟩)))
      have hb4:=((HBX.out.drew.trans (hb3.mono hw3)).alloc (Nat.le_trans hw3 hb3.size) _).grown g4 (by rw [World.size_alloc];exact Nat.le_succ_of_le (Nat.le_trans hw3 hb3.size)) (fun q e=>by cases e)
      have NX:=hid (VInv_step HKF.out HFIT.out HK.out hp hsk HND.out rfl o4 (HND.out ▸ HP1.out.1) HP2.out hb4)
      clear o4 g4 n4 b4 hb3 hb4 S4
      go_wp2
      go_roundw
      case rel=>exact ⟨j+1,by omega,by go_num,NX.out⟩
      case measure=>simp [intOf];omega
     ·have HF:=hid (invalid_at hlt HKF.out HK.out (fun h=>HP2.out (by rw [hsk] at h;exact h.2)))
      go_ret
      exact ⟨says_f HF.out,(HB0.out.alloc (by omega) _).trans ((HB1.out.trans (HB2.out.mono HB1.out.size)).mono (B':=w.heap.size) (by simp;omega))⟩
     ·have HF:=hid (invalid_at hlt HKF.out HK.out (fun h=>HP1.out (by
       rw [HND.out]
       refine ⟨h.1,?_⟩
       by_cases hr:1≤(nd j).kind∧(nd j).kind≤24
       ·exact hr
       ·exact absurd h.2 ((KF_end _ _ _).2.2.2.2.2 (by omega)))))
      go_ret
      exact ⟨says_f HF.out,(HB0.out.alloc (by omega) _).trans (HB1.out.mono (B':=w.heap.size) (by simp;omega))⟩
    ·have HROW:=hid hrow
     have hcm:=hrow.2.1
     have hcx:=hrow.2.2.1
     unfold maxLen at hcx
     have hgl:=hrow.lt
     clear hown hrow
     by_cases hcp:co=p
     ·subst hcp
      obtain rfl:k=0:=by omega
      simp only [Nat.add_zero] at *
      have HST:Hid (∀ W,Below wr.heap.size wr W→StA W (some ⟨g,0,none⟩) 0 (fun i=>nd (sk.getD i 0)) (fun i=>(highs o).getD (sk.getD i 0) 0)):=fun W _=>.inl rfl
      have HXK:Hid (∀ i,i < 0→(nd (sk.getD i 0)).text.size≤maxLen):=fun i hi=>HX.out _ (by
       have:sk.getD i 0 ∈ sp ++ sk:=by
        rw [List.getD_eq_getElem?_getD,List.getElem?_eq_getElem (by omega)]
        simp
       have:=HLEN.out.2.2 _ this
       omega)
      go_wp2_with (first
       | (go_at_call 61;refine (usesFit_any ⟨(nd j).kind,(nd j).op,(nd j).n,(nd j).text,((0:Nat):Int)⟩ (w.heap.size+1) _ (HX.out j hlt) (by rw [Below.heap_alloc _ _ _ (by omega)];exact HMAP.out)).mono ?_;rintro e w1 ⟨hs1,hb1⟩;obtain ⟨k0,k1,k2,k3,k4⟩:=five_new hb1;have HB1:=hid hb1;clear hb1;rcases hs1.get with ⟨rfl,hP1⟩ | ⟨rfl,hP1⟩;all_goals (have HP1:=hid hP1;clear hP1 hs1))
       | (go_at_call 62;refine (kidsFit_any _ (some ⟨g,0,none⟩) 0 _ (fun i=>nd (sk.getD i 0)) (fun i=>(highs o).getD (sk.getD i 0) 0) _ (by omega) HXK.out (by omega) (by unfold maxLen;omega) (HST.out _ (((Below.refl _ _).alloc (Nat.le_refl _) _).trans (HB1.out.mono (by simp))))).mono ?_;rintro e w2 ⟨hs2,hb2⟩;obtain ⟨q0,q1,q2,q3,q4⟩:=five_new (HB1.out.trans (hb2.mono HB1.out.size));have HB2:=hid hb2;clear hb2;rcases hs2.get with ⟨rfl,hP2⟩ | ⟨rfl,hP2⟩;all_goals (have HP2:=hid hP2;clear hP2 hs2)))
      ·have HH:Hid (∀ i,i < 0→(fun i=>(highs o).getD (sk.getD i 0) 0) i≤5000):=fun i _=>by have:=highs_le o (sk.getD i 0);have:=HLEN.out.1;show (highs o).getD (sk.getD i 0) 0≤5000;omega
       have HBX:=hid ((HBW.out.alloc hsz _).trans ((HB1.out.trans (HB2.out.mono HB1.out.size)).mono (B':=w.heap.size+2) (by simp;omega)))
       have HBR:=hid (((Below.refl _ _).alloc (Nat.le_refl _) _).trans ((HB1.out.trans (HB2.out.mono HB1.out.size)).mono (B':=wr.heap.size) (by simp)))
       have HROW2:=hid ((sdRow_append nd (highs o) sp sk) ▸ HROW.out)
       have i1:(0:Int)≤(co:Int):=by omega
       have hw2:wr.heap.size < w2.heap.size:=by have:=HB2.out.size;have:=HB1.out.size;simp at this;omega
       have hw3:w.heap.size+2≤w2.drew.heap.size:=by have:=HBX.out.size;simp at this ⊢;omega
       go_region_held3 (fun w'=>w'.cell? ⟨wr.heap.size,0,none⟩=some (.int .i64 (nd j).kind)∧w'.cell? ⟨wr.heap.size,1,none⟩=some (.int .i64 (nd j).op)∧w'.cell? ⟨wr.heap.size,2,none⟩=some (.int .i64 (nd j).n)∧w'.cell? ⟨wr.heap.size,3,none⟩=some (.string (nd j).text)∧w'.cell? ⟨wr.heap.size,4,none⟩=some (.int .i64 0)) (first | (exact five_keep hb3 (by simp;omega) ⟨q0,q1,q2,q3,q4⟩) | (exact S4) | go_keep) (first | (go_at_call 63;refine (highAbove_all (some ⟨g,0,none⟩) 0 _ _ _ _ (by omega) HH.out (HST.out _ HBR.out.drew)).mono ?_;rintro e w3 ⟨rfl,hb3⟩) | (refine step_append_own_at rfl (.tmp 52) (.tmp 57) 108 rfl (w.heap.size+2) 113 i0 (.agg #[.int .i64 0,.int .i64 0,.int .i64 0,.string ⟨#[]⟩,.int .i64 0,.int .i64 0]) 6 56 Tryz.underlying108 HHI.out.1 HHI.out.2.1 HHI.out.2.2.1 HHI.out.2.2.2 rfl (by decide) (.slice (some ⟨g,0,none⟩) co co) co (sdRow nd (highs o) sp) (by simp [Act.eval]) (((HROW2.out.front (by rw [sdRow_length,hp])).below ((HBR.out.drew.trans (hb3.mono HBR.out.size)).alloc (by have:=HBR.out.size;have:=hb3.size;simp at this;omega) _)).own hBg) ⟨w3.heap.size,0,none⟩ 1 1 (sdCells ⟨(nd j).kind,(nd j).op,(nd j).n,(nd j).text,((0:Nat):Int)⟩ (upK ((List.range 0).map fun i=>(highs o).getD (sk.getD i 0) 0))) (by simp [Act.eval]) rfl (cell_six_new _ _ _ _ _ _ _ _) (by simp [sdCells,Value.oneCell']) (by unfold maxLen;omega) (by omega) (by have:=HBR.out.size;have:=hb3.size;simp at this;simp;omega) ?_;intro v4 w4 o4 g4 n4 b4;have S4:=five_grown (r:=g) g4 (Nat.lt_of_lt_of_le hw2 hb3.size) (Nat.ne_of_lt hgl) (five_keep hb3 (by simp;omega) ⟨q0,q1,q2,q3,q4⟩)))
       have hb4:=((HBX.out.drew.trans (hb3.mono hw3)).alloc (Nat.le_trans hw3 hb3.size) _).grown g4 (by rw [World.size_alloc];exact Nat.le_succ_of_le (Nat.le_trans hw3 hb3.size)) (fun q e=>by cases e;exact hBg)
       have NX:=hid (VInv_step HKF.out HFIT.out HK.out hp hsk HND.out rfl o4 (HND.out ▸ HP1.out.1) HP2.out hb4)
       clear o4 g4 n4 b4 hb3 hb4 S4
       go_wp2
       go_roundw
       case rel=>exact ⟨j+1,by omega,by go_num,NX.out⟩
       case measure=>simp [intOf];omega
      ·have HF:=hid (invalid_at hlt HKF.out HK.out (fun h=>HP2.out (by rw [hsk] at h;exact h.2)))
       go_ret
       exact ⟨says_f HF.out,(HB0.out.alloc (by omega) _).trans ((HB1.out.trans (HB2.out.mono HB1.out.size)).mono (B':=w.heap.size) (by simp;omega))⟩
      ·have HF:=hid (invalid_at hlt HKF.out HK.out (fun h=>HP1.out (by
        rw [HND.out]
        refine ⟨h.1,?_⟩
        by_cases hr:1≤(nd j).kind∧(nd j).kind≤24
        ·exact hr
        ·exact absurd h.2 ((KF_end _ _ _).2.2.2.2.2 (by omega)))))
       go_ret
       exact ⟨says_f HF.out,(HB0.out.alloc (by omega) _).trans (HB1.out.mono (B':=w.heap.size) (by simp;omega))⟩
     ·have HST:Hid (∀ W,Below wr.heap.size wr W→StA W (some ⟨g,p * 6,none⟩) k (fun i=>nd (sk.getD i 0)) (fun i=>(highs o).getD (sk.getD i 0) 0)):=fun W hb=>by
       have:=(HROW.out.stand hp).below hb hgl
       rw [hsk] at this
       exact .inr ⟨g,p * 6,rfl,Nat.lt_of_lt_of_le hgl hb.size,this⟩
      have HXK:Hid (∀ i,i < k→(nd (sk.getD i 0)).text.size≤maxLen):=fun i hi=>HX.out _ (by
       have:sk.getD i 0 ∈ sp ++ sk:=by
        rw [List.getD_eq_getElem?_getD,List.getElem?_eq_getElem (by omega)]
        simp
       have:=HLEN.out.2.2 _ this
       omega)
      go_wp2_with (first
       | (go_at_call 61;refine (usesFit_any ⟨(nd j).kind,(nd j).op,(nd j).n,(nd j).text,(k:Int)⟩ (w.heap.size+1) _ (HX.out j hlt) (by rw [Below.heap_alloc _ _ _ (by omega)];exact HMAP.out)).mono ?_;rintro e w1 ⟨hs1,hb1⟩;obtain ⟨k0,k1,k2,k3,k4⟩:=five_new hb1;have HB1:=hid hb1;clear hb1;rcases hs1.get with ⟨rfl,hP1⟩ | ⟨rfl,hP1⟩;all_goals (have HP1:=hid hP1;clear hP1 hs1))
       | (go_at_call 62;refine (kidsFit_any _ (some ⟨g,p * 6,none⟩) k _ (fun i=>nd (sk.getD i 0)) (fun i=>(highs o).getD (sk.getD i 0) 0) _ (by omega) HXK.out (by omega) (by unfold maxLen;omega) (HST.out _ (((Below.refl _ _).alloc (Nat.le_refl _) _).trans (HB1.out.mono (by simp))))).mono ?_;rintro e w2 ⟨hs2,hb2⟩;obtain ⟨q0,q1,q2,q3,q4⟩:=five_new (HB1.out.trans (hb2.mono HB1.out.size));have HB2:=hid hb2;clear hb2;rcases hs2.get with ⟨rfl,hP2⟩ | ⟨rfl,hP2⟩;all_goals (have HP2:=hid hP2;clear hP2 hs2)))
      ·have HH:Hid (∀ i,i < k→(fun i=>(highs o).getD (sk.getD i 0) 0) i≤5000):=fun i _=>by have:=highs_le o (sk.getD i 0);have:=HLEN.out.1;show (highs o).getD (sk.getD i 0) 0≤5000;omega
       have HBX:=hid ((HBW.out.alloc hsz _).trans ((HB1.out.trans (HB2.out.mono HB1.out.size)).mono (B':=w.heap.size+2) (by simp;omega)))
       have HBR:=hid (((Below.refl _ _).alloc (Nat.le_refl _) _).trans ((HB1.out.trans (HB2.out.mono HB1.out.size)).mono (B':=wr.heap.size) (by simp)))
       have HROW2:=hid ((sdRow_append nd (highs o) sp sk) ▸ HROW.out)
       have i1:(0:Int)≤(p:Int):=by omega
       have i2:(p:Int)≤(co:Int):=by omega
       have i3:¬ co=0:=by omega
       have hw2:wr.heap.size < w2.heap.size:=by have:=HB2.out.size;have:=HB1.out.size;simp at this;omega
       have hw3:w.heap.size+2≤w2.drew.heap.size:=by have:=HBX.out.size;simp at this ⊢;omega
       go_region_held3 (fun w'=>w'.cell? ⟨wr.heap.size,0,none⟩=some (.int .i64 (nd j).kind)∧w'.cell? ⟨wr.heap.size,1,none⟩=some (.int .i64 (nd j).op)∧w'.cell? ⟨wr.heap.size,2,none⟩=some (.int .i64 (nd j).n)∧w'.cell? ⟨wr.heap.size,3,none⟩=some (.string (nd j).text)∧w'.cell? ⟨wr.heap.size,4,none⟩=some (.int .i64 k)) (first | (exact five_keep hb3 (by simp;omega) ⟨q0,q1,q2,q3,q4⟩) | (exact S4) | go_keep) (first | (go_at_call 63;refine (highAbove_all (some ⟨g,p * 6,none⟩) k _ _ _ _ (by omega) HH.out (HST.out _ HBR.out.drew)).mono ?_;rintro e w3 ⟨rfl,hb3⟩) | (refine step_append_own_at rfl (.tmp 52) (.tmp 57) 108 rfl (w.heap.size+2) 113 i0 (.agg #[.int .i64 0,.int .i64 0,.int .i64 0,.string ⟨#[]⟩,.int .i64 0,.int .i64 0]) 6 56 Tryz.underlying108 HHI.out.1 HHI.out.2.1 HHI.out.2.2.1 HHI.out.2.2.2 rfl (by decide) (.slice (some ⟨g,0,none⟩) p co) p (sdRow nd (highs o) sp) (by simp [Act.eval]) (((HROW2.out.front (by rw [sdRow_length,hp])).below ((HBR.out.drew.trans (hb3.mono HBR.out.size)).alloc (by have:=HBR.out.size;have:=hb3.size;simp at this;omega) _)).own hBg) ⟨w3.heap.size,0,none⟩ 1 1 (sdCells ⟨(nd j).kind,(nd j).op,(nd j).n,(nd j).text,(k:Int)⟩ (upK ((List.range k).map fun i=>(highs o).getD (sk.getD i 0) 0))) (by simp [Act.eval]) rfl (cell_six_new _ _ _ _ _ _ _ _) (by simp [sdCells,Value.oneCell']) (by unfold maxLen;omega) (by omega) (by have:=HBR.out.size;have:=hb3.size;simp at this;simp;omega) ?_;intro v4 w4 o4 g4 n4 b4;have S4:=five_grown (r:=g) g4 (Nat.lt_of_lt_of_le hw2 hb3.size) (Nat.ne_of_lt hgl) (five_keep hb3 (by simp;omega) ⟨q0,q1,q2,q3,q4⟩)))
       have hb4:=((HBX.out.drew.trans (hb3.mono hw3)).alloc (Nat.le_trans hw3 hb3.size) _).grown g4 (by rw [World.size_alloc];exact Nat.le_succ_of_le (Nat.le_trans hw3 hb3.size)) (fun q e=>by cases e;exact hBg)
       have NX:=hid (VInv_step HKF.out HFIT.out HK.out hp hsk HND.out rfl o4 (HND.out ▸ HP1.out.1) HP2.out hb4)
       clear o4 g4 n4 b4 hb3 hb4 S4
       go_wp2
       go_roundw
       case rel=>exact ⟨j+1,by omega,by go_num,NX.out⟩
       case measure=>simp [intOf];omega
      ·have HF:=hid (invalid_at hlt HKF.out HK.out (fun h=>HP2.out (by rw [hsk] at h;exact h.2)))
       go_ret
       exact ⟨says_f HF.out,(HB0.out.alloc (by omega) _).trans ((HB1.out.trans (HB2.out.mono HB1.out.size)).mono (B':=w.heap.size) (by simp;omega))⟩
      ·have HF:=hid (invalid_at hlt HKF.out HK.out (fun h=>HP1.out (by
        rw [HND.out]
        refine ⟨h.1,?_⟩
        by_cases hr:1≤(nd j).kind∧(nd j).kind≤24
        ·exact hr
        ·exact absurd h.2 ((KF_end _ _ _).2.2.2.2.2 (by omega)))))
       go_ret
       exact ⟨says_f HF.out,(HB0.out.alloc (by omega) _).trans (HB1.out.mono (B':=w.heap.size) (by simp;omega))⟩
   ·have HF:Hid (¬ ValidT nd N):=fun ⟨_,_,_,O,x,h4,_⟩=>by
     have:=kidsF_bad HKF.out hok N hlt
     rw [this] at h4;cases h4
    rcases SdAt.of_own hown with ⟨rfl,h1,h2⟩ | ⟨g,co,rfl,hBg,hrow⟩
    ·rw [h1] at hok
     clear hown h2
     by_cases hneg:(nd j).kids < 0
     ·go_wp2
      go_ret
      exact ⟨says_f HF.out,HB0.out.alloc (by omega) _⟩
     ·have hge:0≤(nd j).kids:=by omega
      have hgt:(0:Int) < (nd j).kids:=by omega
      go_wp2
      go_ret
      exact ⟨says_f HF.out,HB0.out.alloc (by omega) _⟩
    ·clear hown hrow
     by_cases hneg:(nd j).kids < 0
     ·go_wp2
      go_ret
      exact ⟨says_f HF.out,HB0.out.alloc (by omega) _⟩
     ·have hge:0≤(nd j).kids:=by omega
      have hgt:(s.length:Int) < (nd j).kids:=by omega
      have hsl:s.length≤5000:=by have:=HLEN.out.2.1;omega
      go_wp2
      go_ret
      exact ⟨says_f HF.out,HB0.out.alloc (by omega) _⟩
  ·obtain rfl:j=N:=by omega
   have HE:=hid (valid_end hN HKF.out HFIT.out)
   rcases SdAt.of_own hown with ⟨rfl,h1,h2⟩ | ⟨g,co,rfl,hBg,hrow⟩
   ·have HF:Hid (¬ ValidT nd j):=fun h=>by have:=(HE.out.1 h).1;omega
    clear hown h2
    go_wp2
    go_ret
    exact ⟨says_f HF.out,HB0.out⟩
   ·have HROW:=hid hrow
    have hsl:s.length≤5000:=by have:=HLEN.out.2.1;omega
    clear hown hrow
    by_cases hone:s.length=1
    ·obtain ⟨x,rfl⟩:=List.length_eq_one_iff.1 hone
     have hst:=HROW.out.stand (sp:=[]) (sk:=[x]) (p:=0) rfl 0 (by simp)
     have r0:wr.cell? ⟨g,0,none⟩=some (.int .i64 (nd x).kind):=hst.1
     have r5:wr.cell? ⟨g,5,none⟩=some (.int .i64 ((highs o).getD x 0:Nat)):=hst.2.2.2.2.2
     have HE2:Hid (ValidT nd j ↔ (nd x).kind=24∧(highs o).getD x 0≤50):=by
      show _ ↔ _
      rw [HE.out]
      simp
     clear hst
     generalize (highs o).getD x 0=hx at r5 HE2
     clear HE
     by_cases c1:(nd x).kind=24
     ·have d1:((nd x).kind == 24)=true:=by rw [c1];rfl
      have HT:Hid (decide ((hx:Int)≤50)=true ↔ ValidT nd j):=by
       show _ ↔ _
       rw [HE2.out,decide_eq_true_iff]
       constructor
       ·intro h;exact ⟨c1,by omega⟩
       ·intro h;have:=h.2;omega
      clear c1
      go_wp2
      go_ret
      exact ⟨⟨_,rfl,HT.out⟩,HB0.out⟩
     ·have d1:((nd x).kind == 24)=false:=by rw [beq_eq_false_iff_ne];exact c1
      have HF:=hid (fun h=>c1 (HE2.out.1 h).1)
      clear c1
      go_wp2
      go_ret
      exact ⟨says_f HF.out,HB0.out⟩
    ·have HF:Hid (¬ ValidT nd j):=fun h=>hone (HE.out.1 h).1
     have d0:((s.length:Int) == 1)=false:=by rw [beq_eq_false_iff_ne];omega
     clear hone
     go_wp2
     go_ret
     exact ⟨says_f HF.out,HB0.out⟩
end Go.Proofs.YthnohneaanphbaaGreatDoor
