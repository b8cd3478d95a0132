import Derived.Deep.RegionLaw
import Derived.Test.YthnohneaanphbaaGreatDoorJ15
import Derived.Test.YthnohneaanphbaaGreatDoorJ05
import Derived.Test.YthnohneaanphbaaGreatDoorJ12
import Derived.Test.YthnohneaanphbaaGreatDoorJ13
namespace Go.Proofs.YthnohneaanphbaaGreatDoor.K
open Go.RowKit
set_option maxRecDepth 20000
theorem get_eq (s:ByteArray) (k:Nat) (h:k < s.size):s.data.toList[k]'(by rw [len_size];exact h)=s[k]:=rfl
set_option maxHeartbeats 1000000 in
theorem l1Gap_any (s:ByteArray) (a:Int) (w:World) (hs:s.size≤maxLen) (h0:0≤a) (h1:a≤s.size) :
  Calls Tryz.prog 79 #[.string s,.int .i64 a] w fun e w'=>e=.returned (.int .i64 (a+gapN false (s.data.toList.drop a.toNat)))∧w'=w:=by
 unfold maxLen at hs
 obtain ⟨n,rfl⟩:=Int.eq_ofNat_of_zero_le h0
 rw [Int.toNat_natCast]
 obtain ⟨T,hT⟩:∃ T:Nat,n+gapN false (s.data.toList.drop n)=T:=⟨_,rfl⟩
 have e:((n:Int)+(gapN false (s.data.toList.drop n):Nat))=(T:Int):=by omega
 rw [e];clear e
 have HT:Hid (n+gapN false (s.data.toList.drop n)=T):=hT
 clear hT
 have hn:n≤s.size:=by omega
 clear h0 h1
 have hsz:=len_size s
 have HSZ:Hid (s.data.toList.length=s.size):=hsz
 clear hsz
 go_enter Tryz.func79,Tryz.ntmps79
 go_wp2
 go_loop [1] (fun i=>∃ k:Nat,k≤s.size∧i=.int .i64 k∧k+gapN false (s.data.toList.drop k)=T) (fun i=>s.size - (intOf i).toNat)
 case atStart=>exact ⟨n,hn,rfl,HT.out⟩
 case round =>
  obtain ⟨k,hk,rfl,hr⟩:=hrel
  have HR:Hid (k+gapN false (s.data.toList.drop k)=T):=hr
  clear hr
  by_cases hlt:k < s.size
  ·have hl:k < s.data.toList.length:=by rw [HSZ.out];exact hlt
   by_cases c1:s[k].toNat=35
   ·have c1':((s[k].toNat:Int) == 35)=true:=by rw [beq_iff_eq];omega
    have HG:Hid (k+gapN true (s.data.toList.drop k)=T):=by
     show _=_;rw [← gf_note _ k hl (by rw [get_eq s k hlt];exact c1)];exact HR.out
    have C1:Hid (s[k].toNat=35):=c1
    clear c1
    go_wp2
    go_loop [1] (fun i=>∃ m:Nat,k≤m∧m≤s.size∧i=.int .i64 m∧m+gapN true (s.data.toList.drop m)=T) (fun i=>s.size - (intOf i).toNat)
    case atStart=>exact ⟨k,Nat.le_refl _,hk,rfl,HG.out⟩
    case round =>
     obtain ⟨m,hkm,hm,rfl,hr2⟩:=hrel
     have HR2:Hid (m+gapN true (s.data.toList.drop m)=T):=hr2
     clear hr2
     by_cases hml:m < s.size
     ·have hl2:m < s.data.toList.length:=by rw [HSZ.out];exact hml
      by_cases c2:s[m].toNat=10
      ·have c2':((s[m].toNat:Int) != 10)=false:=by simp;omega
       have hne:k < m:=by
        rcases Nat.lt_or_eq_of_le hkm with h | h
        ·exact h
        ·subst h;have:=C1.out;omega
       have HX:Hid (m+gapN false (s.data.toList.drop m)=T):=by
        show _=_;rw [← gt_nl _ m hl2 (by rw [get_eq s m hml];exact c2)];exact HR2.out
       clear c2
       go_wp2
       go_round
       case rel=>exact ⟨m,hm,rfl,HX.out⟩
       case measure=>simp [intOf];omega
      ·have c2':((s[m].toNat:Int) != 10)=true:=by simp;omega
       have HX:Hid (m+1+gapN true (s.data.toList.drop (m+1))=T):=by
        have:=gt_step _ m hl2 (by rw [get_eq s m hml];exact c2)
        have h2:=HR2.out
        show _=_;omega
       clear c2
       go_wp2
       go_round
       case rel=>exact ⟨m+1,by omega,by omega,by go_num,HX.out⟩
       case measure=>simp [intOf];omega
     ·have HX:Hid (m+gapN false (s.data.toList.drop m)=T):=by
       have:=g_end true s.data.toList m (by rw [HSZ.out];omega)
       have h3:=g_end false s.data.toList m (by rw [HSZ.out];omega)
       have h2:=HR2.out
       show _=_;omega
      go_wp2
      go_round
      case rel=>exact ⟨m,hm,rfl,HX.out⟩
      case measure=>simp [intOf];omega
   ·have c1':((s[k].toNat:Int) == 35)=false:=by rw [beq_eq_false_iff_ne];omega
    by_cases c3:s[k].toNat=32∨s[k].toNat=10
    ·have HX:Hid (k+1+gapN false (s.data.toList.drop (k+1))=T):=by
      have:=gf_blank _ k hl (by rw [get_eq s k hlt];exact c3)
      have h2:=HR.out
      show _=_;omega
     clear c1
     by_cases c4:s[k].toNat=32
     ·have c4':((s[k].toNat:Int) == 32)=true:=by rw [beq_iff_eq];omega
      clear c3 c4
      go_wp2
      go_round
      case rel=>exact ⟨k+1,by omega,by go_num,HX.out⟩
      case measure=>simp [intOf];omega
     ·have c4':((s[k].toNat:Int) == 32)=false:=by rw [beq_eq_false_iff_ne];omega
      have c5':((s[k].toNat:Int) == 10)=true:=by rw [beq_iff_eq];omega
      clear c3 c4
      go_wp2
      go_round
      case rel=>exact ⟨k+1,by omega,by go_num,HX.out⟩
      case measure=>simp [intOf];omega
    ·have c4':((s[k].toNat:Int) == 32)=false:=by rw [beq_eq_false_iff_ne];omega
     have c5':((s[k].toNat:Int) == 10)=false:=by rw [beq_eq_false_iff_ne];omega
     have HX:Hid (k=T):=by
      have:=gf_stop _ k hl (by rw [get_eq s k hlt];exact c1) (by rw [get_eq s k hlt];omega) (by rw [get_eq s k hlt];omega)
      have h2:=HR.out
      show _=_;omega
     clear c1 c3
     go_wp2
     go_ret
     exact ⟨ret_int (by rw [HX.out]),rfl⟩
  ·have HX:Hid (k=T):=by
    have:=g_end false s.data.toList k (by rw [HSZ.out];omega)
    have h2:=HR.out
    show _=_;omega
   go_wp2
   go_ret
   exact ⟨ret_int (by rw [HX.out]),rfl⟩
end Go.Proofs.YthnohneaanphbaaGreatDoor.K
namespace Go.Proofs.YthnohneaanphbaaGreatDoor
open Go.RowKit Go.Maps Go.WideMaps
set_option maxRecDepth 20000
structure Bx where
 bb:Nat
 gb:Nat
 g:Nat
 N:Nat
 cap:Nat
 gk:Nat
 nd:Nat→Nd
 o:List (List Nat)
def Bx.S (x:Bx) (k:Nat):Prop:=k=x.bb∨k=x.gb
def BnAt (W:World) (gb N:Nat) (bn:Nat→Int):Prop:=∃ cur,W.heap[gb]?=some (.cells cur 3 (0,0))∧cur.size=N∧∀ i,i < N→cur[i]?=some (.int .i64 (bn i))
def Bx.row (x:Bx) (c a:Int):Array Value:=#[.slice (some ⟨x.g,0,none⟩) x.N x.cap,.slice (some ⟨x.gk,0,none⟩) x.N x.N,.slice (some ⟨x.gb,0,none⟩) x.N x.N,.int .i64 c,.int .i64 a]
def Bx.At (x:Bx) (W:World) (bn:Nat→Int) (c a:Int):Prop:=W.heap[x.bb]?=some (.cells (x.row c a) 71 (0,0))∧BnAt W x.gb x.N bn
theorem Bx.At.lt {x:Bx} {W:World} {bn:Nat→Int} {c a:Int} (h:x.At W bn c a):∀ j,x.S j→j < W.heap.size:=by
 obtain ⟨h1,cur,h2,_⟩:=h
 rintro j (rfl | rfl)
 ·exact (Array.getElem?_eq_some_iff.1 h1).1
 ·exact (Array.getElem?_eq_some_iff.1 h2).1
theorem Bx.At.five {x:Bx} {W:World} {bn:Nat→Int} {c a:Int} (h:x.At W bn c a) :
  W.cell? ⟨x.bb,0,none⟩=some (.slice (some ⟨x.g,0,none⟩) x.N x.cap)∧W.cell? ⟨x.bb,1,none⟩=some (.slice (some ⟨x.gk,0,none⟩) x.N x.N)∧W.cell? ⟨x.bb,2,none⟩=some (.slice (some ⟨x.gb,0,none⟩) x.N x.N)∧W.cell? ⟨x.bb,3,none⟩=some (.int .i64 c)∧W.cell? ⟨x.bb,4,none⟩=some (.int .i64 a) ∧
  W.frozen? ⟨x.bb,3,none⟩=false∧W.frozen? ⟨x.bb,4,none⟩=false:=by
 have f:∀ i,W.frozen? ⟨x.bb,i,none⟩=false:=fun i=>by unfold World.frozen?;rw [h.1];simp
 refine ⟨?_,?_,?_,?_,?_,f 3,f 4⟩ <;> (unfold World.cell?;rw [h.1];rfl)
def ft:Int × Int→List (Nat × Nat)→Int × Int
 | p,[]=>p
 | p,(k,d) :: r=>ft (if p.1=0 then ((d:Int),(k:Int)) else p) r
theorem ft_append (p:Int × Int) (l r:List (Nat × Nat)):ft p (l ++ r)=ft (ft p l) r:=by
 induction l generalizing p with
 | nil=>rfl
 | cons x l ih=>exact ih _
def Bx.Ends (x:Bx) (w w':World) (bn:Nat→Int) (p:Int × Int) (evs:List Ev):Prop:=Sv x.S w w'∧∃ bn',x.At w' bn' (ft p (fls evs)).1 (ft p (fls evs)).2∧(fls evs=[]→bn'=apB bn evs)
theorem Bx.Ends.nil {x:Bx} {w:World} {bn:Nat→Int} {p:Int × Int} (h:x.At w bn p.1 p.2):x.Ends w w bn p []:=⟨Sv.refl _ _,bn,h,fun _=>rfl⟩
theorem Bx.At.go {x:Bx} {W W':World} {bn:Nat→Int} {c a:Int} (h:x.At W bn c a) (hb:Below W.heap.size W W'):x.At W' bn c a:=by
 have hl:=h.lt
 obtain ⟨h1,cur,h2,h3⟩:=h
 exact ⟨(hb.block _ (hl _ (.inl rfl))).trans h1,cur,(hb.block _ (hl _ (.inr rfl))).trans h2,h3⟩
set_option maxHeartbeats 1000000 in
theorem finds_any (x:Bx) (code at_:Nat) (bn:Nat→Int) (p:Int × Int) (w:World) (h:x.At w bn p.1 p.2) (hne:x.bb≠x.gb) :
  Calls Tryz.prog 97 #[.pointer (some ⟨x.bb,0,none⟩),.int .i64 code,.int .i64 at_] w fun e w'=>e=.returned (.tuple #[])∧x.Ends w w' bn p [.flt at_ code]:=by
 obtain ⟨f0,f1,f2,f3,f4,f5,f6⟩:=h.five
 have H:=hid h
 clear h
 by_cases hc:p.1=0
 ·have HC:=hid hc
  rw [hc] at f3
  clear hc
  go_enter Tryz.func97,Tryz.ntmps97
  go_wp2
  go_end0
  refine ⟨rfl,?_,bn,?_,fun h=>by cases h⟩
  ·exact ((Sv.refl x.S w).setCell (p:=⟨x.bb,3,none⟩) (.inl (.inl rfl)) _).setCell (p:=⟨x.bb,4,none⟩) (.inl (.inl rfl)) _
  ·obtain ⟨h1,cur,h2,h3⟩:=H.out
   refine ⟨?_,cur,?_,h3⟩
   ·have:=set_atC (.int .i64 (at_:Int)) (i:=4) (set_atC (.int .i64 (code:Int)) (i:=3) h1)
    rw [this]
    simp [fls,ft,HC.out,Bx.row]
   ·rw [Below.heap_setCell _ _ _ _ (fun e=>hne e.symm),Below.heap_setCell _ _ _ _ (fun e=>hne e.symm)]
    exact h2
 ·have hq:(p.1 == 0)=false:=by rw [beq_eq_false_iff_ne];exact hc
  have HC:=hid hc
  clear hc
  go_enter Tryz.func97,Tryz.ntmps97
  go_wp2
  go_end0
  refine ⟨rfl,Sv.refl _ _,bn,?_,fun h=>by cases h⟩
  have:ft p (fls [.flt at_ code])=p:=by simp only [fls,ft];rw [if_neg HC.out]
  rw [this]
  exact H.out
end Go.Proofs.YthnohneaanphbaaGreatDoor
namespace Go.Proofs.YthnohneaanphbaaGreatDoor
open Go.RowKit Go.Maps Go.WideMaps
set_option maxRecDepth 20000
def builts:List (List UInt8):=[[108,101,110],[116,101,120,116],[105,110,116],[114,97,110,103,101],[115,111,114,116,101,100],[117,110,105,113,117,101],[106,111,105,110],[115,112,108,105,116],[107,101,121,115],[114,101,99,111,114,100],[119,105,116,104,111,117,116],[98,101,103,105,110,115],[99,117,116],[102,105,108,101,115],[102,97,105,108]]
def builtS (i:Nat):ByteArray:=⟨(builts.getD i []).toArray⟩
def builtArr:Array Value:=(builts.map fun z=>Value.string ⟨z.toArray⟩).toArray
def BEnv (w:World):Prop:=∃ t fr,w.heap[0]?=some (.cells builtArr t fr)
theorem BEnv.below {B:Nat} {w w':World} (h:BEnv w) (hb:Below B w w') (hB:0 < B):BEnv w':=by
 obtain ⟨t,fr,h⟩:=h
 exact ⟨t,fr,(hb.block 0 hB).trans h⟩
theorem BEnv.pos {w:World} (h:BEnv w):0 < w.heap.size:=by
 obtain ⟨t,fr,h⟩:=h
 exact (Array.getElem?_eq_some_iff.1 h).1
def isBuilt (t:ByteArray):Bool:=decide (t.data.toList ∈ builts)
def builtEnv:Env:=fun t=>if isBuilt t=true then -2 else -1
theorem builtArr_get (k:Nat) (h:k < 15):builtArr[k]?=some (.string (builtS k)):=by
 have hl:k < builts.length:=h
 simp [builtArr,builtS,hl]
theorem index_builts (k:Nat) (h:k < 15) (W:World):(Instr.index 120 (.agg builtArr) (.int .i64 k)).run Tryz.prog W=.ok (.string (builtS k)) W:=by
 have hg:=builtArr_get k h
 have hz:=Tryz.sizeOf9 W
 simp [Instr.index,asIntOf,run_underlying Tryz.underlying120,h,hz,part,hg]
theorem builtS_size (k:Nat):(builtS k).size≤maxLen:=by
 have:∀ l ∈ builts,l.length≤10:=by decide
 have h2:(builtS k).size=(builts.getD k []).length:=by simp [builtS,ByteArray.size]
 rw [h2,List.getD_eq_getElem?_getD]
 unfold maxLen
 cases h:builts[k]? with
 | none=>simp
 | some l=>have:=this l (List.mem_of_getElem? h);simp;omega
theorem mem_builts (t:ByteArray):isBuilt t=true ↔ ∃ i,i < 15∧builtS i=t:=by
 unfold isBuilt
 rw [decide_eq_true_iff]
 constructor
 ·intro h
  obtain ⟨i,hl,e⟩:=List.getElem_of_mem h
  exact ⟨i,hl,by simp [builtS,hl,e]⟩
 ·rintro ⟨i,h,rfl⟩
  have hl:i < builts.length:=h
  simp [builtS,hl]
def BF (k:Nat) (f:ByteArray→Option Int):Prop:=∀ t,f t=if ∃ i,i < k∧builtS i=t then some (-2) else none
theorem BF_succ {k:Nat} {f:ByteArray→Option Int} (h:BF k f):BF (k+1) (setF f (builtS k) (-2)):=by
 intro t
 unfold setF
 by_cases e:t=builtS k
 ·rw [if_pos e,if_pos ⟨k,by omega,e.symm⟩]
 ·rw [if_neg e,h t]
  by_cases e2:∃ i,i < k∧builtS i=t
  ·obtain ⟨i,h1,h2⟩:=e2
   rw [if_pos ⟨i,h1,h2⟩,if_pos ⟨i,by omega,h2⟩]
  ·rw [if_neg e2,if_neg]
   rintro ⟨i,h1,h2⟩
   rcases Nat.lt_or_eq_of_le (Nat.lt_succ_iff.1 h1) with h | h
   ·exact e2 ⟨i,h,h2⟩
   ·subst h;exact e h2.symm
set_option maxHeartbeats 1000000 in
theorem builtScope_any (S:Nat→Prop) (w:World) (hS:∀ j,S j→j < w.heap.size) (hE:BEnv w) :
  Calls Tryz.prog 37 #[] w fun e w'=>∃ b,e=.returned (.pointer (some ⟨b,0,none⟩))∧Kn S w' (.pointer (some ⟨b,0,none⟩)) builtEnv∧Below w.heap.size w w':=by
 have HSS:=hid hS
 have hpos:=hE.pos
 have HE:=hid hE
 have hmm:=@run_makeMap Tryz.prog
 clear hS hE
 have HB2:Hid (Below w.heap.size w ((w.alloc (.map #[] 0)).alloc (.cells #[.map (some w.heap.size),.pointer none] 119))):=((Below.refl _ _).alloc (Nat.le_refl _) _).alloc (by simp) _
 have HT0:Hid (Top ((w.alloc (.map #[] 0)).alloc (.cells #[.map (some w.heap.size),.pointer none] 119)) (w.heap.size+1) w.heap.size 0 (fun _=>none) (.pointer none)):=by
  refine ⟨?_,?_,?_,by simp,by omega⟩
  ·rw [cell_push];rfl
  ·rw [cell_push];rfl
  ·exact (MapIs.made w).keep (Below.heap_alloc _ _ _ (by simp))
 obtain ⟨t,fr,hg⟩:=HE.out.below HB2.out hpos
 have HG:=hid hg
 clear hg
 go_enter Tryz.func37,Tryz.ntmps37
 go_wp2_with (refine wpList_load_row rfl 120 (.global 0) rfl 0 rfl t builtArr fr (.array 15 9) HG.out Tryz.underlying120 rfl (by kernel_rfl) ?_)
 go_loopw [8] (fun i wr=>∃ (k:Nat) (f:ByteArray→Option Int),k≤15∧i=.int .i64 k∧BF k f∧Top wr (w.heap.size+1) w.heap.size k f (.pointer none)∧Below w.heap.size w wr) (fun i _=>15 - (intOf i).toNat)
 case atStart=>exact ⟨0,fun _=>none,Nat.zero_le _,rfl,fun t=>by rw [if_neg (fun ⟨i,h,_⟩=>absurd h (Nat.not_lt_zero _))],HT0.out,HB2.out⟩
 case round =>
  obtain ⟨k,f,hk,rfl,hbf,htop,hbw⟩:=hrel
  have HBF:=hid hbf
  have HTOP:=hid htop
  have HBW:=hid hbw
  clear hbf htop hbw
  by_cases hlt:k < 15
  ·have hidx:=index_builts k hlt
   have t0:=HTOP.out.made
   obtain ⟨w2,hrun,hmap,hgr⟩:=HTOP.out.map.put (by unfold maxLen;omega) (builtS k) (builtS_size k) (-2) (by decide)
   have HT2:=hid (top_put HTOP.out hgr hmap (Sv.of_below (S:=S) HBW.out) (Nat.le_refl _))
   have HB2':=hid (HBW.out.grown hgr HBW.out.size (fun q e=>by injection e with e;omega))
   clear hmap hgr
   go_wp2
   go_roundw
   case rel=>exact ⟨k+1,_,by omega,by go_num,BF_succ HBF.out,HT2.out.1,HB2'.out⟩
   case measure=>simp [intOf];omega
  ·obtain rfl:k=15:=by omega
   go_wp2
   go_ret
   refine ⟨w.heap.size+1,rfl,?_,HBW.out⟩
   have hk0:Kn S w (.pointer none) (fun _=>-1):=fun W _=>.nil _
   have:=hk0.top (Sv.of_below HBW.out) HTOP.out (fun h=>by have:=HSS.out _ h;omega) (fun h=>by have:=HSS.out _ h;omega) (by omega)
   have e:(fun t=>(f t).getD (-1))=builtEnv:=by
    funext t
    rw [HBF.out t]
    unfold builtEnv
    by_cases h:∃ i,i < 15∧builtS i=t
    ·rw [if_pos h,if_pos ((mem_builts t).2 h)];rfl
    ·rw [if_neg h,if_neg (fun h2=>h ((mem_builts t).1 h2))];rfl
   rw [e] at this
   exact this
def addF (f:ByteArray→Option Int) (s:ByteArray) (v:Int):ByteArray→Option Int:=fun t=>(f t).or (if t=s then some v else none)
theorem add_some {f:ByteArray→Option Int} {s:ByteArray} (h:(f s).isSome=true) (v:Int):addF f s v=f:=by
 funext t
 unfold addF
 by_cases e:t=s
 ·subst e
  obtain ⟨u,hu⟩:=Option.isSome_iff_exists.1 h
  rw [hu];rfl
 ·rw [if_neg e];simp
theorem add_noneC {f:ByteArray→Option Int} {s:ByteArray} (h:(f s).isSome=false) (v:Int):addF f s v=setF f s v:=by
 funext t
 unfold addF setF
 by_cases e:t=s
 ·subst e
  have:f t=none:=by simpa using h
  rw [this];rfl
 ·rw [if_neg e,if_neg e];simp
theorem top_put1 {W W':World} {b m n:Nat} {f g:ByteArray→Option Int} {v:Value} (ht:Top W b m n f v) (hg:W.grownBy W' (some m)) (hm:MapIs W' m (n+1) g):Top W' b m (n+1) g v :=
 ⟨hg.cell ht.made (fun e=>ht.ne (by injection e with e;exact e.symm)),hg.cell ht.around (fun e=>ht.ne (by injection e with e;exact e.symm)),hm,Nat.lt_of_lt_of_le ht.lt hg.size,ht.ne⟩
theorem grown_refl (w:World) (m:Nat):w.grownBy w (some m):=⟨rfl,rfl,rfl,Nat.le_refl _,fun _ _ _=>rfl⟩
theorem Top.more {W:World} {b m n:Nat} {f:ByteArray→Option Int} {v:Value} (h:Top W b m n f v):Top W b m (n+1) f v:=by
 obtain ⟨D,h1,h2⟩:=h.map
 exact ⟨h.made,h.around,⟨D,h1.mono (Nat.le_succ _),h2⟩,h.lt,h.ne⟩
set_option maxHeartbeats 1000000 in
theorem add_any (b m n:Nat) (f:ByteArray→Option Int) (v:Value) (s:ByteArray) (k:Nat) (w:World) (hs:s.size≤maxLen) (hk:k≤5000) (hn:n < maxLen) (ht:Top w b m n f v) :
  Calls Tryz.prog 99 #[.pointer (some ⟨b,0,none⟩),.string s,.int .i64 k] w fun e w'=>e=.returned (.tuple #[])∧Top w' b m (n+1) (addF f s k) v∧w.grownBy w' (some m):=by
 have t0:=ht.made
 have hget:=ht.map.get s hs
 obtain ⟨w2,hrun,hmap,hgr⟩:=ht.map.put hn s hs k (wf_nat k hk)
 have HT2:=hid (top_put1 ht hgr hmap)
 have HG:=hid hgr
 have HT:=hid ht
 clear ht hmap hgr
 go_enter Tryz.func99,Tryz.ntmps99
 cases hf:(f s).isSome
 ·rw [hf] at hget
  have e:=add_noneC hf k
  clear hf
  go_wp2
  go_end0
  rw [e]
  exact ⟨rfl,HT2.out,HG.out⟩
 ·rw [hf] at hget
  have e:=add_some hf k
  clear hf
  go_wp2
  go_end0
  rw [e]
  exact ⟨rfl,HT.out.more,grown_refl _ _⟩
end Go.Proofs.YthnohneaanphbaaGreatDoor
namespace Go.Proofs.YthnohneaanphbaaGreatDoor
open Go.RowKit
def RecOk (d:Int) (K Ce:Nat):Prop:=∀ (s:Gs) (C:Nat) (w w':World),At s C w w'→Room (C+3 * Ce+50) s→Calls Tryz.prog 125 #[.pointer (some ⟨s.G,0,none⟩),.int .i64 d] w' (NdEnd s (3 * K+8) (C+3 * Ce+20) w w')
theorem ofKind_at {d:Int} {K Ce:Nat} (he:EOk (d - 1) K Ce) (hrec:RecOk d K Ce) (hK:K≤10000) (hd:1≤d) (hd2:d≤10) (kind:Int) {s:Gs} {C:Nat} {w w':World} (h:At s C w w') (hr:Room (C+3 * Ce+60) s) :
  Calls Tryz.prog 110 #[.pointer (some ⟨s.G,0,none⟩),.int .i64 kind,.int .i64 d] w' (NdEnd s (3 * K+8) (C+3 * Ce+40) w w'):=by
 have hk:kind=0∨kind=1∨kind=2∨kind=3∨kind=4∨kind < 0∨4 < kind:=by omega
 rcases hk with rfl | rfl | rfl | rfl | rfl | hk
 ·exact ofKind0_at he hK hd hd2 h hr
 ·exact ofKind1_at he hK hd hd2 h hr
 ·exact ofKind2_at he hK hd hd2 h hr
 ·exact ofKind3_at he hK hd hd2 (fun s C w w' h hr kind=>each_at he hK hd hd2 s C w w' h hr kind) h hr
 ·exact ofKind4_at he hK hd hd2 (fun s C w w' h hr=>hrec s C w w' h hr) h hr
 ·exact ofKind5_at he hK hd hd2 kind hk h hr
theorem At.comp {s:Gs} {C C2:Nat} {w w' w2:World} {p' c':Nat} {sz':Int} (b1:s.p≤p') (b2:p'≤s.p+C) (b3:s.c≤c') (b4:c'≤s.c+C) (b5:s.sz - C≤sz') (b6:sz'≤s.sz) (hk:Gk s.R w w') (h:At ⟨s.R,s.G,s.ns,s.fs,c',sz',p'⟩ C2 w' w2):At s (C+C2) w w2∧Gk s.R w' w2:=by
 obtain ⟨p2,c2,sz2,q1,q2,q3,q4,q5,q6,q7,q8⟩:=h
 simp only at q1 q2 q3 q4 q5 q6 q7 q8
 exact ⟨⟨p2,c2,sz2,by omega,by omega,by omega,by omega,by omega,by omega,q7,hk.trans q8⟩,q8⟩
def CallEnd2 (s:Gs) (K C C3:Nat) (w w':World) (e:Ending) (w2:World):Prop:=(∃ g n c,e=.returned (.tuple #[.slice (some ⟨g,0,none⟩) n c,.bool true])∧Has K w2 (.slice (some ⟨g,0,none⟩) n c)∧At s C w w2∧Gk s.R w' w2)∨∃ g c,e=.returned (.tuple #[.slice (some ⟨g,0,none⟩) 0 c,.bool false])∧At s C3 w w2∧Gk s.R w' w2
theorem callF_at {d:Int} {K Ce:Nat} (he:EOk (d - 1) K Ce) (hK:K≤10000) (hd:1≤d) (hd2:d≤10) (kind:Int) {s:Gs} {C:Nat} {w w':World} (h:At s C w w') (hr:Room (C+3 * Ce+60) s) :
  Calls Tryz.prog 109 #[.pointer (some ⟨s.G,0,none⟩),.int .i64 kind,.int .i64 d] w' (CallEnd2 s (3 * K+6) (C+(3 * Ce+3)) (C+3) w w'):=by
 obtain ⟨p',c',sz',h1,h2,h3,h4,h5,h6,h7,h8⟩:=h
 refine (call_root he hK hd hd2 kind ⟨s.R,s.G,s.ns,s.fs,c',sz',p'⟩ w' h7 ⟨by have:=hr.p;simp only;omega,by have:=hr.c;simp only;omega,by have:=hr.lo;simp only;omega,by have:=hr.hi;simp only;omega,by have:=hr.n;simp only;omega,hr.f⟩).mono ?_
 rintro e w2 (⟨g,n,c,rfl,hl,ha⟩ | ⟨g,c,rfl,ha⟩)
 ·obtain ⟨k1,k2⟩:=At.comp h1 h2 h3 h4 h5 h6 h8 ha
  exact .inl ⟨g,n,c,rfl,hl,k1,k2⟩
 ·obtain ⟨k1,k2⟩:=At.comp h1 h2 h3 h4 h5 h6 h8 ha
  exact .inr ⟨g,c,rfl,k1,k2⟩
theorem At.g4 {s:Gs} {C:Nat} {w w':World} (h:At s C w w'):∃ z:Int,w'.cell? ⟨s.G,4,none⟩=some (.int .i64 z):=by
 obtain ⟨p',c',sz',h1,h2,h3,h4,h5,h6,h7,h8⟩:=h
 obtain ⟨vn,vf,e1,_⟩:=h7.ex
 have:=cell_hp e1 4
 simp at this
 exact ⟨_,this⟩
theorem sized_at {s:Gs} {w:World} (h:GenAt s.R s.G s.R w s.ns s.fs s.c s.sz s.p):At s 1 w (w.setCell ⟨s.G,4,none⟩ (.int .i64 (s.sz - 1))):=by
 obtain ⟨h1,h2⟩:=h.sized (s.sz - 1)
 exact ⟨s.p,s.c,s.sz - 1,by omega,by omega,by omega,by omega,by omega,by omega,h1,h2⟩
end Go.Proofs.YthnohneaanphbaaGreatDoor
namespace Go.Proofs.YthnohneaanphbaaGreatDoor
open Go.RowKit
set_option maxRecDepth 20000
set_option maxHeartbeats 4000000 in
theorem e_zero {d:Int} (hd:d≤0):EOk d 3 25:=by
 intro s kind w h hr
 have HR:=hid hr
 have HA0:=hid (sized_at h)
 have HK0:=hid HA0.out.gk
 obtain ⟨vn,vf,e1,_⟩:=h.ex
 have c4:=cell_hp e1 4
 have f4:=frozen_hp e1 4
 have c0:(w.setCell ⟨s.G,4,none⟩ (.int .i64 (s.sz - 1))).cell? ⟨s.G,0,none⟩=some (.pointer (some ⟨s.R,0,none⟩)):=HA0.out.g0
 simp at c4
 have hlo:=hr.lo
 have hhi:=hr.hi
 have hw4:IntKind.i64.wrap (s.sz - 1)=s.sz - 1:=by rw [IntKind.wrap_i64];omega
 clear hr h e1
 go_enter Tryz.func89,Tryz.ntmps89
 go_wp2_with fail
 refine (pick_at HA0.out (HR.out.sub (by omega)) 40 (by omega)).mono ?_
 rintro e w1 ⟨x1,rfl,hx1,at0,gk0⟩
 have hy1:x1 < 40:=by omega
 have hz1:(x1:Int) < 40:=by omega
 clear hx1
 have HA1:=hid at0
 have HK1:=hid (HK0.out.trans gk0)
 clear at0 gk0
 clear c0 c4 f4 hw4
 have hf1:x1=0∨((x1:Int) == 0)=false:=by rcases Nat.eq_zero_or_pos x1 with h | h;exact .inl h;exact .inr (by simp;omega)
 rcases hf1 with rfl | hf1
 ·go_wp2_with fail
  refine (pick_at HA1.out (HR.out.sub (by omega)) 6 (by omega)).mono ?_
  rintro e w2 ⟨x2,rfl,hx2,at0,gk0⟩
  have hy2:x2 < 6:=by omega
  have hz2:(x2:Int) < 6:=by omega
  clear hx2
  have HA2:=hid at0
  have HK2:=hid (HK1.out.trans gk0)
  clear at0 gk0
  go_wp2_with fail
  refine (leaf_at HA2.out (HR.out.sub (by omega)) _).mono ?_
  rintro e w3 hh
  obtain ⟨g3,n3,k3,rfl,l0,at0,gk0⟩:=hh.get
  clear hh
  have HA3:=hid at0
  have HK3:=hid (HK2.out.trans gk0)
  clear at0 gk0
  have HL3:=hid l0
  clear l0
  go_wp2
  go_ret
  exact HL3.out.fin HA3.out HK3.out (by omega) (by omega)
 ·go_wp2_with fail
  refine (leaf_at HA1.out (HR.out.sub (by omega)) _).mono ?_
  rintro e w2 hh
  obtain ⟨g2,n2,k2,rfl,l0,at0,gk0⟩:=hh.get
  clear hh
  have HA2:=hid at0
  have HK2:=hid (HK1.out.trans gk0)
  clear at0 gk0
  have HL2:=hid l0
  clear l0
  go_wp2
  go_ret
  exact HL2.out.fin HA2.out HK2.out (by omega) (by omega)
end Go.Proofs.YthnohneaanphbaaGreatDoor
