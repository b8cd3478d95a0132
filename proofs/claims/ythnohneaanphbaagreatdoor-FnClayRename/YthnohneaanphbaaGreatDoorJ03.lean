import Derived.Test.YthnohneaanphbaaGreatDoorJ02
namespace Go.Proofs.YthnohneaanphbaaGreatDoor
open Go.RowKit
set_option maxRecDepth 20000
theorem cell_alloc_lt (w:World) (X:Obj) (g o:Nat) (h:g < w.heap.size):(w.alloc X).cell? ⟨g,o,none⟩=w.cell? ⟨g,o,none⟩:=((Below.refl (w.heap.size) w).alloc (Nat.le_refl _) X).cell (p:=⟨g,o,none⟩) h
def FirstP (m:Nat) (P:Nat→Prop) (e:Ending):Prop:=(∃ i:Nat,i < m∧e=.returned (.int .i64 i)∧P i∧∀ j,j < i→¬ P j)∨e=.returned (.int .i64 (-1))∧∀ j,j < m→¬ P j
theorem none_succ {P:Nat→Prop} {j:Nat} (h:∀ i,i < j→¬ P i) (hj:¬ P j):∀ i,i < j+1→¬ P i:=fun i hi=>by
 rcases Nat.lt_or_eq_of_le (Nat.lt_succ_iff.1 hi) with h1 | h1
 ·exact h i h1
 ·subst h1;exact hj
set_option maxHeartbeats 1000000 in
theorem indexKinds_any (ga gb g o m c:Nat) (lo hi:Int) (st:Nat→Nd) (sh:Nat→Nat) (w:World) (hm:m≤5000) (hg:g < w.heap.size) (hs:StandAt w g o m st sh) (ha:w.cell? ⟨ga,0,none⟩=some (.int .i64 lo)) (hb:w.cell? ⟨gb,0,none⟩=some (.int .i64 hi)) (la:ga < w.heap.size) (lb:gb < w.heap.size) :
  Calls Tryz.prog 113 #[.slice (some ⟨g,o,none⟩) m c,.func (.func 112) #[] #[.pointer (some ⟨ga,0,none⟩),.pointer (some ⟨gb,0,none⟩)]] w fun e w'=>FirstP m (fun i=>(st i).kind < lo∨hi < (st i).kind) e∧Below w.heap.size w w':=by
 have HS:=hid hs
 have HA0:=hid ha
 have HB0:=hid hb
 clear hs ha hb
 go_enter Tryz.func113,Tryz.ntmps113
 go_wp2
 go_loopw [8] (fun i wr=>∃ j:Nat,j≤m∧i=.int .i64 j∧(∀ i,i < j→¬ ((st i).kind < lo∨hi < (st i).kind))∧Below w.heap.size w wr) (fun i _=>m - (intOf i).toNat)
 case atStart=>exact ⟨0,Nat.zero_le _,rfl,fun i h=>absurd h (Nat.not_lt_zero _),Below.refl _ _⟩
 case round =>
  obtain ⟨j,hj,rfl,hin,hbw⟩:=hrel
  have HBW:=hid hbw
  have HIN:=hid hin
  clear hbw hin
  by_cases hlt:j < m
  ·obtain ⟨a0,a1,a2,a3,a4,a5⟩:=(HS.out.below HBW.out hg) j hlt
   have HN:=hid (HBW.out.alloc HBW.out.size (.cells #[.int .i64 (st j).kind,.int .i64 (st j).op,.int .i64 (st j).n,.string (st j).text,.int .i64 (st j).kids,.int .i64 (sh j)] 113))
   have ha':=(HN.out.cell (p:=⟨ga,0,none⟩) la).trans HA0.out
   have hb':=(HN.out.cell (p:=⟨gb,0,none⟩) lb).trans HB0.out
   by_cases c1:(st j).kind < lo
   ·have HC:Hid ((st j).kind < lo∨hi < (st j).kind):=.inl c1
    go_wp2
    go_ret
    exact ⟨.inl ⟨j,hlt,rfl,HC.out,HIN.out⟩,HN.out⟩
   ·by_cases c2:hi < (st j).kind
    ·have HC:Hid ((st j).kind < lo∨hi < (st j).kind):=.inr c2
     go_wp2
     go_ret
     exact ⟨.inl ⟨j,hlt,rfl,HC.out,HIN.out⟩,HN.out⟩
    ·have HX:=hid (none_succ HIN.out (fun h=>h.elim c1 c2))
     go_wp2
     go_roundw
     case rel=>exact ⟨j+1,by omega,by go_num,HX.out,HN.out⟩
     case measure=>simp [intOf];omega
  ·obtain rfl:j=m:=by omega
   go_wp2
   go_ret
   exact ⟨.inr ⟨rfl,HIN.out⟩,HBW.out⟩
set_option maxHeartbeats 400000 in
theorem index_none (ad:Option Addr) (c:Nat) (f:Value) (w:World) :
  Calls Tryz.prog 113 #[.slice ad 0 c,f] w fun e w'=>e=.returned (.int .i64 (-1))∧w'=w:=by
 go_enter Tryz.func113,Tryz.ntmps113
 go_wp2
 go_loopw [8] (fun i wr=>i=.int .i64 0∧wr=w) (fun _ _=>0)
 case atStart=>exact ⟨rfl,rfl⟩
 case round =>
  obtain ⟨rfl,rfl⟩:=hrel
  go_wp2
  go_ret
  exact ⟨rfl,rfl⟩
theorem indexKinds_all (ga gb:Nat) (ad:Option Addr) (m c:Nat) (lo hi:Int) (st:Nat→Nd) (sh:Nat→Nat) (w:World) (hm:m≤5000) (hs:StA w ad m st sh) (ha:w.cell? ⟨ga,0,none⟩=some (.int .i64 lo)) (hb:w.cell? ⟨gb,0,none⟩=some (.int .i64 hi)) (la:ga < w.heap.size) (lb:gb < w.heap.size) :
  Calls Tryz.prog 113 #[.slice ad m c,.func (.func 112) #[] #[.pointer (some ⟨ga,0,none⟩),.pointer (some ⟨gb,0,none⟩)]] w fun e w'=>FirstP m (fun i=>(st i).kind < lo∨hi < (st i).kind) e∧Below w.heap.size w w':=by
 rcases hs with rfl | ⟨g,o,rfl,h1,h2⟩
 ·refine (index_none ad c _ w).mono ?_
  rintro e w' ⟨rfl,rfl⟩
  exact ⟨.inr ⟨rfl,fun j h=>absurd h (Nat.not_lt_zero _)⟩,Below.refl _ _⟩
 ·exact indexKinds_any ga gb g o m c lo hi st sh w hm h1 h2 ha hb la lb
theorem two_cells (w:World) (a b:Value) (t:TypeId):((w.alloc (.cells #[a] t)).alloc (.cells #[b] t)).cell? ⟨w.heap.size,0,none⟩=some a∧((w.alloc (.cells #[a] t)).alloc (.cells #[b] t)).cell? ⟨w.heap.size+1,0,none⟩=some b:=by
 constructor
 ·rw [cell_alloc_lt _ _ _ _ (by simp),cell_new_row];rfl
 ·have:=cell_new_row (w.alloc (.cells #[a] t)) #[b] t 0
  rw [World.size_alloc] at this
  rw [this];rfl
set_option maxHeartbeats 1000000 in
theorem containsKinds_any (ga gb:Nat) (ad:Option Addr) (m c:Nat) (lo hi:Int) (st:Nat→Nd) (sh:Nat→Nat) (w:World) (hm:m≤5000) (hs:StA w ad m st sh) (ha:w.cell? ⟨ga,0,none⟩=some (.int .i64 lo)) (hb:w.cell? ⟨gb,0,none⟩=some (.int .i64 hi)) (la:ga < w.heap.size) (lb:gb < w.heap.size) :
  Calls Tryz.prog 111 #[.slice ad m c,.func (.func 112) #[] #[.pointer (some ⟨ga,0,none⟩),.pointer (some ⟨gb,0,none⟩)]] w fun e w'=>Says e (∃ i,i < m∧((st i).kind < lo∨hi < (st i).kind))∧Below w.heap.size w w':=by
 have HS:=hid hs
 have HA0:=hid ha
 have HB0:=hid hb
 clear hs ha hb
 go_enter Tryz.func111,Tryz.ntmps111
 go_wp2_with (go_at_call 113;refine (indexKinds_all ga gb ad m c lo hi st sh _ hm HS.out HA0.out HB0.out la lb).mono ?_;rintro e w' ⟨⟨i,hi1,rfl,hP,hno⟩ | ⟨rfl,hno⟩,hb2⟩)
 ·have HP:=hid hP
  clear hP
  go_ret
  exact ⟨says_t ⟨i,hi1,HP.out⟩,hb2⟩
 ·go_ret
  exact ⟨says_f (fun ⟨i,h1,h2⟩=>hno i h1 h2),hb2⟩
set_option maxHeartbeats 1000000 in
theorem areKinds_any (ad:Option Addr) (m c:Nat) (lo hi:Int) (st:Nat→Nd) (sh:Nat→Nat) (w:World) (hm:m≤5000) (hs:StA w ad m st sh) :
  Calls Tryz.prog 92 #[.slice ad m c,.int .i64 lo,.int .i64 hi] w fun e w'=>Says e (∀ i,i < m→lo≤(st i).kind∧(st i).kind≤hi)∧Below w.heap.size w w':=by
 have HB2:=hid (((Below.refl w.heap.size w).alloc (Nat.le_refl _) (.cells #[.int .i64 lo] 3)).alloc (by simp) (.cells #[.int .i64 hi] 3))
 have HS:=hid (hs.below HB2.out)
 have HTC:=hid (two_cells w (.int .i64 lo) (.int .i64 hi) 3)
 clear hs
 go_enter Tryz.func92,Tryz.ntmps92
 go_wp2_with (go_at_call 111;refine (containsKinds_any _ _ ad m c lo hi st sh _ hm HS.out HTC.out.1 HTC.out.2 (by simp;omega) (by simp)).mono ?_;rintro e w' ⟨hs,hb2⟩;have HB3:=hid hb2;clear hb2;rcases hs.get with ⟨rfl,hP⟩ | ⟨rfl,hP⟩;all_goals (have HP:=hid hP;clear hP hs))
 all_goals go_ret
 ·exact ⟨says_f (fun h=>by obtain ⟨i,h1,h2⟩:=HP.out;have:=h i h1;omega),HB2.out.trans (HB3.out.mono (by simp;omega))⟩
 ·exact ⟨says_t (fun i h1=>by by_cases c1:(st i).kind < lo;exact absurd ⟨i,h1,.inl c1⟩ HP.out;by_cases c2:hi < (st i).kind;exact absurd ⟨i,h1,.inr c2⟩ HP.out;omega),HB2.out.trans (HB3.out.mono (by simp;omega))⟩
set_option maxHeartbeats 1000000 in
theorem areE_any (ad:Option Addr) (m c:Nat) (lo hi:Int) (st:Nat→Nd) (sh:Nat→Nat) (w:World) (hm:m≤5000) (hs:StA w ad m st sh) :
  Calls Tryz.prog 91 #[.slice ad m c,.int .i64 lo,.int .i64 hi] w fun e w'=>Says e (lo≤m∧m≤hi∧AllE m st)∧Below w.heap.size w w':=by
 have HS:=hid hs
 clear hs
 by_cases h1:lo≤m
 ·by_cases h2:(m:Int)≤hi
  ·go_enter Tryz.func91,Tryz.ntmps91
   go_wp2_with (go_at_call 92;refine (areKinds_any ad m c _ _ st sh _ hm HS.out).mono ?_;rintro e w' ⟨hs,hb2⟩;have HB3:=hid hb2;clear hb2;rcases hs.get with ⟨rfl,hP⟩ | ⟨rfl,hP⟩;all_goals (have HP:=hid hP;clear hP hs))
   all_goals go_ret
   ·exact ⟨says_t ⟨h1,h2,fun i hi=>by have:=HP.out i hi;unfold isE inR;simp;omega⟩,HB3.out⟩
   ·exact ⟨says_f (fun h=>HP.out fun i hi=>by have:=h.2.2 i hi;unfold isE inR at this;simp at this;omega),HB3.out⟩
  ·go_enter Tryz.func91,Tryz.ntmps91
   go_wp2
   go_ret
   exact ⟨says_f (fun h=>by omega),Below.refl _ _⟩
 ·go_enter Tryz.func91,Tryz.ntmps91
  go_wp2
  go_ret
  exact ⟨says_f (fun h=>by omega),Below.refl _ _⟩
end Go.Proofs.YthnohneaanphbaaGreatDoor
