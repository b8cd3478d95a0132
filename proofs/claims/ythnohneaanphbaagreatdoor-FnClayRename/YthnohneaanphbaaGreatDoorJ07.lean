import Derived.Test.YthnohneaanphbaaGreatDoorJ04
namespace Go.Proofs.YthnohneaanphbaaGreatDoor
open Go.RowKit
set_option maxRecDepth 20000
set_option maxHeartbeats 1000000 in
theorem indexNamed_any (g o m c:Nat) (st:Nat→Nd) (sh:Nat→Nat) (w:World) (hm:m≤5000) (hg:g < w.heap.size) (hs:StandAt w g o m st sh) :
  Calls Tryz.prog 113 #[.slice (some ⟨g,o,none⟩) m c,.func (.func 114) #[] #[]] w fun e w'=>FirstP m (fun i=>(st i).kind=18) e∧Below w.heap.size w w':=by
 have HS:=hid hs
 clear hs
 go_enter Tryz.func113,Tryz.ntmps113
 go_wp2
 go_loopw [8] (fun i wr=>∃ j:Nat,j≤m∧i=.int .i64 j∧(∀ i,i < j→¬ (st i).kind=18)∧Below w.heap.size w wr) (fun i _=>m - (intOf i).toNat)
 case atStart=>exact ⟨0,Nat.zero_le _,rfl,fun i h=>absurd h (Nat.not_lt_zero _),Below.refl _ _⟩
 case round =>
  obtain ⟨j,hj,rfl,hin,hbw⟩:=hrel
  have HBW:=hid hbw
  have HIN:=hid hin
  clear hbw hin
  by_cases hlt:j < m
  ·obtain ⟨a0,a1,a2,a3,a4,a5⟩:=(HS.out.below HBW.out hg) j hlt
   have HN:=hid (HBW.out.alloc HBW.out.size (.cells #[.int .i64 (st j).kind,.int .i64 (st j).op,.int .i64 (st j).n,.string (st j).text,.int .i64 (st j).kids,.int .i64 (sh j)] 113))
   by_cases c1:(st j).kind=18
   ·have HC:=hid c1
    have hq:((st j).kind == 18)=true:=by rw [c1];rfl
    clear c1
    go_wp2
    go_ret
    exact ⟨.inl ⟨j,hlt,rfl,HC.out,HIN.out⟩,HN.out⟩
   ·have HX:=hid (none_succ HIN.out c1)
    have hq:((st j).kind == 18)=false:=by rw [beq_eq_false_iff_ne];exact c1
    clear c1
    go_wp2
    go_roundw
    case rel=>exact ⟨j+1,by omega,by go_num,HX.out,HN.out⟩
    case measure=>simp [intOf];omega
  ·obtain rfl:j=m:=by omega
   go_wp2
   go_ret
   exact ⟨.inr ⟨rfl,HIN.out⟩,HBW.out⟩
def CallOk (m:Nat) (st:Nat→Nd):Prop:=∃ f,1≤f∧f≤m∧m≤9∧AllE f st∧(∀ i,f≤i→i < m→(st i).kind=18)∧Apart (m - f) (fun i=>st (f+i))
theorem call_at {m f:Nat} {st:Nat→Nd} (hf:f≤m) (h1:f < m→(st f).kind=18) (h2:∀ i,i < f→¬ (st i).kind=18):CallOk m st ↔ m≤9∧(1≤f∧f≤9∧AllE f st)∧(∀ i,i < m - f→18≤(st (f+i)).kind∧(st (f+i)).kind≤18)∧Apart (m - f) (fun i=>st (f+i)):=by
 constructor
 ·rintro ⟨f',a1,a2,a3,a4,a5,a6⟩
  have e:f'=f:=by
   rcases Nat.lt_trichotomy f' f with h | h | h
   ·exact absurd (a5 f' (Nat.le_refl _) (by omega)) (h2 f' h)
   ·exact h
   ·have b1:=a4 f h
    rw [h1 (by omega)] at b1
    exact absurd b1 (by decide)
  subst e
  exact ⟨a3,⟨a1,by omega,a4⟩,fun i hi=>by have:=a5 (f'+i) (by omega) (by omega);omega,a6⟩
 ·rintro ⟨a1,⟨a2,a3,a4⟩,a5,a6⟩
  exact ⟨f,a2,hf,a1,a4,fun i h3 h4=>by have:=a5 (i - f) (by omega);rw [show f+(i - f)=i by omega] at this;omega,a6⟩
set_option maxHeartbeats 2000000 in
theorem callFits_any (g o m c:Nat) (st:Nat→Nd) (sh:Nat→Nat) (w:World) (hm:m≤5000) (hx:∀ i,i < m→(st i).text.size≤maxLen) (h0:0 < m) (hcm:m≤c) (_hc:c≤maxLen) (hg:g < w.heap.size) (hs:StandAt w g o m st sh) :
  Calls Tryz.prog 94 #[.slice (some ⟨g,o,none⟩) m c] w fun e w'=>Says e (CallOk m st)∧Below w.heap.size w w':=by
 have HX:=hid hx
 have HS:=hid hs
 have hc0:¬ c=0:=by omega
 clear hs hx
 have HF:Hid (∀ f w',f≤m→Below w.heap.size w w'→StA w' (some ⟨g,o,none⟩) f st sh):=fun f w' hf hb=>.inr ⟨g,o,rfl,Nat.lt_of_lt_of_le hg hb.size,(HS.out.front hf).below hb hg⟩
 have HK:Hid (∀ f w',Below w.heap.size w w'→StA w' (some ⟨g,o+f * 6,none⟩) (m - f) (fun i=>st (f+i)) (fun i=>sh (f+i))):=fun f w' hb=>.inr ⟨g,_,rfl,Nat.lt_of_lt_of_le hg hb.size,HS.out.back.below hb hg⟩
 by_cases h9:m≤9
 ·go_enter Tryz.func94,Tryz.ntmps94
  go_wp2_with (first
   | (go_at_call 113;refine (indexNamed_any g o m c st sh _ hm hg HS.out).mono ?_;rintro e w1 ⟨he,hb1⟩;have HB1:=hid hb1;clear hb1;rcases he with ⟨f,hf,rfl,hP1,hP2⟩ | ⟨rfl,hP2⟩;rotate_left;all_goals (first | (have HAT:=hid (call_at (Nat.le_of_lt hf) (fun _=>hP1) hP2);clear hP1 hP2) | (have HAT:=hid (call_at (Nat.le_refl m) (fun h=>absurd h (Nat.lt_irrefl _)) hP2);clear hP2))))
  ·rw [Nat.sub_self] at HAT
   by_cases hcc:c=m
   all_goals (go_wp2_with (first
    | (go_at_call 91;refine (areE_any (some ⟨g,o,none⟩) m c _ _ st sh _ (by omega) (HF.out m _ (by omega) HB1.out)).mono ?_;rintro e w2 ⟨hs2,hb2⟩;have HB2:=hid (HB1.out.trans (hb2.mono HB1.out.size));clear hb2;rcases hs2.get with ⟨rfl,hQ1⟩ | ⟨rfl,hQ1⟩;all_goals (have HQ1:=hid hQ1;clear hQ1 hs2))
    | (go_at_call 92;refine (areKinds_any _ (0) _ _ _ (fun i=>st (m+i)) (fun i=>sh (m+i)) _ (by omega) (.inl rfl)).mono ?_;rintro e w3 ⟨hs3,hb3⟩;have HB3:=hid (HB2.out.trans (hb3.mono HB2.out.size));clear hb3;rcases hs3.get with ⟨rfl,hQ2⟩ | ⟨rfl,hQ2⟩;all_goals (have HQ2:=hid hQ2;clear hQ2 hs3))
    | (go_at_call 93;refine (textsDiffer_all _ (0) _ (fun i=>st (m+i)) (fun i=>sh (m+i)) _ (by omega) (fun i hi=>HX.out _ (by omega)) (.inl rfl)).mono ?_;rintro e w4 ⟨hs4,hb4⟩;have HB4:=hid (HB3.out.trans (hb4.mono HB3.out.size));clear hb4;rcases hs4.get with ⟨rfl,hQ3⟩ | ⟨rfl,hQ3⟩;all_goals (have HQ3:=hid hQ3;clear hQ3 hs4))))
   all_goals go_ret
   all_goals first
    | exact ⟨says_t (HAT.out.2 ⟨h9,⟨by have:=HQ1.out.1;omega,by omega,HQ1.out.2.2⟩,HQ2.out,HQ3.out⟩),HB4.out⟩
    | exact ⟨says_f (fun h=>HQ3.out (HAT.out.1 h).2.2.2),HB4.out⟩
    | exact ⟨says_f (fun h=>HQ2.out (HAT.out.1 h).2.2.1),HB3.out⟩
    | exact ⟨says_f (fun h=>HQ1.out (by have:=(HAT.out.1 h).2.1;exact ⟨by omega,by omega,this.2.2⟩)),HB2.out⟩
  ·have hfc:¬ c=f:=by omega
   have hfm:f≤m:=by omega
   go_wp2_with (first
    | (go_at_call 91;refine (areE_any (some ⟨g,o,none⟩) f c _ _ st sh _ (by omega) (HF.out f _ (by omega) HB1.out)).mono ?_;rintro e w2 ⟨hs2,hb2⟩;have HB2:=hid (HB1.out.trans (hb2.mono HB1.out.size));clear hb2;rcases hs2.get with ⟨rfl,hQ1⟩ | ⟨rfl,hQ1⟩;all_goals (have HQ1:=hid hQ1;clear hQ1 hs2))
    | (go_at_call 92;refine (areKinds_any (some ⟨g,o+f * 6,none⟩) (m - f) _ _ _ (fun i=>st (f+i)) (fun i=>sh (f+i)) _ (by omega) (HK.out f _ HB2.out)).mono ?_;rintro e w3 ⟨hs3,hb3⟩;have HB3:=hid (HB2.out.trans (hb3.mono HB2.out.size));clear hb3;rcases hs3.get with ⟨rfl,hQ2⟩ | ⟨rfl,hQ2⟩;all_goals (have HQ2:=hid hQ2;clear hQ2 hs3))
    | (go_at_call 93;refine (textsDiffer_all (some ⟨g,o+f * 6,none⟩) (m - f) _ (fun i=>st (f+i)) (fun i=>sh (f+i)) _ (by omega) (fun i hi=>HX.out _ (by omega)) (HK.out f _ HB3.out)).mono ?_;rintro e w4 ⟨hs4,hb4⟩;have HB4:=hid (HB3.out.trans (hb4.mono HB3.out.size));clear hb4;rcases hs4.get with ⟨rfl,hQ3⟩ | ⟨rfl,hQ3⟩;all_goals (have HQ3:=hid hQ3;clear hQ3 hs4)))
   all_goals go_ret
   all_goals first
    | exact ⟨says_t (HAT.out.2 ⟨h9,⟨by have:=HQ1.out.1;omega,by omega,HQ1.out.2.2⟩,HQ2.out,HQ3.out⟩),HB4.out⟩
    | exact ⟨says_f (fun h=>HQ3.out (HAT.out.1 h).2.2.2),HB4.out⟩
    | exact ⟨says_f (fun h=>HQ2.out (HAT.out.1 h).2.2.1),HB3.out⟩
    | exact ⟨says_f (fun h=>HQ1.out (by have:=(HAT.out.1 h).2.1;exact ⟨by omega,by omega,this.2.2⟩)),HB2.out⟩
 ·go_enter Tryz.func94,Tryz.ntmps94
  go_wp2_with (first
   | (go_at_call 113;refine (indexNamed_any g o m c st sh _ hm hg HS.out).mono ?_;rintro e w1 ⟨he,hb1⟩;have HB1:=hid hb1;clear hb1;rcases he with ⟨f,hf,rfl,hP1,hP2⟩ | ⟨rfl,hP2⟩;all_goals clear hP2))
  all_goals go_ret
  all_goals exact ⟨says_f (fun ⟨f,_,_,h,_⟩=>by omega),HB1.out⟩
set_option maxHeartbeats 1000000 in
theorem callFits_none (ad:Option Addr) (c:Nat) (w:World) :
  Calls Tryz.prog 94 #[.slice ad 0 c] w fun e w'=>e=.returned (.bool false)∧Below w.heap.size w w':=by
 go_enter Tryz.func94,Tryz.ntmps94
 go_wp2_with (first
  | (go_at_call 113;refine (index_none ad c _ _).mono ?_;rintro e w1 ⟨rfl,rfl⟩)
  | (go_at_call 91;refine (areE_any _ 0 c _ _ (fun _=>⟨0,0,0,⟨#[]⟩,0⟩) (fun _=>0) _ (by omega) (.inl rfl)).mono ?_;rintro e w2 ⟨hs2,hb2⟩;rcases hs2.get with ⟨rfl,hQ1⟩ | ⟨rfl,hQ1⟩;all_goals clear hs2))
 ·exact absurd hQ1.1 (by omega)
 ·go_ret
  exact ⟨rfl,hb2⟩
theorem callFits_all (ad:Option Addr) (m c:Nat) (st:Nat→Nd) (sh:Nat→Nat) (w:World) (hm:m≤5000) (hx:∀ i,i < m→(st i).text.size≤maxLen) (hcm:m≤c) (hc:c≤maxLen) (hs:StA w ad m st sh) :
  Calls Tryz.prog 94 #[.slice ad m c] w fun e w'=>Says e (CallOk m st)∧Below w.heap.size w w':=by
 by_cases h0:0 < m
 ·obtain ⟨g,o,rfl,h1,h2⟩:=hs.resolve_left (by omega)
  exact callFits_any g o m c st sh w hm hx h0 hcm hc h1 h2
 ·obtain rfl:m=0:=by omega
  refine (callFits_none ad c w).mono ?_
  rintro e w' ⟨rfl,hb⟩
  exact ⟨says_f (fun ⟨f,h1,h2,_⟩=>by omega),hb⟩
theorem fnFits_all (ad:Option Addr) (m c:Nat) (st:Nat→Nd) (sh:Nat→Nat) (w:World) (hm:m≤5000) (hcm:m≤c) (hc:c≤maxLen) (hs:StA w ad m st sh) :
  Calls Tryz.prog 95 #[.slice ad m c] w fun e w'=>Says e (1≤m∧m≤9∧(∀ i,i+1 < m→(st i).kind=19)∧isE (st (m - 1)).kind=true)∧Below w.heap.size w w':=by
 by_cases h0:0 < m
 ·obtain ⟨g,o,rfl,h1,h2⟩:=hs.resolve_left (by omega)
  exact fnFits_any g o m c st sh w hm h0 hcm hc h1 h2
 ·obtain rfl:m=0:=by omega
  refine (fnFits_none ad c w).mono ?_
  rintro e w' ⟨rfl,rfl⟩
  exact ⟨says_f (fun h=>by omega),Below.refl _ _⟩
end Go.Proofs.YthnohneaanphbaaGreatDoor
