import Derived.Test.YthnohneaanphbaaGreatDoorJ07
namespace Go.Proofs.YthnohneaanphbaaGreatDoor
open Go.RowKit
set_option maxRecDepth 20000
def KF (kind:Int):Prop:=∀ (ad:Option Addr) (m c:Nat) (st:Nat→Nd) (sh:Nat→Nat) (w:World),m≤5000→(∀ i,i < m→(st i).text.size≤maxLen)→m≤c→c≤maxLen→StA w ad m st sh →
  Calls Tryz.prog 62 #[.int .i64 kind,.slice ad m c] w fun e w'=>Says e (KidsOk kind m st)∧Below w.heap.size w w'
theorem Says.of {e:Ending} {P Q:Prop} (h:Says e P) (hq:P ↔ Q):Says e Q:=by
 obtain ⟨b,h1,h2⟩:=h
 exact ⟨b,h1,h2.trans hq⟩
set_option maxHeartbeats 2000000 in
theorem KF_A (kind:Int) (hk:kind=1∨kind=2∨kind=3∨kind=4∨kind=5):KF kind:=by
 intro ad m c st sh w hm hx hcm hc hs
 by_cases h0:m=0
 ·subst h0
  rcases hk with rfl | rfl | rfl | rfl | rfl
  all_goals go_enter Tryz.func62,Tryz.ntmps62
  all_goals go_wp2
  all_goals go_ret
  all_goals exact ⟨says_t (by simp [KidsOk]),Below.refl _ _⟩
 ·have hq:((m:Int) == 0)=false:=by rw [beq_eq_false_iff_ne];omega
  rcases hk with rfl | rfl | rfl | rfl | rfl
  all_goals go_enter Tryz.func62,Tryz.ntmps62
  all_goals go_wp2
  all_goals go_ret
  all_goals exact ⟨says_f (by simp [KidsOk];exact h0),Below.refl _ _⟩
set_option maxHeartbeats 4000000 in
theorem KF_B (kind:Int) (hk:kind=6∨kind=11∨kind=17∨kind=18∨kind=21∨kind=22∨kind=7∨kind=10∨kind=14∨kind=13∨kind=16∨kind=19∨kind=8):KF kind:=by
 intro ad m c st sh w hm hx hcm hc hs
 have HS:=hid hs
 clear hs hx
 rcases hk with rfl | rfl | rfl | rfl | rfl | rfl | rfl | rfl | rfl | rfl | rfl | rfl | rfl
 all_goals go_enter Tryz.func62,Tryz.ntmps62
 all_goals go_wp2_with (go_at_call 91;refine (areE_any ad m c _ _ st sh _ hm HS.out).mono ?_;rintro e w1 ⟨hs,hb⟩;have HB:=hid hb;obtain ⟨b,rfl,hP⟩:=hs;have HP:=hid hP;clear hb hP)
 all_goals go_ret
 all_goals refine ⟨⟨_,rfl,HP.out.trans ?_⟩,HB.out⟩
 all_goals by_cases hE:AllE m st
 all_goals simp [KidsOk,hE]
 all_goals omega
theorem KF_end (kind:Int) (m:Nat) (st:Nat→Nd):(kind=9→(KidsOk kind m st ↔ m≤200∧(∀ i,i < m→(st i).kind=17)∧Apart m st))∧(kind=12→(KidsOk kind m st ↔ CallOk m st)) ∧
  (kind=15∨kind=20→(KidsOk kind m st ↔ 1≤m∧m≤9∧(∀ i,i+1 < m→(st i).kind=19)∧isE (st (m - 1)).kind=true)) ∧
  (kind=23→(KidsOk kind m st ↔ 1≤m∧m≤200∧∀ i,i < m→(st i).kind=5))∧(kind=24→(KidsOk kind m st ↔ m≤200∧∀ i,i < m→20≤(st i).kind∧(st i).kind≤23))∧(kind < 1∨24 < kind→¬ KidsOk kind m st):=by
 refine ⟨?_,?_,?_,?_,?_,?_⟩
 ·rintro rfl;simp [KidsOk]
 ·rintro rfl;simp [KidsOk,CallOk]
 ·rintro (rfl | rfl) <;> simp [KidsOk]
 ·rintro rfl;simp [KidsOk]
 ·rintro rfl;simp [KidsOk]
 ·intro h hk
  unfold KidsOk at hk
  omega
set_option maxHeartbeats 2000000 in
theorem KF_9:KF 9:=by
 intro ad m c st sh w hm hx hcm hc hs
 have HS:=hid hs
 have HX:=hid hx
 have HE:=hid ((KF_end 9 m st).1 rfl)
 clear hs hx
 by_cases h2:m≤200
 ·go_enter Tryz.func62,Tryz.ntmps62
  go_wp2_with (first
   | (go_at_call 92;refine (areKinds_any ad m c _ _ st sh _ hm HS.out).mono ?_;rintro e w1 ⟨hs,hb⟩;have HB:=hid hb;clear hb;rcases hs.get with ⟨rfl,hP⟩ | ⟨rfl,hP⟩;all_goals (have HP:=hid hP;clear hP hs))
   | (go_at_call 93;refine (textsDiffer_all ad m c st sh _ hm HX.out (HS.out.below HB.out)).mono ?_;rintro e w2 ⟨hs2,hb2⟩;have HB2:=hid (HB.out.trans (hb2.mono HB.out.size));clear hb2;rcases hs2.get with ⟨rfl,hP2⟩ | ⟨rfl,hP2⟩;all_goals (have HP2:=hid hP2;clear hP2 hs2)))
  all_goals go_ret
  ·exact ⟨says_t (HE.out.2 ⟨h2,fun i hi=>by have:=HP.out i hi;omega,HP2.out⟩),HB2.out⟩
  ·exact ⟨says_f (fun h=>HP2.out (HE.out.1 h).2.2),HB2.out⟩
  ·exact ⟨says_f (fun h=>HP.out fun i hi=>by have:=(HE.out.1 h).2.1 i hi;omega),HB.out⟩
 ·go_enter Tryz.func62,Tryz.ntmps62
  go_wp2
  go_ret
  exact ⟨says_f (fun h=>h2 (HE.out.1 h).1),Below.refl _ _⟩
set_option maxHeartbeats 2000000 in
theorem KF_12:KF 12:=by
 intro ad m c st sh w hm hx hcm hc hs
 have HS:=hid hs
 have HX:=hid hx
 have HE:=hid ((KF_end 12 m st).2.1 rfl)
 clear hs hx
 go_enter Tryz.func62,Tryz.ntmps62
 go_wp2_with (go_at_call 94;refine (callFits_all ad m c st sh _ hm HX.out hcm hc HS.out).mono ?_;rintro e w1 ⟨hs,hb⟩;have HB:=hid hb;obtain ⟨b,rfl,hP⟩:=hs;have HP:=hid hP;clear hb hP)
 go_ret
 exact ⟨⟨_,rfl,HP.out.trans HE.out.symm⟩,HB.out⟩
set_option maxHeartbeats 2000000 in
theorem KF_15 (kind:Int) (hk:kind=15∨kind=20):KF kind:=by
 intro ad m c st sh w hm hx hcm hc hs
 have HS:=hid hs
 have HE:=hid ((KF_end kind m st).2.2.1 hk)
 clear hs hx
 rcases hk with rfl | rfl
 all_goals go_enter Tryz.func62,Tryz.ntmps62
 all_goals go_wp2_with (go_at_call 95;refine (fnFits_all ad m c st sh _ hm hcm hc HS.out).mono ?_;rintro e w1 ⟨hs,hb⟩;have HB:=hid hb;obtain ⟨b,rfl,hP⟩:=hs;have HP:=hid hP;clear hb hP)
 all_goals go_ret
 all_goals exact ⟨⟨_,rfl,HP.out.trans HE.out.symm⟩,HB.out⟩
set_option maxHeartbeats 2000000 in
theorem KF_23:KF 23:=by
 intro ad m c st sh w hm hx hcm hc hs
 have HS:=hid hs
 have HE:=hid ((KF_end 23 m st).2.2.2.1 rfl)
 clear hs hx
 by_cases h1:1≤m
 ·by_cases h2:m≤200
  ·go_enter Tryz.func62,Tryz.ntmps62
   go_wp2_with (go_at_call 92;refine (areKinds_any ad m c _ _ st sh _ hm HS.out).mono ?_;rintro e w1 ⟨hs,hb⟩;have HB:=hid hb;clear hb;rcases hs.get with ⟨rfl,hP⟩ | ⟨rfl,hP⟩;all_goals (have HP:=hid hP;clear hP hs))
   all_goals go_ret
   ·exact ⟨says_t (HE.out.2 ⟨h1,h2,fun i hi=>by have:=HP.out i hi;omega⟩),HB.out⟩
   ·exact ⟨says_f (fun h=>HP.out fun i hi=>by have:=(HE.out.1 h).2.2 i hi;omega),HB.out⟩
  ·go_enter Tryz.func62,Tryz.ntmps62
   go_wp2
   go_ret
   exact ⟨says_f (fun h=>h2 (HE.out.1 h).2.1),Below.refl _ _⟩
 ·go_enter Tryz.func62,Tryz.ntmps62
  go_wp2
  go_ret
  exact ⟨says_f (fun h=>h1 (HE.out.1 h).1),Below.refl _ _⟩
set_option maxHeartbeats 2000000 in
theorem KF_24:KF 24:=by
 intro ad m c st sh w hm hx hcm hc hs
 have HS:=hid hs
 have HE:=hid ((KF_end 24 m st).2.2.2.2.1 rfl)
 clear hs hx
 by_cases h2:m≤200
 ·go_enter Tryz.func62,Tryz.ntmps62
  go_wp2_with (go_at_call 92;refine (areKinds_any ad m c _ _ st sh _ hm HS.out).mono ?_;rintro e w1 ⟨hs,hb⟩;have HB:=hid hb;obtain ⟨b,rfl,hP⟩:=hs;have HP:=hid hP;clear hb hP)
  go_ret
  exact ⟨⟨_,rfl,HP.out.trans ⟨fun h=>HE.out.2 ⟨h2,h⟩,fun h=>(HE.out.1 h).2⟩⟩,HB.out⟩
 ·go_enter Tryz.func62,Tryz.ntmps62
  go_wp2
  go_ret
  exact ⟨says_f (fun h=>h2 (HE.out.1 h).1),Below.refl _ _⟩
set_option maxHeartbeats 4000000 in
theorem KF_E (kind:Int) (hk:kind < 1∨24 < kind):KF kind:=by
 intro ad m c st sh w hm hx hcm hc hs
 have HE:=hid ((KF_end kind m st).2.2.2.2.2 hk)
 clear hs hx
 have hn:∀ x:Int,1≤x→x≤24→(kind == x)=false:=fun x h1 h2=>by rw [beq_eq_false_iff_ne];omega
 have n1:=hn 1 (by decide) (by decide)
 have n2:=hn 2 (by decide) (by decide)
 have n3:=hn 3 (by decide) (by decide)
 have n4:=hn 4 (by decide) (by decide)
 have n5:=hn 5 (by decide) (by decide)
 have n6:=hn 6 (by decide) (by decide)
 have n7:=hn 7 (by decide) (by decide)
 have n8:=hn 8 (by decide) (by decide)
 have n9:=hn 9 (by decide) (by decide)
 have n10:=hn 10 (by decide) (by decide)
 have n11:=hn 11 (by decide) (by decide)
 have n12:=hn 12 (by decide) (by decide)
 have n13:=hn 13 (by decide) (by decide)
 have n14:=hn 14 (by decide) (by decide)
 have n15:=hn 15 (by decide) (by decide)
 have n16:=hn 16 (by decide) (by decide)
 have n17:=hn 17 (by decide) (by decide)
 have n18:=hn 18 (by decide) (by decide)
 have n19:=hn 19 (by decide) (by decide)
 have n20:=hn 20 (by decide) (by decide)
 have n21:=hn 21 (by decide) (by decide)
 have n22:=hn 22 (by decide) (by decide)
 have n23:=hn 23 (by decide) (by decide)
 have n24:=hn 24 (by decide) (by decide)
 clear hn
 go_enter Tryz.func62,Tryz.ntmps62
 go_wp2
 go_ret
 exact ⟨says_f HE.out,Below.refl _ _⟩
theorem kidsFit_any (kind:Int):KF kind:=by
 by_cases a:kind=1∨kind=2∨kind=3∨kind=4∨kind=5
 ·exact KF_A kind a
 ·by_cases b:kind=6∨kind=11∨kind=17∨kind=18∨kind=21∨kind=22∨kind=7∨kind=10∨kind=14∨kind=13∨kind=16∨kind=19∨kind=8
  ·exact KF_B kind b
  ·by_cases e9:kind=9
   ·subst e9;exact KF_9
   ·by_cases e12:kind=12
    ·subst e12;exact KF_12
    ·by_cases e15:kind=15∨kind=20
     ·exact KF_15 kind e15
     ·by_cases e23:kind=23
      ·subst e23;exact KF_23
      ·by_cases e24:kind=24
       ·subst e24;exact KF_24
       ·exact KF_E kind (by omega)
end Go.Proofs.YthnohneaanphbaaGreatDoor
