import Derived.Test.YthnohneaanphbaaGreatDoorJ15
namespace Go.Proofs.YthnohneaanphbaaGreatDoor
open Go.RowKit
set_option maxRecDepth 20000
set_option maxHeartbeats 8000000 in
theorem UF_C (k:Int) (hk:k=5∨k=11∨k=14∨k=16∨k=18∨k=19∨k=20∨k=21):UF k:=by
 intro op n kids t r w ht hr
 have hrl:r < w.heap.size:=(Array.getElem?_eq_some_iff.1 hr).1
 have HR:Hid (∀ W,Below w.heap.size w W→W.heap[r]?=some (.map (wordE 17) 17)):=fun W hb=>(hb.block r hrl).trans hr
 clear hr hrl
 unfold ndV
 rcases hk with rfl | rfl | rfl | rfl | rfl | rfl | rfl | rfl
 all_goals go_enter Tryz.func61,Tryz.ntmps61
 all_goals go_wp2_with (go_at_call 38;refine (isName_at t r _ ht (HR.out _ (below_two w _ _))).mono ?_;rintro e w1 ⟨hs,hb⟩;obtain ⟨⟨k0,k1,k2,k3,k4⟩,⟨k5,k6,k7,k8,k9⟩,hb⟩:=two_rows hb;have HB:=hid hb;clear hb;rcases hs.get with ⟨rfl,hP⟩ | ⟨rfl,hP⟩;all_goals (have HP:=hid hP;clear hP hs))
 all_goals go_ret
 all_goals have hp:=HP.out
 all_goals first
  | exact ⟨says_t (by simp [PlainNd,hasText,inR, *]),HB.out⟩
  | exact ⟨says_f (by simp [PlainNd,hasText,inR, *]),HB.out⟩
set_option maxHeartbeats 2000000 in
theorem UF_23:UF 23:=by
 intro op n kids t r w ht hr
 clear hr
 unfold ndV
 go_enter Tryz.func61,Tryz.ntmps61
 go_wp2_with (go_at_call 90;refine (isPackage_any t _ ht).mono ?_;rintro e w1 ⟨hs,hb⟩;obtain ⟨⟨k0,k1,k2,k3,k4⟩,⟨k5,k6,k7,k8,k9⟩,hb⟩:=two_rows hb;have HB:=hid hb;clear hb;rcases hs.get with ⟨rfl,hP⟩ | ⟨rfl,hP⟩;all_goals (have HP:=hid hP;clear hP hs))
 all_goals go_ret
 all_goals have hp:=HP.out
 all_goals first
  | exact ⟨says_t (by simp [PlainNd,hasText,inR, *]),HB.out⟩
  | exact ⟨says_f (by simp [PlainNd,hasText,inR, *]),HB.out⟩
set_option maxHeartbeats 4000000 in
theorem UF_E (k:Int) (hk:k < 1∨24 < k):UF k:=by
 intro op n kids t r w ht hr
 clear ht hr
 unfold ndV
 have HE:Hid (¬ (PlainNd ⟨k,op,n,t,kids⟩∧1≤k∧k≤24)):=fun h=>by have:=h.2;omega
 have hn:∀ x:Int,1≤x→x≤24→(k == x)=false:=fun x h1 h2=>by rw [beq_eq_false_iff_ne];omega
 have n1:=hn 1 (by decide) (by decide)
 have n2:=hn 2 (by decide) (by decide)
 have n3:=hn 3 (by decide) (by decide)
 have n4:=hn 4 (by decide) (by decide)
 have n5:=hn 5 (by decide) (by decide)
 have n6:=hn 6 (by decide) (by decide)
 have n7:=hn 7 (by decide) (by decide)
 have n8:=hn 8 (by decide) (by decide)
 have n9:=hn 9 (by decide) (by decide)
 have n10:=hn 10 (by decide) (by decide)
 have n11:=hn 11 (by decide) (by decide)
 have n12:=hn 12 (by decide) (by decide)
 have n13:=hn 13 (by decide) (by decide)
 have n14:=hn 14 (by decide) (by decide)
 have n15:=hn 15 (by decide) (by decide)
 have n16:=hn 16 (by decide) (by decide)
 have n17:=hn 17 (by decide) (by decide)
 have n18:=hn 18 (by decide) (by decide)
 have n19:=hn 19 (by decide) (by decide)
 have n20:=hn 20 (by decide) (by decide)
 have n21:=hn 21 (by decide) (by decide)
 have n22:=hn 22 (by decide) (by decide)
 have n23:=hn 23 (by decide) (by decide)
 have n24:=hn 24 (by decide) (by decide)
 clear hn hk
 go_enter Tryz.func61,Tryz.ntmps61
 go_wp2
 go_ret
 exact ⟨says_f HE.out,below_two _ _ _⟩
end Go.Proofs.YthnohneaanphbaaGreatDoor
