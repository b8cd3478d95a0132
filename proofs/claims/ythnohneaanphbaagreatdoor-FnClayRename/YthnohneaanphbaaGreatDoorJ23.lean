import Derived.Test.YthnohneaanphbaaGreatDoorJ15
namespace Go.Proofs.YthnohneaanphbaaGreatDoor
open Go.RowKit
set_option maxRecDepth 20000
set_option maxHeartbeats 8000000 in
theorem UF_A (k:Int) (hk:k=1∨k=8∨k=9∨k=10∨k=12∨k=13∨k=15∨k=22∨k=24):UF k:=by
 intro op n kids t r w ht hr
 clear ht hr
 unfold ndV
 rcases hk with rfl | rfl | rfl | rfl | rfl | rfl | rfl | rfl | rfl
 all_goals go_enter Tryz.func61,Tryz.ntmps61
 all_goals go_wp2
 all_goals go_ret
 all_goals first
  | exact ⟨says_t (by simp [PlainNd,hasText,inR, *]),below_two _ _ _⟩
  | exact ⟨says_f (by simp [PlainNd,hasText,inR, *]),below_two _ _ _⟩
set_option maxHeartbeats 8000000 in
theorem UF_B (k:Int) (hk:k=2∨k=3∨k=4∨k=17∨k=6∨k=7):UF k:=by
 intro op n kids t r w ht hr
 clear ht hr
 unfold ndV
 rcases hk with rfl | rfl | rfl | rfl | rfl | rfl
 all_goals go_enter Tryz.func61,Tryz.ntmps61
 all_goals go_wp2
 all_goals go_ret
 all_goals first
  | (refine ⟨says_t ?_,below_two _ _ _⟩;simp [PlainNd,hasText,inR, *];done)
  | (refine ⟨says_f ?_,below_two _ _ _⟩;simp [PlainNd,hasText,inR, *];done)
  | (refine ⟨says_t ?_,below_two _ _ _⟩;simp [PlainNd,hasText,inR, *];omega)
  | (refine ⟨says_f ?_,below_two _ _ _⟩;simp [PlainNd,hasText,inR, *];intros;omega)
end Go.Proofs.YthnohneaanphbaaGreatDoor
