import Derived.Test.YtabefhpgeaihgaaDoorVMath
import Derived.Test.YtabefhpgeaihgaaDoorProg
import Derived.WalkKit
import Derived.WalkSpells
import Derived.WalkLawsBesides
import Derived.Deep.QuietTactic
import Derived.BigQuiet
import Derived.Lib.Bytealg
import Derived.Lib.Strings
import Derived.BigCall
import Derived.Shelf.Abstract
/-! What both sides have of types, and taking a number into one. -/
namespace Go.Proofs.YtabefhpgeaihgaaDoor.V
open Go.RowKit Go.Shelf
set_option maxRecDepth 20000
theorem ret_bool {a b : Bool} (h : a = b) : Ending.returned (.bool a) = .returned (.bool b) := by rw [h]
theorem ret_int {k : IntKind} {a b : Int} (h : a = b) : Ending.returned (.int k a) = .returned (.int k b) := by rw [h]
theorem hid {p : Prop} (h : p) : Hid p := h
set_option maxHeartbeats 400000 in
theorem l10Integer_any (t : Int) (w : World) :
    Calls Tryd.prog 21 #[.int .i64 t] w fun e w' => e = .returned (.bool (decide (3 ≤ t) && decide (t ≤ 10))) ∧ w' = w := by
  go_enter Tryd.func21, Tryd.ntmps21
  go_wp2
  all_goals go_ret
  all_goals exact ⟨ret_bool (by rw [Bool.eq_iff_iff]; simp; try omega), rfl⟩
set_option maxHeartbeats 400000 in
theorem millIsInteger_any (t : Int) (w : World) :
    Calls Tryd.prog 43 #[.int .i64 t] w fun e w' => e = .returned (.bool (decide (3 ≤ t) && decide (t ≤ 10))) ∧ w' = w := by
  go_enter Tryd.func43, Tryd.ntmps43
  go_wp2
  all_goals go_ret
  all_goals exact ⟨ret_bool (by rw [Bool.eq_iff_iff]; simp; try omega), rfl⟩
set_option maxHeartbeats 400000 in
theorem l10Signed_any (t : Int) (w : World) :
    Calls Tryd.prog 35 #[.int .i64 t] w fun e w' => e = .returned (.bool (decide (7 ≤ t) && decide (t ≤ 10))) ∧ w' = w := by
  go_enter Tryd.func35, Tryd.ntmps35
  go_wp2
  all_goals go_ret
  all_goals exact ⟨ret_bool (by rw [Bool.eq_iff_iff]; simp; try omega), rfl⟩
theorem typ8 {t : Int} (h1 : 3 ≤ t) (h2 : t ≤ 10) : t = 3 ∨ t = 4 ∨ t = 5 ∨ t = 6 ∨ t = 7 ∨ t = 8 ∨ t = 9 ∨ t = 10 := by omega
set_option maxHeartbeats 400000 in
theorem l10Bits_any (t : Int) (h1 : 3 ≤ t) (h2 : t ≤ 10) (w : World) :
    Calls Tryd.prog 34 #[.int .i64 t] w fun e w' => e = .returned (.int .i64 ((kT t).bits : Nat)) ∧ w' = w := by
  obtain rfl | rfl | rfl | rfl | rfl | rfl | rfl | rfl := typ8 h1 h2
  all_goals go_enter Tryd.func34, Tryd.ntmps34
  all_goals go_wp2
  all_goals go_ret
  all_goals exact ⟨rfl, rfl⟩
set_option maxHeartbeats 1000000 in
theorem l13Into_any (t x : Int) (h1 : 3 ≤ t) (h2 : t ≤ 10) (hx0 : 0 ≤ x) (hx : x ≤ 18446744073709551615) (w : World) :
    Calls Tryd.prog 22 #[.int .i64 t, .int .u64 x] w fun e w' => e = .returned (.int .i64 (into t x)) ∧ w' = w := by
  obtain rfl | rfl | rfl | rfl | rfl | rfl | rfl | rfl := typ8 h1 h2
  all_goals clear h1 h2
  all_goals go_enter Tryd.func22, Tryd.ntmps22
  all_goals go_wp2_with (first
    | (go_at_call 34; refine (l10Bits_any _ (by decide) (by decide) _).mono ?_; rintro e w' ⟨rfl, rfl⟩; simp only [kT3, kT4, kT5, kT6, kT7, kT8, kT9, kT10, IntKind.bits])
    | (go_at_call 35; refine (l10Signed_any _ _).mono ?_; rintro e w' ⟨rfl, rfl⟩; simp)
    | fail)
  all_goals go_ret
  all_goals exact ⟨ret_int (by simp [into, intoK, kT3, kT4, kT5, kT6, kT7, kT8, kT9, kT10, IntKind.wrap, IntKind.bits, IntKind.signed, wrap64]; try omega), rfl⟩
end Go.Proofs.YtabefhpgeaihgaaDoor.V
