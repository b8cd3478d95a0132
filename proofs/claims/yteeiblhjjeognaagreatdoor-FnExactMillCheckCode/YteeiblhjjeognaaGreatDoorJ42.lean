import Derived.Test.YteeiblhjjeognaaGreatDoorJ41
/-! errors.As, for what the program hands it. -/
namespace Go.Proofs.YteeiblhjjeognaaGreatDoor.C
open Go.RowKit
set_option maxRecDepth 20000
theorem as_nil (v : Value) (w : World) : Calls Tryz.prog 21 #[.nilIface, v] w fun e w' => e = .returned (.bool false) ∧ w' = w := by
  go_enter Tryz.func21, Tryz.ntmps21
  go_wp2_with fail
  go_ret
  exact ⟨rfl, rfl⟩
end Go.Proofs.YteeiblhjjeognaaGreatDoor.C
