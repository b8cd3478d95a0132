import Derived.Test.YtlopcjhipajdcaaGreatDoorJ07
/-! Sameness. -/
namespace Go.Proofs.YtlopcjhipajdcaaGreatDoor.R
open Go.RowKit
set_option maxRecDepth 20000
end Go.Proofs.YtlopcjhipajdcaaGreatDoor.R
/-! Sameness. -/
namespace Go.Proofs.YtlopcjhipajdcaaGreatDoor.R
open Go.RowKit
set_option maxRecDepth 20000
end Go.Proofs.YtlopcjhipajdcaaGreatDoor.R
/-! Sameness. -/
namespace Go.Proofs.YtlopcjhipajdcaaGreatDoor.R
open Go.RowKit
set_option maxRecDepth 20000
set_option maxHeartbeats 4000000 in
theorem eqRy_same (x : Ry) (w : World) :
    Calls Tryz.prog 93 #[.agg #[.int .i64 x.code, .string x.text], .agg #[.int .i64 x.code, .string x.text]] w fun e w' => e = .returned (.bool true) ∧ Below w.heap.size w w' := by
  have e0 : (x.text.toList != x.text.toList) = false := by simp
  have i0 : (x.code != x.code) = false := by simp
  have HB0 := hid (B2.start w (.cells #[.int .i64 x.code, .string x.text] 86) (.cells #[.int .i64 x.code, .string x.text] 86))
  go_enter Tryz.func93, Tryz.ntmps93
  go_wp2
  go_ret
  exact ⟨rfl, HB0.out.lo⟩
end Go.Proofs.YtlopcjhipajdcaaGreatDoor.R
