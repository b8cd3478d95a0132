import Derived.Test.YtlopcjhipajdcaaGreatDoorJ18
/-! Copies. -/
namespace Go.Proofs.YtlopcjhipajdcaaGreatDoor.R
open Go.RowKit
set_option maxRecDepth 20000
set_option maxHeartbeats 4000000 in
theorem toRy_any (x : Ry) (w : World) :
    Calls Tryz.prog 87 #[.agg #[.int .i64 x.code, .string x.text]] w fun e w' => e = .returned (.agg #[.int .i64 x.code, .string x.text]) ∧ Below w.heap.size w w' := by
  go_enter Tryz.func87, Tryz.ntmps87
  go_wp2
  refine bodyPost_ret (v := .agg #[.int .i64 x.code, .string x.text]) ?_ rfl ⟨rfl, ?_⟩
  · simp [results, Tryz.results87, go_sem]
  · exact (below_two' _ _ _).alloc (by simp; omega) _
end Go.Proofs.YtlopcjhipajdcaaGreatDoor.R
