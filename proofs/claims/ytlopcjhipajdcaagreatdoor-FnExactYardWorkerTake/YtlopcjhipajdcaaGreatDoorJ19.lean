import Derived.Test.YtlopcjhipajdcaaGreatDoorJ18
/-! Sizes. -/
namespace Go.Proofs.YtlopcjhipajdcaaGreatDoor.R
open Go.RowKit
set_option maxRecDepth 20000
set_option maxHeartbeats 2000000 in
theorem szRy_any (x : Ry) (l : Int) (w : World) (hl : 0 ≤ l) (hl2 : l ≤ 1048576) (hx : OkRy x) :
    Calls Tryz.prog 85 #[.agg #[.int .i64 x.code, .string x.text], .int .i64 l] w (SzEnd l (wRy x) w) := by
  have HX := hid hx
  obtain ⟨hx0, hx1⟩ := hx
  have HB0 := hid (B1.start w (.cells #[.int .i64 x.code, .string x.text] 91))
  have hs_text := small hx1
  by_cases c1 : l - (x.text.size : Int) < 0
  · go_enter Tryz.func85, Tryz.ntmps85
    go_wp2
    go_ret
    exact ⟨⟨_, rfl, by omega, by omega, fun h => by omega⟩, HB0.out.lo⟩
  · go_enter Tryz.func85, Tryz.ntmps85
    go_wp2
    go_ret
    refine ⟨⟨_, rfl, by omega, by omega, fun h => ?_⟩, HB0.out.lo⟩
    simp only [wRy]
    omega
end Go.Proofs.YtlopcjhipajdcaaGreatDoor.R
