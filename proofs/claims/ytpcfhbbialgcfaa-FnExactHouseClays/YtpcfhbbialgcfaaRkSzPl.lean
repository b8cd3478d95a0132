import Derived.Test.YtpcfhbbialgcfaaRkSzFl
/-! Sizes. -/
namespace Go.Proofs.Ytpcfhbbialgcfaa.R
open Go.RowKit
set_option maxRecDepth 20000
set_option maxHeartbeats 2000000 in
theorem szPl_any (x : Pl) {v0 : Value} (l : Int) (w : World) (hl : 0 ≤ l) (hl2 : l ≤ 1048576) (hx : OkPl x) (k0 : SFlA w v0 x.files) :
    Calls Try.prog 4 #[.agg #[v0], .int .i64 l] w (SzEnd l (wPl x) w) := by
  have HX := hid hx
  have hx0 := hx
  have HB0 := hid (B1.start w (.cells #[v0] 24))
  have K0 := hid (k0.next HB0.out.lo)
  obtain ⟨ad0, cp0, rfl⟩ := k0.sl
  clear k0
  clear hx
  go_enter Try.func4, Try.ntmps4
  go_wp2_with fail
  refine (szSFl_any x.files _ _ (by omega) (by omega) hx0 (K0.out)).mono ?_
  rintro e w1 ⟨⟨r0, rfl, p0, q0, h0⟩, hb0⟩
  have HP0 := hid h0
  have HN0 := hid hb0
  have HB1 := hid (HB0.out.next hb0)
  clear h0 hb0
  by_cases c0 : r0 < 0
  · go_wp2
    go_ret
    exact ⟨⟨_, rfl, by omega, by omega, fun h => by omega⟩, HB1.out.lo⟩
  · go_wp2
    go_ret
    refine ⟨⟨_, rfl, by omega, by omega, fun h => ?_⟩, HB1.out.lo⟩
    have eHP0 := HP0.out (by omega)
    simp only [wPl]
    omega
end Go.Proofs.Ytpcfhbbialgcfaa.R
