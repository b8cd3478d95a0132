import Derived.Test.YtlopcjhipajdcaaGreatDoorJ16
/-! Sizes. -/
namespace Go.Proofs.YtlopcjhipajdcaaGreatDoor.R
open Go.RowKit
set_option maxRecDepth 20000
set_option maxHeartbeats 2000000 in
theorem szTu_any (x : Tu) {v0 v1 : Value} (l : Int) (w : World) (hl : 0 ≤ l) (hl2 : l ≤ 1048576) (hx : OkTu x) (k0 : SFlA w v0 x.files) (k1 : SStrA w v1 x.said) :
    Calls Tryz.prog 26 #[.agg #[.bool x.over, .int .i64 x.code, .string x.text, .int .i64 x.kind, .string x.name, .int .i64 x.steps, v0, v1], .int .i64 l] w (SzEnd l (wTu x) w) := by
  have HX := hid hx
  obtain ⟨hx0, hx1, hx2, hx3, hx4, hx5, hx6, hx7⟩ := hx
  have HB0 := hid (B1.start w (.cells #[.bool x.over, .int .i64 x.code, .string x.text, .int .i64 x.kind, .string x.name, .int .i64 x.steps, v0, v1] 28))
  have K0 := hid (k0.next HB0.out.lo)
  have K1 := hid (k1.next HB0.out.lo)
  obtain ⟨ad0, cp0, rfl⟩ := k0.sl
  obtain ⟨ad1, cp1, rfl⟩ := k1.sl
  clear k0 k1
  have hs_text := small hx2
  have hs_name := small hx4
  by_cases c2 : l - (x.text.size : Int) < 0
  · go_enter Tryz.func26, Tryz.ntmps26
    go_wp2
    go_ret
    exact ⟨⟨_, rfl, by omega, by omega, fun h => by omega⟩, HB0.out.lo⟩
  · by_cases c4 : l - (x.text.size : Int) - (x.name.size : Int) < 0
    · go_enter Tryz.func26, Tryz.ntmps26
      go_wp2
      go_ret
      exact ⟨⟨_, rfl, by omega, by omega, fun h => by omega⟩, HB0.out.lo⟩
    · go_enter Tryz.func26, Tryz.ntmps26
      go_wp2_with fail
      refine (szSFl_any x.files _ _ (by omega) (by omega) hx6 (K0.out)).mono ?_
      rintro e w1 ⟨⟨r0, rfl, p0, q0, h0⟩, hb0⟩
      have HP0 := hid h0
      have HN0 := hid hb0
      have HB1 := hid (HB0.out.next hb0)
      clear h0 hb0
      have b0_7 : w1.cell? ⟨w.heap.size, 7, none⟩ = some (.slice ad1 x.said.length cp1) := row_cell HB1.out.e 7
      by_cases c6 : r0 < 0
      · go_wp2
        go_ret
        exact ⟨⟨_, rfl, by omega, by omega, fun h => by omega⟩, HB1.out.lo⟩
      · go_wp2_with fail
        refine (szSStr_any x.said _ _ (by omega) (by omega) hx7 (K1.out.next HN0.out)).mono ?_
        rintro e w2 ⟨⟨r1, rfl, p1, q1, h1⟩, hb1⟩
        have HP1 := hid h1
        have HN1 := hid (HN0.out.trans (hb1.mono HN0.out.size))
        have HB2 := hid (HB1.out.next hb1)
        clear h1 hb1
        by_cases c7 : r1 < 0
        · go_wp2
          go_ret
          exact ⟨⟨_, rfl, by omega, by omega, fun h => by omega⟩, HB2.out.lo⟩
        · go_wp2
          go_ret
          refine ⟨⟨_, rfl, by omega, by omega, fun h => ?_⟩, HB2.out.lo⟩
          have eHP0 := HP0.out (by omega)
          have eHP1 := HP1.out (by omega)
          simp only [wTu]
          omega
end Go.Proofs.YtlopcjhipajdcaaGreatDoor.R
