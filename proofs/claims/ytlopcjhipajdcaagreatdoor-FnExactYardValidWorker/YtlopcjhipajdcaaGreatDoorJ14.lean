import Derived.Test.YtlopcjhipajdcaaGreatDoorJ13
/-! Sizes. -/
namespace Go.Proofs.YtlopcjhipajdcaaGreatDoor.R
open Go.RowKit
set_option maxRecDepth 20000
set_option maxHeartbeats 2000000 in
theorem szTg_any (x : Tg) {v0 v1 : Value} (l : Int) (w : World) (hl : 0 ≤ l) (hl2 : l ≤ 1048576) (hx : OkTg x) (k0 : SStrA w v0 x.ins) (k1 : SStrA w v1 x.outs) :
    Calls Tryz.prog 24 #[.agg #[.string x.name, .string x.tool, .string x.arg, v0, v1], .int .i64 l] w (SzEnd l (wTg x) w) := by
  have HX := hid hx
  obtain ⟨hx0, hx1, hx2, hx3, hx4⟩ := hx
  have HB0 := hid (B1.start w (.cells #[.string x.name, .string x.tool, .string x.arg, v0, v1] 24))
  have K0 := hid (k0.next HB0.out.lo)
  have K1 := hid (k1.next HB0.out.lo)
  obtain ⟨ad0, cp0, rfl⟩ := k0.sl
  obtain ⟨ad1, cp1, rfl⟩ := k1.sl
  clear k0 k1
  have hs_name := small hx0
  have hs_tool := small hx1
  have hs_arg := small hx2
  by_cases c0 : l - (x.name.size : Int) < 0
  · go_enter Tryz.func24, Tryz.ntmps24
    go_wp2
    go_ret
    exact ⟨⟨_, rfl, by omega, by omega, fun h => by omega⟩, HB0.out.lo⟩
  · by_cases c1 : l - (x.name.size : Int) - (x.tool.size : Int) < 0
    · go_enter Tryz.func24, Tryz.ntmps24
      go_wp2
      go_ret
      exact ⟨⟨_, rfl, by omega, by omega, fun h => by omega⟩, HB0.out.lo⟩
    · by_cases c2 : l - (x.name.size : Int) - (x.tool.size : Int) - (x.arg.size : Int) < 0
      · go_enter Tryz.func24, Tryz.ntmps24
        go_wp2
        go_ret
        exact ⟨⟨_, rfl, by omega, by omega, fun h => by omega⟩, HB0.out.lo⟩
      · go_enter Tryz.func24, Tryz.ntmps24
        go_wp2_with fail
        refine (szSStr_any x.ins _ _ (by omega) (by omega) hx3 (K0.out)).mono ?_
        rintro e w1 ⟨⟨r0, rfl, p0, q0, h0⟩, hb0⟩
        have HP0 := hid h0
        have HN0 := hid hb0
        have HB1 := hid (HB0.out.next hb0)
        clear h0 hb0
        have b0_4 : w1.cell? ⟨w.heap.size, 4, none⟩ = some (.slice ad1 x.outs.length cp1) := row_cell HB1.out.e 4
        by_cases c3 : r0 < 0
        · go_wp2
          go_ret
          exact ⟨⟨_, rfl, by omega, by omega, fun h => by omega⟩, HB1.out.lo⟩
        · go_wp2_with fail
          refine (szSStr_any x.outs _ _ (by omega) (by omega) hx4 (K1.out.next HN0.out)).mono ?_
          rintro e w2 ⟨⟨r1, rfl, p1, q1, h1⟩, hb1⟩
          have HP1 := hid h1
          have HN1 := hid (HN0.out.trans (hb1.mono HN0.out.size))
          have HB2 := hid (HB1.out.next hb1)
          clear h1 hb1
          by_cases c4 : r1 < 0
          · go_wp2
            go_ret
            exact ⟨⟨_, rfl, by omega, by omega, fun h => by omega⟩, HB2.out.lo⟩
          · go_wp2
            go_ret
            refine ⟨⟨_, rfl, by omega, by omega, fun h => ?_⟩, HB2.out.lo⟩
            have eHP0 := HP0.out (by omega)
            have eHP1 := HP1.out (by omega)
            simp only [wTg]
            omega
end Go.Proofs.YtlopcjhipajdcaaGreatDoor.R
