import Derived.Test.YtlopcjhipajdcaaGreatDoorJ16
import Derived.Test.YtlopcjhipajdcaaGreatDoorJ17
/-! Sizes. -/
namespace Go.Proofs.YtlopcjhipajdcaaGreatDoor.R
open Go.RowKit
set_option maxRecDepth 20000
set_option maxHeartbeats 2000000 in
theorem szTg_any (x : Tg) {v0 v1 : Value} (l : Int) (w : World) (hl : 0 ≤ l) (hl2 : l ≤ 1048576) (hx : OkTg x) (k0 : SStrA w v0 x.ins) (k1 : SStrA w v1 x.outs) :
    Calls Tryz.prog 24 #[.agg #[.string x.name, .string x.tool, .string x.arg, v0, v1], .int .i64 l] w (SzEnd l (wTg x) w) := by
  have HX := hid hx
  obtain ⟨hx0, hx1, hx2, hx3, hx4⟩ := hx
  have HB0 := hid (B1.start w (.cells #[.string x.name, .string x.tool, .string x.arg, v0, v1] 24))
  have K0 := hid (k0.next HB0.out.lo)
  have K1 := hid (k1.next HB0.out.lo)
  obtain ⟨ad0, cp0, rfl⟩ := k0.sl
  obtain ⟨ad1, cp1, rfl⟩ := k1.sl
  clear k0 k1
  have hs_name := small hx0
  have hs_tool := small hx1
  have hs_arg := small hx2
  by_cases c0 : l - (x.name.size : Int) < 0
  · go_enter Tryz.func24, Tryz.ntmps24
    go_wp2
    go_ret
    exact ⟨⟨_, rfl, by omega, by omega, fun h => by omega⟩, HB0.out.lo⟩
  · by_cases c1 : l - (x.name.size : Int) - (x.tool.size : Int) < 0
    · go_enter Tryz.func24, Tryz.ntmps24
      go_wp2
      go_ret
      exact ⟨⟨_, rfl, by omega, by omega, fun h => by omega⟩, HB0.out.lo⟩
    · by_cases c2 : l - (x.name.size : Int) - (x.tool.size : Int) - (x.arg.size : Int) < 0
      · go_enter Tryz.func24, Tryz.ntmps24
        go_wp2
        go_ret
        exact ⟨⟨_, rfl, by omega, by omega, fun h => by omega⟩, HB0.out.lo⟩
      · go_enter Tryz.func24, Tryz.ntmps24
        go_wp2_with fail
        refine (szSStr_any x.ins _ _ (by omega) (by omega) hx3 (K0.out)).mono ?_
        rintro e w1 ⟨⟨r0, rfl, p0, q0, h0⟩, hb0⟩
        have HP0 := hid h0
        have HN0 := hid hb0
        have HB1 := hid (HB0.out.next hb0)
        clear h0 hb0
        have b0_4 : w1.cell? ⟨w.heap.size, 4, none⟩ = some (.slice ad1 x.outs.length cp1) := row_cell HB1.out.e 4
        by_cases c3 : r0 < 0
        · go_wp2
          go_ret
          exact ⟨⟨_, rfl, by omega, by omega, fun h => by omega⟩, HB1.out.lo⟩
        · go_wp2_with fail
          refine (szSStr_any x.outs _ _ (by omega) (by omega) hx4 (K1.out.next HN0.out)).mono ?_
          rintro e w2 ⟨⟨r1, rfl, p1, q1, h1⟩, hb1⟩
          have HP1 := hid h1
          have HN1 := hid (HN0.out.trans (hb1.mono HN0.out.size))
          have HB2 := hid (HB1.out.next hb1)
          clear h1 hb1
          by_cases c4 : r1 < 0
          · go_wp2
            go_ret
            exact ⟨⟨_, rfl, by omega, by omega, fun h => by omega⟩, HB2.out.lo⟩
          · go_wp2
            go_ret
            refine ⟨⟨_, rfl, by omega, by omega, fun h => ?_⟩, HB2.out.lo⟩
            have eHP0 := HP0.out (by omega)
            have eHP1 := HP1.out (by omega)
            simp only [wTg]
            omega
end Go.Proofs.YtlopcjhipajdcaaGreatDoor.R
/-! Copies. -/
namespace Go.Proofs.YtlopcjhipajdcaaGreatDoor.R
open Go.RowKit
set_option maxRecDepth 20000
set_option maxHeartbeats 4000000 in
theorem toTg_any (x : Tg) {v0 v1 : Value} (w : World) (hx : LoTg x) (k0 : SStrA w v0 x.ins) (k1 : SStrA w v1 x.outs) :
    Calls Tryz.prog 29 #[.agg #[.string x.name, .string x.tool, .string x.arg, v0, v1]] w fun e w' => ∃ u0 u1, e = .returned (.agg #[.string x.name, .string x.tool, .string x.arg, u0, u1]) ∧ SStrR w.heap.size w' u0 x.ins ∧ SStrR w.heap.size w' u1 x.outs ∧ Below w.heap.size w w' := by
  have K0 := hid k0
  have K1 := hid k1
  obtain ⟨ad0, cp0, rfl⟩ := k0.sl
  obtain ⟨ad1, cp1, rfl⟩ := k1.sl
  clear k0 k1
  have HLO := hid hx
  clear hx
  have HX0 := hid (B3.start w (.cells #[.string x.name, .string x.tool, .string x.arg, .slice ad0 x.ins.length cp0, .slice ad1 x.outs.length cp1] 24) #[.string ⟨#[]⟩, .string ⟨#[]⟩, .string ⟨#[]⟩, .slice none 0 0, .slice none 0 0] #[.string ⟨#[]⟩, .string ⟨#[]⟩, .string ⟨#[]⟩, .slice none 0 0, .slice none 0 0] 35)
  obtain ⟨W0, hW0⟩ : ∃ W, ((w.alloc (.cells #[.string x.name, .string x.tool, .string x.arg, .slice ad0 x.ins.length cp0, .slice ad1 x.outs.length cp1] 24)).alloc (.cells #[.string ⟨#[]⟩, .string ⟨#[]⟩, .string ⟨#[]⟩, .slice none 0 0, .slice none 0 0] 35)).alloc (.cells #[.string ⟨#[]⟩, .string ⟨#[]⟩, .string ⟨#[]⟩, .slice none 0 0, .slice none 0 0] 35) = W := ⟨_, rfl⟩
  rw [hW0] at HX0
  have a0_0 : W0.cell? ⟨w.heap.size, 0, none⟩ = some (.string x.name) := row_cell HX0.out.e 0
  have a0_1 : W0.cell? ⟨w.heap.size, 1, none⟩ = some (.string x.tool) := row_cell HX0.out.e 1
  have a0_2 : W0.cell? ⟨w.heap.size, 2, none⟩ = some (.string x.arg) := row_cell HX0.out.e 2
  have a0_3 : W0.cell? ⟨w.heap.size, 3, none⟩ = some (.slice ad0 x.ins.length cp0) := row_cell HX0.out.e 3
  have o0_0 : W0.cell? ⟨w.heap.size + 1 + 1, 0, none⟩ = some (.string ⟨#[]⟩) := row_cell HX0.out.o 0
  have z0_0 : W0.frozen? ⟨w.heap.size + 1 + 1, 0, none⟩ = false := (row_room HX0.out.o (i := 0) (by simp)).2
  have o0_1 : W0.cell? ⟨w.heap.size + 1 + 1, 1, none⟩ = some (.string ⟨#[]⟩) := row_cell HX0.out.o 1
  have z0_1 : W0.frozen? ⟨w.heap.size + 1 + 1, 1, none⟩ = false := (row_room HX0.out.o (i := 1) (by simp)).2
  have o0_2 : W0.cell? ⟨w.heap.size + 1 + 1, 2, none⟩ = some (.string ⟨#[]⟩) := row_cell HX0.out.o 2
  have z0_2 : W0.frozen? ⟨w.heap.size + 1 + 1, 2, none⟩ = false := (row_room HX0.out.o (i := 2) (by simp)).2
  go_enter Tryz.func29, Tryz.ntmps29
  go_wp2_with fail
  clear hW0
  have HY0 := hid (((HX0.out.set 0 (.string x.name)).set 1 (.string x.tool)).set 2 (.string x.arg))
  obtain ⟨V0, hV0⟩ : ∃ V, (((W0.setCell ⟨w.heap.size + 1 + 1, 0, none⟩ (.string x.name)).setCell ⟨w.heap.size + 1 + 1, 1, none⟩ (.string x.tool)).setCell ⟨w.heap.size + 1 + 1, 2, none⟩ (.string x.arg)) = V := ⟨_, rfl⟩
  rw [hV0] at HY0 ⊢
  clear hV0
  clear a0_0 a0_1 a0_2 a0_3 o0_0 z0_0 o0_1 z0_1 o0_2 z0_2 HX0
  refine (toSStr_any x.ins V0 HLO.out.1 (K0.out.next HY0.out.lo)).mono ?_
  rintro e w1 ⟨u0, rfl, r0, hb0⟩
  have HRu0 := hid (r0.mono (B' := w.heap.size + 3) HY0.out.sz)
  obtain ⟨gu0, rfl⟩ := r0.sl
  clear r0
  have HX1 := hid (HY0.out.next hb0)
  clear hb0 HY0
  have a1_3 : w1.cell? ⟨w.heap.size, 3, none⟩ = some (.slice ad0 x.ins.length cp0) := row_cell HX1.out.e 3
  have a1_4 : w1.cell? ⟨w.heap.size, 4, none⟩ = some (.slice ad1 x.outs.length cp1) := row_cell HX1.out.e 4
  have o1_3 : w1.cell? ⟨w.heap.size + 1 + 1, 3, none⟩ = some (.slice none 0 0) := row_cell HX1.out.o 3
  have z1_3 : w1.frozen? ⟨w.heap.size + 1 + 1, 3, none⟩ = false := (row_room HX1.out.o (i := 3) (by simp)).2
  go_wp2_with fail
  have HY1 := hid (HX1.out.set 3 (.slice (some ⟨gu0, 0, none⟩) x.ins.length x.ins.length))
  have HRu0_1 := hid (HRu0.out.set (b := w.heap.size + 1 + 1) (by omega) 3 (.slice (some ⟨gu0, 0, none⟩) x.ins.length x.ins.length))
  obtain ⟨V1, hV1⟩ : ∃ V, (w1.setCell ⟨w.heap.size + 1 + 1, 3, none⟩ (.slice (some ⟨gu0, 0, none⟩) x.ins.length x.ins.length)) = V := ⟨_, rfl⟩
  rw [hV1] at HY1 HRu0_1 ⊢
  clear hV1
  clear a1_3 a1_4 o1_3 z1_3 HX1 HRu0
  refine (toSStr_any x.outs V1 HLO.out.2 (K1.out.next HY1.out.lo)).mono ?_
  rintro e w2 ⟨u1, rfl, r1, hb1⟩
  have HRu1 := hid (r1.mono (B' := w.heap.size + 3) HY1.out.sz)
  obtain ⟨gu1, rfl⟩ := r1.sl
  clear r1
  have HX2 := hid (HY1.out.next hb1)
  have HRu0 := hid (HRu0_1.out.next hb1)
  clear HRu0_1
  clear hb1 HY1
  have o2_0 : w2.cell? ⟨w.heap.size + 1 + 1, 0, none⟩ = some (.string x.name) := row_cell HX2.out.o 0
  have y2_0 : w2.cell? ⟨w.heap.size + 1, 0, none⟩ = some (.string ⟨#[]⟩) := row_cell HX2.out.r 0
  have f2_0 : w2.frozen? ⟨w.heap.size + 1, 0, none⟩ = false := (row_room HX2.out.r (i := 0) (by simp)).2
  have o2_1 : w2.cell? ⟨w.heap.size + 1 + 1, 1, none⟩ = some (.string x.tool) := row_cell HX2.out.o 1
  have y2_1 : w2.cell? ⟨w.heap.size + 1, 1, none⟩ = some (.string ⟨#[]⟩) := row_cell HX2.out.r 1
  have f2_1 : w2.frozen? ⟨w.heap.size + 1, 1, none⟩ = false := (row_room HX2.out.r (i := 1) (by simp)).2
  have o2_2 : w2.cell? ⟨w.heap.size + 1 + 1, 2, none⟩ = some (.string x.arg) := row_cell HX2.out.o 2
  have y2_2 : w2.cell? ⟨w.heap.size + 1, 2, none⟩ = some (.string ⟨#[]⟩) := row_cell HX2.out.r 2
  have f2_2 : w2.frozen? ⟨w.heap.size + 1, 2, none⟩ = false := (row_room HX2.out.r (i := 2) (by simp)).2
  have o2_3 : w2.cell? ⟨w.heap.size + 1 + 1, 3, none⟩ = some (.slice (some ⟨gu0, 0, none⟩) x.ins.length x.ins.length) := row_cell HX2.out.o 3
  have y2_3 : w2.cell? ⟨w.heap.size + 1, 3, none⟩ = some (.slice none 0 0) := row_cell HX2.out.r 3
  have f2_3 : w2.frozen? ⟨w.heap.size + 1, 3, none⟩ = false := (row_room HX2.out.r (i := 3) (by simp)).2
  have o2_4 : w2.cell? ⟨w.heap.size + 1 + 1, 4, none⟩ = some (.slice none 0 0) := row_cell HX2.out.o 4
  have y2_4 : w2.cell? ⟨w.heap.size + 1, 4, none⟩ = some (.slice none 0 0) := row_cell HX2.out.r 4
  have f2_4 : w2.frozen? ⟨w.heap.size + 1, 4, none⟩ = false := (row_room HX2.out.r (i := 4) (by simp)).2
  have z2_4 : w2.frozen? ⟨w.heap.size + 1 + 1, 4, none⟩ = false := (row_room HX2.out.o (i := 4) (by simp)).2
  go_wp2
  refine bodyPost_ret (v := .agg #[.string x.name, .string x.tool, .string x.arg, .slice (some ⟨gu0, 0, none⟩) x.ins.length x.ins.length, .slice (some ⟨gu1, 0, none⟩) x.outs.length x.outs.length]) (by simp [results, Tryz.results29, go_sem, y2_0, y2_1, y2_2, y2_3, y2_4]) rfl ⟨_, _, rfl, ?_, ?_, ?_⟩
  · exact ((((((HRu0.out.set (by omega) _ _).set (by omega) _ _).set (by omega) _ _).set (by omega) _ _).set (by omega) _ _).set (by omega) _ _).mono (by omega)
  · exact ((((((HRu1.out.set (by omega) _ _).set (by omega) _ _).set (by omega) _ _).set (by omega) _ _).set (by omega) _ _).set (by omega) _ _).mono (by omega)
  · exact (below_set (below_set (below_set (below_set (below_set (below_set HX2.out.lo _ _ (by omega) _) _ _ (by omega) _) _ _ (by omega) _) _ _ (by omega) _) _ _ (by omega) _) _ _ (by omega) _)
end Go.Proofs.YtlopcjhipajdcaaGreatDoor.R
