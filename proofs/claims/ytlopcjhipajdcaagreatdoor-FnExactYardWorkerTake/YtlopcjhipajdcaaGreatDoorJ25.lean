import Derived.Test.YtlopcjhipajdcaaGreatDoorJ23
/-! Copies. -/
namespace Go.Proofs.YtlopcjhipajdcaaGreatDoor.R
open Go.RowKit
set_option maxRecDepth 20000
set_option maxHeartbeats 4000000 in
theorem toTu_any (x : Tu) {v0 v1 : Value} (w : World) (hx : LoTu x) (k0 : SFlA w v0 x.files) (k1 : SStrA w v1 x.said) :
    Calls Tryz.prog 31 #[.agg #[.bool x.over, .int .i64 x.code, .string x.text, .int .i64 x.kind, .string x.name, .int .i64 x.steps, v0, v1]] w fun e w' => ∃ u0 u1, e = .returned (.agg #[.bool x.over, .int .i64 x.code, .string x.text, .int .i64 x.kind, .string x.name, .int .i64 x.steps, u0, u1]) ∧ SFlR w.heap.size w' u0 x.files ∧ SStrR w.heap.size w' u1 x.said ∧ Below w.heap.size w w' := by
  have K0 := hid k0
  have K1 := hid k1
  obtain ⟨ad0, cp0, rfl⟩ := k0.sl
  obtain ⟨ad1, cp1, rfl⟩ := k1.sl
  clear k0 k1
  have HLO := hid hx
  clear hx
  have HX0 := hid (B3.start w (.cells #[.bool x.over, .int .i64 x.code, .string x.text, .int .i64 x.kind, .string x.name, .int .i64 x.steps, .slice ad0 x.files.length cp0, .slice ad1 x.said.length cp1] 28) #[.bool false, .int .i64 0, .string ⟨#[]⟩, .int .i64 0, .string ⟨#[]⟩, .int .i64 0, .slice none 0 0, .slice none 0 0] #[.bool false, .int .i64 0, .string ⟨#[]⟩, .int .i64 0, .string ⟨#[]⟩, .int .i64 0, .slice none 0 0, .slice none 0 0] 39)
  obtain ⟨W0, hW0⟩ : ∃ W, ((w.alloc (.cells #[.bool x.over, .int .i64 x.code, .string x.text, .int .i64 x.kind, .string x.name, .int .i64 x.steps, .slice ad0 x.files.length cp0, .slice ad1 x.said.length cp1] 28)).alloc (.cells #[.bool false, .int .i64 0, .string ⟨#[]⟩, .int .i64 0, .string ⟨#[]⟩, .int .i64 0, .slice none 0 0, .slice none 0 0] 39)).alloc (.cells #[.bool false, .int .i64 0, .string ⟨#[]⟩, .int .i64 0, .string ⟨#[]⟩, .int .i64 0, .slice none 0 0, .slice none 0 0] 39) = W := ⟨_, rfl⟩
  rw [hW0] at HX0
  have a0_0 : W0.cell? ⟨w.heap.size, 0, none⟩ = some (.bool x.over) := row_cell HX0.out.e 0
  have a0_1 : W0.cell? ⟨w.heap.size, 1, none⟩ = some (.int .i64 x.code) := row_cell HX0.out.e 1
  have a0_2 : W0.cell? ⟨w.heap.size, 2, none⟩ = some (.string x.text) := row_cell HX0.out.e 2
  have a0_3 : W0.cell? ⟨w.heap.size, 3, none⟩ = some (.int .i64 x.kind) := row_cell HX0.out.e 3
  have a0_4 : W0.cell? ⟨w.heap.size, 4, none⟩ = some (.string x.name) := row_cell HX0.out.e 4
  have a0_5 : W0.cell? ⟨w.heap.size, 5, none⟩ = some (.int .i64 x.steps) := row_cell HX0.out.e 5
  have a0_6 : W0.cell? ⟨w.heap.size, 6, none⟩ = some (.slice ad0 x.files.length cp0) := row_cell HX0.out.e 6
  have o0_0 : W0.cell? ⟨w.heap.size + 1 + 1, 0, none⟩ = some (.bool false) := row_cell HX0.out.o 0
  have z0_0 : W0.frozen? ⟨w.heap.size + 1 + 1, 0, none⟩ = false := (row_room HX0.out.o (i := 0) (by simp)).2
  have o0_1 : W0.cell? ⟨w.heap.size + 1 + 1, 1, none⟩ = some (.int .i64 0) := row_cell HX0.out.o 1
  have z0_1 : W0.frozen? ⟨w.heap.size + 1 + 1, 1, none⟩ = false := (row_room HX0.out.o (i := 1) (by simp)).2
  have o0_2 : W0.cell? ⟨w.heap.size + 1 + 1, 2, none⟩ = some (.string ⟨#[]⟩) := row_cell HX0.out.o 2
  have z0_2 : W0.frozen? ⟨w.heap.size + 1 + 1, 2, none⟩ = false := (row_room HX0.out.o (i := 2) (by simp)).2
  have o0_3 : W0.cell? ⟨w.heap.size + 1 + 1, 3, none⟩ = some (.int .i64 0) := row_cell HX0.out.o 3
  have z0_3 : W0.frozen? ⟨w.heap.size + 1 + 1, 3, none⟩ = false := (row_room HX0.out.o (i := 3) (by simp)).2
  have o0_4 : W0.cell? ⟨w.heap.size + 1 + 1, 4, none⟩ = some (.string ⟨#[]⟩) := row_cell HX0.out.o 4
  have z0_4 : W0.frozen? ⟨w.heap.size + 1 + 1, 4, none⟩ = false := (row_room HX0.out.o (i := 4) (by simp)).2
  have o0_5 : W0.cell? ⟨w.heap.size + 1 + 1, 5, none⟩ = some (.int .i64 0) := row_cell HX0.out.o 5
  have z0_5 : W0.frozen? ⟨w.heap.size + 1 + 1, 5, none⟩ = false := (row_room HX0.out.o (i := 5) (by simp)).2
  go_enter Tryz.func31, Tryz.ntmps31
  go_wp2_with fail
  clear hW0
  have HY0 := hid ((((((HX0.out.set 0 (.bool x.over)).set 1 (.int .i64 x.code)).set 2 (.string x.text)).set 3 (.int .i64 x.kind)).set 4 (.string x.name)).set 5 (.int .i64 x.steps))
  obtain ⟨V0, hV0⟩ : ∃ V, ((((((W0.setCell ⟨w.heap.size + 1 + 1, 0, none⟩ (.bool x.over)).setCell ⟨w.heap.size + 1 + 1, 1, none⟩ (.int .i64 x.code)).setCell ⟨w.heap.size + 1 + 1, 2, none⟩ (.string x.text)).setCell ⟨w.heap.size + 1 + 1, 3, none⟩ (.int .i64 x.kind)).setCell ⟨w.heap.size + 1 + 1, 4, none⟩ (.string x.name)).setCell ⟨w.heap.size + 1 + 1, 5, none⟩ (.int .i64 x.steps)) = V := ⟨_, rfl⟩
  rw [hV0] at HY0 ⊢
  clear hV0
  clear a0_0 a0_1 a0_2 a0_3 a0_4 a0_5 a0_6 o0_0 z0_0 o0_1 z0_1 o0_2 z0_2 o0_3 z0_3 o0_4 z0_4 o0_5 z0_5 HX0
  refine (toSFl_any x.files V0 HLO.out.1 (K0.out.next HY0.out.lo)).mono ?_
  rintro e w1 ⟨u0, rfl, r0, hb0⟩
  have HRu0 := hid (r0.mono (B' := w.heap.size + 3) HY0.out.sz)
  obtain ⟨gu0, rfl⟩ := r0.sl
  clear r0
  have HX1 := hid (HY0.out.next hb0)
  clear hb0 HY0
  have a1_6 : w1.cell? ⟨w.heap.size, 6, none⟩ = some (.slice ad0 x.files.length cp0) := row_cell HX1.out.e 6
  have a1_7 : w1.cell? ⟨w.heap.size, 7, none⟩ = some (.slice ad1 x.said.length cp1) := row_cell HX1.out.e 7
  have o1_6 : w1.cell? ⟨w.heap.size + 1 + 1, 6, none⟩ = some (.slice none 0 0) := row_cell HX1.out.o 6
  have z1_6 : w1.frozen? ⟨w.heap.size + 1 + 1, 6, none⟩ = false := (row_room HX1.out.o (i := 6) (by simp)).2
  go_wp2_with fail
  have HY1 := hid (HX1.out.set 6 (.slice (some ⟨gu0, 0, none⟩) x.files.length x.files.length))
  have HRu0_1 := hid (HRu0.out.set (b := w.heap.size + 1 + 1) (by omega) 6 (.slice (some ⟨gu0, 0, none⟩) x.files.length x.files.length))
  obtain ⟨V1, hV1⟩ : ∃ V, (w1.setCell ⟨w.heap.size + 1 + 1, 6, none⟩ (.slice (some ⟨gu0, 0, none⟩) x.files.length x.files.length)) = V := ⟨_, rfl⟩
  rw [hV1] at HY1 HRu0_1 ⊢
  clear hV1
  clear a1_6 a1_7 o1_6 z1_6 HX1 HRu0
  refine (toSStr_any x.said V1 HLO.out.2 (K1.out.next HY1.out.lo)).mono ?_
  rintro e w2 ⟨u1, rfl, r1, hb1⟩
  have HRu1 := hid (r1.mono (B' := w.heap.size + 3) HY1.out.sz)
  obtain ⟨gu1, rfl⟩ := r1.sl
  clear r1
  have HX2 := hid (HY1.out.next hb1)
  have HRu0 := hid (HRu0_1.out.next hb1)
  clear HRu0_1
  clear hb1 HY1
  have o2_0 : w2.cell? ⟨w.heap.size + 1 + 1, 0, none⟩ = some (.bool x.over) := row_cell HX2.out.o 0
  have y2_0 : w2.cell? ⟨w.heap.size + 1, 0, none⟩ = some (.bool false) := row_cell HX2.out.r 0
  have f2_0 : w2.frozen? ⟨w.heap.size + 1, 0, none⟩ = false := (row_room HX2.out.r (i := 0) (by simp)).2
  have o2_1 : w2.cell? ⟨w.heap.size + 1 + 1, 1, none⟩ = some (.int .i64 x.code) := row_cell HX2.out.o 1
  have y2_1 : w2.cell? ⟨w.heap.size + 1, 1, none⟩ = some (.int .i64 0) := row_cell HX2.out.r 1
  have f2_1 : w2.frozen? ⟨w.heap.size + 1, 1, none⟩ = false := (row_room HX2.out.r (i := 1) (by simp)).2
  have o2_2 : w2.cell? ⟨w.heap.size + 1 + 1, 2, none⟩ = some (.string x.text) := row_cell HX2.out.o 2
  have y2_2 : w2.cell? ⟨w.heap.size + 1, 2, none⟩ = some (.string ⟨#[]⟩) := row_cell HX2.out.r 2
  have f2_2 : w2.frozen? ⟨w.heap.size + 1, 2, none⟩ = false := (row_room HX2.out.r (i := 2) (by simp)).2
  have o2_3 : w2.cell? ⟨w.heap.size + 1 + 1, 3, none⟩ = some (.int .i64 x.kind) := row_cell HX2.out.o 3
  have y2_3 : w2.cell? ⟨w.heap.size + 1, 3, none⟩ = some (.int .i64 0) := row_cell HX2.out.r 3
  have f2_3 : w2.frozen? ⟨w.heap.size + 1, 3, none⟩ = false := (row_room HX2.out.r (i := 3) (by simp)).2
  have o2_4 : w2.cell? ⟨w.heap.size + 1 + 1, 4, none⟩ = some (.string x.name) := row_cell HX2.out.o 4
  have y2_4 : w2.cell? ⟨w.heap.size + 1, 4, none⟩ = some (.string ⟨#[]⟩) := row_cell HX2.out.r 4
  have f2_4 : w2.frozen? ⟨w.heap.size + 1, 4, none⟩ = false := (row_room HX2.out.r (i := 4) (by simp)).2
  have o2_5 : w2.cell? ⟨w.heap.size + 1 + 1, 5, none⟩ = some (.int .i64 x.steps) := row_cell HX2.out.o 5
  have y2_5 : w2.cell? ⟨w.heap.size + 1, 5, none⟩ = some (.int .i64 0) := row_cell HX2.out.r 5
  have f2_5 : w2.frozen? ⟨w.heap.size + 1, 5, none⟩ = false := (row_room HX2.out.r (i := 5) (by simp)).2
  have o2_6 : w2.cell? ⟨w.heap.size + 1 + 1, 6, none⟩ = some (.slice (some ⟨gu0, 0, none⟩) x.files.length x.files.length) := row_cell HX2.out.o 6
  have y2_6 : w2.cell? ⟨w.heap.size + 1, 6, none⟩ = some (.slice none 0 0) := row_cell HX2.out.r 6
  have f2_6 : w2.frozen? ⟨w.heap.size + 1, 6, none⟩ = false := (row_room HX2.out.r (i := 6) (by simp)).2
  have o2_7 : w2.cell? ⟨w.heap.size + 1 + 1, 7, none⟩ = some (.slice none 0 0) := row_cell HX2.out.o 7
  have y2_7 : w2.cell? ⟨w.heap.size + 1, 7, none⟩ = some (.slice none 0 0) := row_cell HX2.out.r 7
  have f2_7 : w2.frozen? ⟨w.heap.size + 1, 7, none⟩ = false := (row_room HX2.out.r (i := 7) (by simp)).2
  have z2_7 : w2.frozen? ⟨w.heap.size + 1 + 1, 7, none⟩ = false := (row_room HX2.out.o (i := 7) (by simp)).2
  go_wp2
  refine bodyPost_ret (v := .agg #[.bool x.over, .int .i64 x.code, .string x.text, .int .i64 x.kind, .string x.name, .int .i64 x.steps, .slice (some ⟨gu0, 0, none⟩) x.files.length x.files.length, .slice (some ⟨gu1, 0, none⟩) x.said.length x.said.length]) (by simp [results, Tryz.results31, go_sem, y2_0, y2_1, y2_2, y2_3, y2_4, y2_5, y2_6, y2_7]) rfl ⟨_, _, rfl, ?_, ?_, ?_⟩
  · exact (((((((((HRu0.out.set (by omega) _ _).set (by omega) _ _).set (by omega) _ _).set (by omega) _ _).set (by omega) _ _).set (by omega) _ _).set (by omega) _ _).set (by omega) _ _).set (by omega) _ _).mono (by omega)
  · exact (((((((((HRu1.out.set (by omega) _ _).set (by omega) _ _).set (by omega) _ _).set (by omega) _ _).set (by omega) _ _).set (by omega) _ _).set (by omega) _ _).set (by omega) _ _).set (by omega) _ _).mono (by omega)
  · exact (below_set (below_set (below_set (below_set (below_set (below_set (below_set (below_set (below_set HX2.out.lo _ _ (by omega) _) _ _ (by omega) _) _ _ (by omega) _) _ _ (by omega) _) _ _ (by omega) _) _ _ (by omega) _) _ _ (by omega) _) _ _ (by omega) _) _ _ (by omega) _)
end Go.Proofs.YtlopcjhipajdcaaGreatDoor.R
