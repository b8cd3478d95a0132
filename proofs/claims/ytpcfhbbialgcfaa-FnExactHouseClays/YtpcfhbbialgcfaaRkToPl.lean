import Derived.Test.YtpcfhbbialgcfaaRkToFl
/-! Copies. -/
namespace Go.Proofs.Ytpcfhbbialgcfaa.R
open Go.RowKit
set_option maxRecDepth 20000
set_option maxHeartbeats 4000000 in
theorem toPl_any (x : Pl) {v0 : Value} (w : World) (hx : LoPl x) (k0 : SFlA w v0 x.files) :
    Calls Try.prog 6 #[.agg #[v0]] w fun e w' => ∃ u0, e = .returned (.agg #[u0]) ∧ SFlR w.heap.size w' u0 x.files ∧ Below w.heap.size w w' := by
  have K0 := hid k0
  obtain ⟨ad0, cp0, rfl⟩ := k0.sl
  clear k0
  have HLO := hid hx
  clear hx
  have HX0 := hid (B3.start w (.cells #[.slice ad0 x.files.length cp0] 24) #[.slice none 0 0] #[.slice none 0 0] 33)
  obtain ⟨W0, hW0⟩ : ∃ W, ((w.alloc (.cells #[.slice ad0 x.files.length cp0] 24)).alloc (.cells #[.slice none 0 0] 33)).alloc (.cells #[.slice none 0 0] 33) = W := ⟨_, rfl⟩
  rw [hW0] at HX0
  have a0_0 : W0.cell? ⟨w.heap.size, 0, none⟩ = some (.slice ad0 x.files.length cp0) := row_cell HX0.out.e 0
  go_enter Try.func6, Try.ntmps6
  go_wp2_with fail
  clear hW0
  have HY0 := hid HX0.out
  clear a0_0 HX0
  refine (toSFl_any x.files W0 HLO.out (K0.out.next HY0.out.lo)).mono ?_
  rintro e w1 ⟨u0, rfl, r0, hb0⟩
  have HRu0 := hid (r0.mono (B' := w.heap.size + 3) HY0.out.sz)
  obtain ⟨gu0, rfl⟩ := r0.sl
  clear r0
  have HX1 := hid (HY0.out.next hb0)
  clear hb0 HY0
  have o1_0 : w1.cell? ⟨w.heap.size + 1 + 1, 0, none⟩ = some (.slice none 0 0) := row_cell HX1.out.o 0
  have y1_0 : w1.cell? ⟨w.heap.size + 1, 0, none⟩ = some (.slice none 0 0) := row_cell HX1.out.r 0
  have f1_0 : w1.frozen? ⟨w.heap.size + 1, 0, none⟩ = false := (row_room HX1.out.r (i := 0) (by simp)).2
  have z1_0 : w1.frozen? ⟨w.heap.size + 1 + 1, 0, none⟩ = false := (row_room HX1.out.o (i := 0) (by simp)).2
  go_wp2
  refine bodyPost_ret (v := .agg #[.slice (some ⟨gu0, 0, none⟩) x.files.length x.files.length]) (by simp [results, Try.results6, go_sem, y1_0]) rfl ⟨_, rfl, ?_, ?_⟩
  · exact ((HRu0.out.set (by omega) _ _).set (by omega) _ _).mono (by omega)
  · exact (below_set (below_set HX1.out.lo _ _ (by omega) _) _ _ (by omega) _)
end Go.Proofs.Ytpcfhbbialgcfaa.R
