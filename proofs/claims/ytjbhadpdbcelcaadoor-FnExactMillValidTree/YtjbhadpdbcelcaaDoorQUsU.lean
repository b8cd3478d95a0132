import Derived.Test.YtjbhadpdbcelcaaDoorQPl
import Derived.Test.YtjbhadpdbcelcaaDoorQIsName
import Derived.Test.YtjbhadpdbcelcaaDoorQRow
/-! Printed by gen_fld.py. -/
namespace Go.Proofs.YtjbhadpdbcelcaaDoor.Q
open Go.RowKit Go.Shelf
set_option maxRecDepth 20000
theorem millIsType_nz (t : Int) (h : (t == 0) = false) (w : World) :
    Calls Tryd.prog 33 #[.int .i64 t] w fun e w' => e = .returned (.bool (decide (0 ≤ t) && decide (t ≤ 10))) ∧ w' = w :=
  (millIsType_int t w).mono fun e w' ⟨h1, h2⟩ => ⟨by
    rw [h1]
    rw [beq_eq_false_iff_ne] at h
    exact ret_bool (by rw [Bool.eq_iff_iff]; simp; omega), h2⟩
def UF (k : Int) : Prop := ∀ (op ty n kids : Int) (t : ByteArray) (r : Nat) (w : World), t.size ≤ maxLen → w.heap[r]? = some (.map (mwE 35) 35) → Calls Tryd.prog 15 #[ndV ⟨k, op, ty, n, t, kids⟩, .map (some r)] w fun e w' => Says e (PlainNd ⟨k, op, ty, n, t, kids⟩) ∧ Below w.heap.size w w'
theorem below_two (w : World) (a b : Obj) : Below w.heap.size w ((w.alloc a).alloc b) := ((Below.refl _ _).alloc (Nat.le_refl _) a).alloc (by simp) b
theorem two_rows {w w1 : World} {a0 a1 a2 a3 a4 a5 b0 b1 b2 b3 b4 b5 : Value} {t u : TypeId} (h : Below ((w.alloc (.cells #[a0, a1, a2, a3, a4, a5] t)).alloc (.cells #[b0, b1, b2, b3, b4, b5] u)).heap.size ((w.alloc (.cells #[a0, a1, a2, a3, a4, a5] t)).alloc (.cells #[b0, b1, b2, b3, b4, b5] u)) w1) :
    (w1.cell? ⟨w.heap.size, 0, none⟩ = some a0 ∧ w1.cell? ⟨w.heap.size, 1, none⟩ = some a1 ∧ w1.cell? ⟨w.heap.size, 2, none⟩ = some a2 ∧ w1.cell? ⟨w.heap.size, 3, none⟩ = some a3 ∧ w1.cell? ⟨w.heap.size, 4, none⟩ = some a4 ∧ w1.cell? ⟨w.heap.size, 5, none⟩ = some a5) ∧
    (w1.cell? ⟨w.heap.size + 1, 0, none⟩ = some b0 ∧ w1.cell? ⟨w.heap.size + 1, 1, none⟩ = some b1 ∧ w1.cell? ⟨w.heap.size + 1, 2, none⟩ = some b2 ∧ w1.cell? ⟨w.heap.size + 1, 3, none⟩ = some b3 ∧ w1.cell? ⟨w.heap.size + 1, 4, none⟩ = some b4 ∧ w1.cell? ⟨w.heap.size + 1, 5, none⟩ = some b5) ∧ Below w.heap.size w w1 := by
  have f : ∀ i, w1.cell? ⟨w.heap.size, i, none⟩ = #[a0, a1, a2, a3, a4, a5][i]? := fun i => by
    rw [h.cell (p := ⟨w.heap.size, i, none⟩) (by simp; omega)]
    rw [((Below.refl (w.heap.size + 1) (w.alloc (.cells #[a0, a1, a2, a3, a4, a5] t))).alloc (by simp) _).cell (p := ⟨w.heap.size, i, none⟩) (Nat.lt_succ_self _), cell_new_row]
  have g : ∀ i, w1.cell? ⟨w.heap.size + 1, i, none⟩ = #[b0, b1, b2, b3, b4, b5][i]? := fun i => by
    rw [h.cell (p := ⟨w.heap.size + 1, i, none⟩) (by simp)]
    have := cell_new_row (w.alloc (.cells #[a0, a1, a2, a3, a4, a5] t)) #[b0, b1, b2, b3, b4, b5] u i
    rwa [World.size_alloc] at this
  exact ⟨⟨f 0, f 1, f 2, f 3, f 4, f 5⟩, ⟨g 0, g 1, g 2, g 3, g 4, g 5⟩, (below_two w _ _).trans (h.mono (by simp; omega))⟩
end Go.Proofs.YtjbhadpdbcelcaaDoor.Q
