import Derived.Test.YtpcfhbbialgcfaaPlPut
/-! Files laid by the model. Printed by gen_plspecl.py. -/
namespace Go.Proofs.Ytpcfhbbialgcfaa.P
open Go.RowKit
open Go.Proofs.Ytpcfhbbialgcfaa.J (Says says_t says_f FileOk Says.pos Says.neg l15Path_any)
open Go.Proofs.Ytpcfhbbialgcfaa.R (hid small set_other Fl fl0 lt_hp hp_next B1 B2 row_cell row_room SFlR OkFlS below_drewN below_set info_parts info_Fl)
set_option maxRecDepth 20000
theorem own_mono {W : World} {B B' n : Nat} {v : Value} {xs : List Value} (h : W.ownsRow B' 45 2 v n xs) (hb : B ≤ B') : W.ownsRow B 45 2 v n xs := by
  obtain ⟨hl, h | ⟨g, cap, cur, e, hB, h⟩⟩ := h
  · exact ⟨hl, .inl h⟩
  · exact ⟨hl, .inr ⟨g, cap, cur, e, Nat.le_trans hb hB, h⟩⟩
theorem own_none (W : World) {B : Nat} (hb : B ≤ W.heap.size) : (W.alloc (.cells #[] 45)).ownsRow B 45 2 (.slice (some ⟨W.heap.size, 0, none⟩) 0 0) 0 [] := ⟨rfl, .inr ⟨W.heap.size, 0, #[], rfl, hb, heap_alloc_new _ _, Nat.le_refl _, Nat.zero_le _, rfl, rfl⟩⟩
theorem own_set2 {W : World} {B n : Nat} {v : Value} {xs : List Value} (h : W.ownsRow B 45 2 v n xs) {b : Nat} {cs : Array Value} (hb : W.heap[b]? = some (.cells cs 33)) {i : Nat} {u : Value} : (W.setCell ⟨b, i, none⟩ u).ownsRow B 45 2 v n xs := by
  obtain ⟨hl, h | ⟨g, cap, cur, e, hB, hc, h⟩⟩ := h
  · exact ⟨hl, .inl h⟩
  · refine ⟨hl, .inr ⟨g, cap, cur, e, hB, (set_other _ _ _ _ _ fun e => ?_).trans hc, h⟩⟩
    rw [e, hb] at hc
    cases hc
theorem ret_cell {w W : World} {o : Obj} (h : B2 w o (.cells #[.slice none 0 0] 33) W) (X : Value) : (W.setCell ⟨w.heap.size + 1, 0, none⟩ X).cell? ⟨w.heap.size + 1, 0, none⟩ = some X := (row_cell (R.set_at (i := 0) X h.f) 0).trans rfl
theorem own_nil (W : World) (B : Nat) : OwnF B W (.slice none 0 0) [] := ⟨rfl, .inl ⟨rfl, rfl⟩⟩
theorem oneCF : ∀ l : List Fl, ∀ u ∈ cellsF l, u.oneCell' = true
  | [], u, h => by cases h
  | x :: l, u, h => by
    simp only [cellsF, List.mem_cons] at h
    rcases h with rfl | rfl | h
    · rfl
    · rfl
    · exact oneCF l u h
theorem sfl_cells {B : Nat} {W : World} {g n c : Nat} {l : List Fl} (h : SFlR B W (.slice (some ⟨g, 0, none⟩) n c) l) : ∀ j u, (cellsF l)[j]? = some u → W.cell? ((⟨g, 0, none⟩ : Addr).add j) = some u := fun j u hj => by
  have hlt : j < l.length * 2 := by rw [← cellsF_len]; exact (List.getElem?_eq_some_iff.1 hj).1
  obtain ⟨i, hi, e⟩ : ∃ i, i < l.length ∧ (j = i * 2 ∨ j = i * 2 + 1) := ⟨j / 2, by omega, by omega⟩
  obtain ⟨_, a0, a1⟩ := fl_at h hi
  obtain ⟨b0, b1⟩ := cellsF_get l i hi
  rw [R.add_at]
  rcases e with rfl | rfl
  · rw [b0] at hj
    rw [a0, hj]
  · rw [b1] at hj
    rw [a1, hj]
end Go.Proofs.Ytpcfhbbialgcfaa.P
