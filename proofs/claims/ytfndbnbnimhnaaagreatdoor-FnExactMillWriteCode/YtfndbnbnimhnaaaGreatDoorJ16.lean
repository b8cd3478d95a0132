import Derived.Test.YtfndbnbnimhnaaaGreatDoorJ15
/-! Shapes in boxes of their own, and what writing them leaves alone. -/
namespace Go.Proofs.YtfndbnbnimhnaaaGreatDoor.C
open Go.RowKit
set_option maxRecDepth 20000
def sbox (st : Int) (x y : Value) : Obj := .cells #[.int .i64 st, x, y] 125
theorem six_s {W : World} {g : Nat} {st : Int} {x y : Value} (e : W.heap[g]? = some (sbox st x y)) :
    W.cell? ⟨g, 0, none⟩ = some (.int .i64 st) ∧ W.cell? ⟨g, 1, none⟩ = some x ∧ W.cell? ⟨g, 2, none⟩ = some y ∧ W.frozen? ⟨g, 0, none⟩ = false ∧ W.frozen? ⟨g, 1, none⟩ = false ∧ W.frozen? ⟨g, 2, none⟩ = false := by
  refine ⟨?_, ?_, ?_, ?_, ?_, ?_⟩ <;> simp [World.cell?, World.frozen?, e, sbox]
theorem set_other (W : World) (g j i : Nat) (v : Value) (h : ¬ i = g) : (W.setCell ⟨g, j, none⟩ v).heap[i]? = W.heap[i]? := by
  unfold World.setCell
  simp only [Array.getElem?_modify]
  rw [if_neg (fun e => h e.symm)]
theorem set_size (W : World) (a : Addr) (v : Value) : (W.setCell a v).heap.size = W.heap.size := by simp [World.setCell]
theorem set1_box {W : World} {g : Nat} {st : Int} {x y : Value} (e : W.heap[g]? = some (sbox st x y)) (v : Value) : (W.setCell ⟨g, 1, none⟩ v).heap[g]? = some (sbox st v y) := by
  unfold World.setCell
  simp only [Array.getElem?_modify, e]
  simp [sbox]
theorem set_lo {w W : World} {B : Nat} (h : Below B w W) (g j : Nat) (hg : B ≤ g) (v : Value) : Below B w (W.setCell ⟨g, j, none⟩ v) :=
  ⟨h.os, h.tape, h.output, by rw [set_size]; exact h.size, fun i hi => by rw [set_other _ _ _ _ _ (by omega)]; exact h.block i hi⟩
theorem IntRow.set {W : World} {v : Value} {l : List Int} (h : IntRow W v l) {g : Nat} {st : Int} {x y : Value} (e : W.heap[g]? = some (sbox st x y)) (j : Nat) (u : Value) : IntRow (W.setCell ⟨g, j, none⟩ u) v l :=
  h.keep fun i cur hi => set_other _ _ _ _ _ (fun ei => by subst ei; rw [e] at hi; simp [sbox] at hi)
theorem IntRow.set3 {W : World} {v : Value} {l : List Int} (h : IntRow W v l) {g : Nat} {st : Int} {x y : Value} (e : W.heap[g]? = some (sbox st x y)) (p q r : Value) : IntRow (((W.setCell ⟨g, 0, none⟩ p).setCell ⟨g, 1, none⟩ q).setCell ⟨g, 2, none⟩ r) v l :=
  h.keep fun i cur hi => by
    have hne : ¬ i = g := fun ei => by subst ei; rw [e] at hi; simp [sbox] at hi
    rw [set_other _ _ _ _ _ hne, set_other _ _ _ _ _ hne, set_other _ _ _ _ _ hne]
theorem own_form {W : World} {B n : Nat} {e : TypeId} {v : Value} {xs : List Value} (h : W.ownsRow B e 1 v n xs) : ∃ ad c, v = .slice ad n c := by
  obtain ⟨_, ⟨rfl, rfl⟩ | ⟨g, cap, cur, rfl, _⟩⟩ := h
  · exact ⟨_, _, rfl⟩
  · exact ⟨_, _, rfl⟩
theorem own_set {W : World} {B g j n : Nat} {v u : Value} {xs : List Value} (h : W.ownsRow B 3 1 v n xs) (hg : g < B) : (W.setCell ⟨g, j, none⟩ u).ownsRow B 3 1 v n xs := by
  obtain ⟨h1, h2 | ⟨k, cap, cur, e, hb, hc, r⟩⟩ := h
  · exact ⟨h1, .inl h2⟩
  · exact ⟨h1, .inr ⟨k, cap, cur, e, hb, by rw [set_other _ _ _ _ _ (by omega)]; exact hc, r⟩⟩
theorem own_ne {W : World} {B n : Nat} {v : Value} {xs : List Value} (h : W.ownsRow B 3 1 v n xs) {i : Nat} (hi : i < B) : some i ≠ v.ownBlock := fun e => by
  have := h.lt i e.symm
  omega
theorem three (w : World) (a b c : Obj) : (((w.alloc a).alloc b).alloc c).heap[w.heap.size]? = some a ∧ (((w.alloc a).alloc b).alloc c).heap[w.heap.size + 1]? = some b ∧ (((w.alloc a).alloc b).alloc c).heap[w.heap.size + 1 + 1]? = some c := by
  have s1 : (w.alloc a).heap.size = w.heap.size + 1 := by simp
  have s2 : ((w.alloc a).alloc b).heap.size = w.heap.size + 1 + 1 := by simp
  have g0 := heap_alloc_new w a
  have g1 := heap_alloc_new (w.alloc a) b
  have g2 := heap_alloc_new ((w.alloc a).alloc b) c
  have k1 : Below (w.alloc a).heap.size (w.alloc a) ((w.alloc a).alloc b) := (Below.refl _ _).alloc (Nat.le_refl _) _
  have k2 : Below ((w.alloc a).alloc b).heap.size ((w.alloc a).alloc b) (((w.alloc a).alloc b).alloc c) := (Below.refl _ _).alloc (Nat.le_refl _) _
  rw [s1] at g1
  rw [s2] at g2
  exact ⟨hp_next (hp_next g0 k1) k2, hp_next g1 k2, g2⟩
theorem own_next {w w1 : World} {B e size k : Nat} {v : Value} {xs : List Value} (h : w.ownsRow B e size v k xs) (hb : Below w.heap.size w w1) : w1.ownsRow B e size v k xs := by
  obtain ⟨h1, h2 | ⟨g, cap, cur, a, b, c, d⟩⟩ := h
  · exact ⟨h1, .inl h2⟩
  · exact ⟨h1, .inr ⟨g, cap, cur, a, b, hp_next c hb, d⟩⟩
theorem int_info : (Tryz.prog.info? 3).map (fun i => (i.zero, i.size, i.bytes)) = some (some (.int .i64 0), 1, 8) := by kernel_rfl
theorem int_parts : ∃ i, Tryz.prog.info? 3 = some i ∧ i.zero = some (.int .i64 0) ∧ i.size = 1 ∧ i.bytes = 8 := by
  have h := int_info
  cases hi : Tryz.prog.info? 3 with
  | none => rw [hi] at h; cases h
  | some i =>
    rw [hi] at h
    simp only [Option.map_some, Option.some.injEq, Prod.mk.injEq] at h
    exact ⟨i, rfl, h.1, h.2.1, h.2.2⟩
end Go.Proofs.YtfndbnbnimhnaaaGreatDoor.C
