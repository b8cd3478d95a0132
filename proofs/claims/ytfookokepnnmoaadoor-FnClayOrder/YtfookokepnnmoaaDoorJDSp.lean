import Derived.Test.YtfookokepnnmoaaDoorJDEdge
/-! What l5Spoil has in hand. -/
namespace Go.Proofs.YtfookokepnnmoaaDoor
open Go.RowKit
set_option maxRecDepth 20000
/-- Atoms whose texts are not too long. -/
def TxOk (A : Nat) (l : List At) : Prop := l.length ≤ A ∧ ∀ x ∈ l, x.text.size ≤ 2000
theorem AtOk.tx {A : Nat} {l : List At} (h : AtOk A l) : TxOk A l := ⟨h.1, fun x hx => (h.2 x hx).1⟩
theorem TxOk.mono {A B : Nat} {l : List At} (h : TxOk A l) (hA : A ≤ B) : TxOk B l := ⟨by have := h.1; omega, h.2⟩
def AnyEnd (R A C p : Nat) (w : World) (e : Ending) (w' : World) : Prop := ∃ s l, e = .returned (.agg #[s]) ∧ ValIn R w' s l ∧ TxOk A l ∧ Drew R C p w w'
theorem DrawEnd.any {R A C p : Nat} {w w' : World} {e : Ending} (h : DrawEnd R A C p w e w') : AnyEnd R A C p w e w' := by
  obtain ⟨s, l, h1, h2, _, h3, h4⟩ := h
  exact ⟨s, l, h1, h2, h3.tx, h4⟩
theorem Drew.from {R C p : Nat} {w w0 w' : World} (hb : Below w.heap.size w w0) (h : Drew R C p w0 w') : Drew R C p w w' := by
  obtain ⟨p', h1, h2, h3, h4⟩ := h
  exact ⟨p', h1, h2, h3, (Sv.of_below hb).trans h4⟩
theorem Inn.finA {R A C p q : Nat} {w W : World} {s : Value} {l : List At} (h : Inn R w W p q) (hv : ValIn R W s l) (ha : TxOk A l) (hq : q ≤ p + C) : AnyEnd R A C p w (.returned (.agg #[s])) (W.setCell ⟨w.heap.size, 0, none⟩ s) :=
  ⟨s, l, rfl, hv.set h.2.2.1, ha, q, h.2.2.2.1, hq, h.rd.set h.2.2.2.2, h.1.setCell (p := ⟨w.heap.size, 0, none⟩) (.inr (Nat.le_refl _)) s⟩
theorem own_sv {R B n e size : Nat} {w w' : World} {v : Value} {xs : List Value} (h : w.ownsRow B e size v n xs) (hs : Sv (fun k => k = R) w w') (hR : R < B) : w'.ownsRow B e size v n xs := by
  obtain ⟨h1, h2 | ⟨g, cap, cur, a, b, c, d⟩⟩ := h
  · exact ⟨h1, .inl h2⟩
  · exact ⟨h1, .inr ⟨g, cap, cur, a, b, (hs.block g (Array.getElem?_eq_some_iff.1 c).1 (by omega)).trans c, d⟩⟩
theorem own_other {B n e size b i : Nat} {w : World} {v u : Value} {xs : List Value} (h : w.ownsRow B e size v n xs) (hb : ∀ k, v.ownBlock = some k → k ≠ b) : (w.setCell ⟨b, i, none⟩ u).ownsRow B e size v n xs := by
  obtain ⟨h1, h2 | ⟨g, cap, cur, a, b', c, d⟩⟩ := h
  · exact ⟨h1, .inl h2⟩
  · exact ⟨h1, .inr ⟨g, cap, cur, a, b', (Below.heap_setCell _ _ _ _ (by subst a; exact hb g rfl)).trans c, d⟩⟩
theorem Inn.grow1 {R p q : Nat} {w W W2 : World} {row : Option Nat} (h : Inn R w W p q) (hg : W.grownBy W2 row) (hr : ∀ k, row = some k → w.heap.size + 1 ≤ k) : Inn R w W2 p q := h.app (Below.refl _ _) hg hr
/-- The variables of l5Spoil: the row in block g, the value's cell in bo, the atom's cells in bx. -/
def Sp (R : Nat) (w W : World) (p q g n cap bo bx : Nat) (l : List At) (x : At) : Prop :=
  Inn R w W p q ∧ W.ownsRow (w.heap.size + 1) 51 4 (.slice (some ⟨g, 0, none⟩) n cap) n (atRow l) ∧ VAt W bo (.slice (some ⟨g, 0, none⟩) n cap) ∧
  W.heap[bx]? = some (.cells #[.int .i64 x.kind, .int .i64 x.n, .string x.text, .int .i64 x.kids] 51 (0, 0)) ∧ w.heap.size < g ∧ g < bo ∧ bo < bx
theorem Sp.drew {R p q q' g n cap bo bx : Nat} {w W W' : World} {l : List At} {x : At} (h : Sp R w W p q g n cap bo bx l x) (hs : Sv (fun k => k = R) W W') (hr : Rd R W' q') (hq : q ≤ q') : Sp R w W' p q' g n cap bo bx l x := by
  obtain ⟨h1, h2, h3, h4, h5, h6, h7⟩ := h
  have hR := h1.2.2.2.2
  exact ⟨h1.drew hs hr hq, own_sv h2 hs (by omega), h3.sv hs (by omega), (hs.block bx (Array.getElem?_eq_some_iff.1 h4).1 (by omega)).trans h4, h5, h6, h7⟩
theorem Sp.next {R p q g n cap bo bx : Nat} {w W W' : World} {l : List At} {x : At} (h : Sp R w W p q g n cap bo bx l x) (hb : Below W.heap.size W W') : Sp R w W' p q g n cap bo bx l x := h.drew (Sv.of_below hb) (h.1.rd.next hb) (Nat.le_refl _)
theorem Sp.cells {R p q g n cap bo bx : Nat} {w W : World} {l : List At} {x : At} (h : Sp R w W p q g n cap bo bx l x) :
    (W.cell? ⟨bx, 0, none⟩ = some (.int .i64 x.kind) ∧ W.cell? ⟨bx, 1, none⟩ = some (.int .i64 x.n) ∧ W.cell? ⟨bx, 2, none⟩ = some (.string x.text) ∧ W.cell? ⟨bx, 3, none⟩ = some (.int .i64 x.kids)) ∧
    (W.frozen? ⟨bx, 0, none⟩ = false ∧ W.frozen? ⟨bx, 1, none⟩ = false ∧ W.frozen? ⟨bx, 2, none⟩ = false ∧ W.frozen? ⟨bx, 3, none⟩ = false) ∧ W.cell? ⟨bo, 0, none⟩ = some (.slice (some ⟨g, 0, none⟩) n cap) ∧ W.frozen? ⟨bo, 0, none⟩ = false :=
  ⟨⟨cell_hp h.2.2.2.1 0, cell_hp h.2.2.2.1 1, cell_hp h.2.2.2.1 2, cell_hp h.2.2.2.1 3⟩, ⟨frozen_hp h.2.2.2.1 0, frozen_hp h.2.2.2.1 1, frozen_hp h.2.2.2.1 2, frozen_hp h.2.2.2.1 3⟩, h.2.2.1.cells.1, h.2.2.1.cells.2⟩
/-- A field of the atom is written. -/
theorem Sp.put {R p q g n cap bo bx i : Nat} {w W : World} {l : List At} {x y : At} {v : Value} (h : Sp R w W p q g n cap bo bx l x) (hy : #[Value.int .i64 x.kind, .int .i64 x.n, .string x.text, .int .i64 x.kids].setIfInBounds i v = #[.int .i64 y.kind, .int .i64 y.n, .string y.text, .int .i64 y.kids]) : Sp R w (W.setCell ⟨bx, i, none⟩ v) p q g n cap bo bx l y := by
  obtain ⟨h1, h2, h3, h4, h5, h6, h7⟩ := h
  refine ⟨h1.set (by omega), own_other h2 (fun k e => by simp [Value.ownBlock] at e; omega), h3.other (by omega), ?_, h5, h6, h7⟩
  have := set_at (i := i) v h4
  rwa [hy] at this
theorem set4 (cu : Array Value) (j : Nat) (a b c d : Value) (h : j * 4 + 3 < cu.size) :
    let r := (((cu.setIfInBounds (j * 4) a).setIfInBounds (j * 4 + 1) b).setIfInBounds (j * 4 + 2) c).setIfInBounds (j * 4 + 3) d
    r.size = cu.size ∧ r[j * 4]? = some a ∧ r[j * 4 + 1]? = some b ∧ r[j * 4 + 2]? = some c ∧ r[j * 4 + 3]? = some d ∧ ∀ i, (i < j * 4 ∨ j * 4 + 3 < i) → r[i]? = cu[i]? := by
  intro r
  have h0 : j * 4 < cu.size := by omega
  have h1 : j * 4 + 1 < cu.size := by omega
  have h2 : j * 4 + 2 < cu.size := by omega
  refine ⟨by simp [r], ?_, ?_, ?_, ?_, fun i hi => ?_⟩
  · simp [r, h0]
  · simp [r, h1]
  · simp [r, h2]
  · simp [r, h]
  · have e0 : ¬ j * 4 = i := by omega
    have e1 : ¬ j * 4 + 1 = i := by omega
    have e2 : ¬ j * 4 + 2 = i := by omega
    have e3 : ¬ j * 4 + 3 = i := by omega
    simp [r, e0, e1, e2, e3]
theorem own_here {w : World} {B n cap g : Nat} {l : List At} (h : w.ownsRow B 51 4 (.slice (some ⟨g, 0, none⟩) n cap) n (atRow l)) : ∃ cur, w.heap[g]? = some (.cells cur 51 (0, 0)) ∧ cur.size = cap * 4 ∧ n ≤ cap ∧ cap ≤ maxLen ∧ AtomsAt w g 0 l ∧ l.length = n := by
  have hl : l.length = n := by have := h.1; rw [atRow_length] at this; omega
  obtain ⟨g', c', e, _, _, _, _, ha, _⟩ := own_atoms h (fun e => by cases e)
  injection e with e1 _ _
  injection e1 with e1
  injection e1 with e1
  subst e1
  obtain ⟨_, ⟨h2, _⟩ | ⟨g2, cap2, cur, e, _, h3, h4, h5, h6, _⟩⟩ := h
  · cases h2
  · injection e with e1 _ e3
    injection e1 with e1
    injection e1 with e1
    subst e1
    subst e3
    exact ⟨cur, h3, h6, h4, h5, ha, hl⟩
/-- The atom is put into the row. -/
theorem row_put {W : World} {B n cap g k : Nat} {l : List At} {x : At} (h : W.ownsRow B 51 4 (.slice (some ⟨g, 0, none⟩) n cap) n (atRow l)) (hk : k < n) :
    AtomsAt ((((W.setCell ⟨g, k * 4, none⟩ (.int .i64 x.kind)).setCell ⟨g, k * 4 + 1, none⟩ (.int .i64 x.n)).setCell ⟨g, k * 4 + 2, none⟩ (.string x.text)).setCell ⟨g, k * 4 + 3, none⟩ (.int .i64 x.kids)) g 0 (l.set k x) ∧
    ∃ cur, ((((W.setCell ⟨g, k * 4, none⟩ (.int .i64 x.kind)).setCell ⟨g, k * 4 + 1, none⟩ (.int .i64 x.n)).setCell ⟨g, k * 4 + 2, none⟩ (.string x.text)).setCell ⟨g, k * 4 + 3, none⟩ (.int .i64 x.kids)).heap[g]? = some (.cells cur 51 (0, 0)) := by
  obtain ⟨cur, h1, h2, h3, _, h5, h6⟩ := own_here h
  have e := set_at (.int .i64 x.kids) (i := k * 4 + 3) (set_at (.string x.text) (i := k * 4 + 2) (set_at (.int .i64 x.n) (i := k * 4 + 1) (set_at (.int .i64 x.kind) (i := k * 4) h1)))
  obtain ⟨_, s1, s2, s3, s4, s6⟩ := set4 cur k (.int .i64 x.kind) (.int .i64 x.n) (.string x.text) (.int .i64 x.kids) (by omega)
  refine ⟨fun i y hy => ?_, _, e⟩
  have c := cell_hp e
  by_cases hik : i = k
  · subst hik
    rw [List.getElem?_set_self (by omega)] at hy
    injection hy with hy
    subst hy
    refine ⟨?_, ?_, ?_, ?_⟩
    · rw [Nat.zero_add, c]; exact s1
    · rw [Nat.zero_add, c]; exact s2
    · rw [Nat.zero_add, c]; exact s3
    · rw [Nat.zero_add, c]; exact s4
  · rw [List.getElem?_set_ne (fun e => hik e.symm)] at hy
    obtain ⟨d0, d1, d2, d3⟩ := h5 i y hy
    rw [cell_hp h1] at d0 d1 d2 d3
    refine ⟨?_, ?_, ?_, ?_⟩
    · rw [c, s6 _ (by omega)]; exact d0
    · rw [c, s6 _ (by omega)]; exact d1
    · rw [c, s6 _ (by omega)]; exact d2
    · rw [c, s6 _ (by omega)]; exact d3
theorem TxOk.put {A k : Nat} {l : List At} {x : At} (h : TxOk A l) (hx : x.text.size ≤ 2000) : TxOk A (l.set k x) := by
  refine ⟨by rw [List.length_set]; exact h.1, fun y hy => ?_⟩
  rcases List.mem_or_eq_of_mem_set hy with hy | rfl
  · exact h.2 y hy
  · exact hx
theorem TxOk.cut {A k : Nat} {l : List At} (h : TxOk A l) : TxOk A (l.take k ++ l.drop (k + 1)) := by
  refine ⟨by simp; have := h.1; omega, fun y hy => ?_⟩
  rcases List.mem_append.1 hy with hy | hy
  · exact h.2 y (List.mem_of_mem_take hy)
  · exact h.2 y (List.mem_of_mem_drop hy)
theorem TxOk.snoc {A : Nat} {l : List At} {x : At} (h : TxOk A l) (hx : x.text.size ≤ 2000) : TxOk (A + 1) (l ++ [x]) := by
  refine ⟨by simp; exact h.1, fun y hy => ?_⟩
  rcases List.mem_append.1 hy with hy | hy
  · exact h.2 y hy
  · simp at hy; subst hy; exact hx
theorem own_take {w : World} {B n cap g k : Nat} {l : List At} (h : w.ownsRow B 51 4 (.slice (some ⟨g, 0, none⟩) n cap) n (atRow l)) (hk : k ≤ n) : w.ownsRow B 51 4 (.slice (some ⟨g, 0, none⟩) k cap) k (atRow (l.take k)) := by
  have hl : l.length = n := by have := h.1; rw [atRow_length] at this; omega
  obtain ⟨_, ⟨h2, _⟩ | ⟨g2, cap2, cur, e, hb, h3, h4, h5, h6, h7⟩⟩ := h
  · cases h2
  · injection e with e1 _ e3
    injection e1 with e1
    injection e1 with e1
    subst e1
    subst e3
    refine ⟨by rw [atRow_length, List.length_take]; omega, .inr ⟨g, cap, cur, rfl, hb, h3, by omega, h5, h6, ?_⟩⟩
    have e2 : atRow l = atRow (l.take k) ++ atRow (l.drop k) := by rw [← atRow_append, List.take_append_drop]
    have e3 : cur.toList.take (k * 4) = (cur.toList.take (n * 4)).take (k * 4) := by rw [List.take_take]; congr 1; omega
    rw [e3, h7, e2]
    have e4 : (atRow (l.take k)).length = k * 4 := by rw [atRow_length, List.length_take]; omega
    rw [← e4, List.take_left]
theorem AtomsAt.drop {w : World} {g o k : Nat} {l : List At} (h : AtomsAt w g o l) : AtomsAt w g (o + k * 4) (l.drop k) := fun i x hx => by
  rw [List.getElem?_drop] at hx
  have := h _ _ hx
  rwa [show o + (k + i) * 4 = o + k * 4 + i * 4 by omega] at this
end Go.Proofs.YtfookokepnnmoaaDoor
