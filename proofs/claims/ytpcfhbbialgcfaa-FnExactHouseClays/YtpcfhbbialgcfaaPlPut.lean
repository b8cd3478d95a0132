import Derived.Test.YtpcfhbbialgcfaaPlPutF
/-! A file put into files in order, by the model. Printed by gen_plput.py. -/
namespace Go.Proofs.Ytpcfhbbialgcfaa.P
open Go.RowKit
open Go.Proofs.Ytpcfhbbialgcfaa.R (hid small set_other Fl fl0 lt_hp hp_next B1 B2 row_cell row_room below_drewN below_set info_parts info_Fl)
set_option maxRecDepth 20000
def cellsF : List Fl → List Value
  | [] => []
  | x :: l => .string x.name :: .string x.text :: cellsF l
theorem cellsF_len : ∀ l : List Fl, (cellsF l).length = l.length * 2
  | [] => rfl
  | x :: l => by simp only [cellsF, List.length_cons, cellsF_len l]; omega
theorem cellsF_app : ∀ a b : List Fl, cellsF (a ++ b) = cellsF a ++ cellsF b
  | [], b => rfl
  | x :: a, b => by simp only [cellsF, List.cons_append, cellsF_app a b]
theorem cellsF_get : ∀ (l : List Fl) (i : Nat), i < l.length → (cellsF l)[i * 2]? = some (.string (l.getD i fl0).name) ∧ (cellsF l)[i * 2 + 1]? = some (.string (l.getD i fl0).text)
  | [], _, h => absurd h (Nat.not_lt_zero _)
  | x :: l, 0, _ => ⟨rfl, rfl⟩
  | x :: l, i + 1, h => by
    have := cellsF_get l i (by simp at h; omega)
    have e : (i + 1) * 2 = i * 2 + 1 + 1 := by omega
    rw [e]
    exact this
/-- A row of files of one's own. -/
abbrev OwnF (B : Nat) (W : World) (v : Value) (l : List Fl) : Prop := W.ownsRow B 45 2 v l.length (cellsF l)
theorem own_form2 {W : World} {B n : Nat} {v : Value} {xs : List Value} (h : W.ownsRow B 45 2 v n xs) : ∃ ad c, v = .slice ad n c := by
  obtain ⟨_, ⟨rfl, rfl⟩ | ⟨g, cap, cur, rfl, _⟩⟩ := h
  · exact ⟨none, 0, rfl⟩
  · exact ⟨_, cap, rfl⟩
/-- Files that can be read: N of them at the start of a row. -/
def RdF (W : World) (v : Value) (l : List Fl) : Prop := ∃ (ad : Option Addr) (c : Nat), v = .slice ad l.length c ∧ (l = [] ∨ ∃ g, ad = some ⟨g, 0, none⟩ ∧ g < W.heap.size ∧ ∀ i, i < l.length → W.cell? ⟨g, i * 2, none⟩ = some (.string (l.getD i fl0).name) ∧ W.cell? ⟨g, i * 2 + 1, none⟩ = some (.string (l.getD i fl0).text))
theorem RdF.next {W V : World} {v : Value} {l : List Fl} (h : RdF W v l) (hb : Below W.heap.size W V) : RdF V v l := by
  obtain ⟨ad, c, e, h1⟩ := h
  refine ⟨ad, c, e, ?_⟩
  rcases h1 with h1 | ⟨g, e1, e2, e3⟩
  · exact .inl h1
  · exact .inr ⟨g, e1, Nat.lt_of_lt_of_le e2 hb.size, fun i hi => ⟨(hb.cell (p := ⟨g, _, none⟩) e2).trans (e3 i hi).1, (hb.cell (p := ⟨g, _, none⟩) e2).trans (e3 i hi).2⟩⟩
theorem RdF.sl {W : World} {v : Value} {l : List Fl} (h : RdF W v l) : ∃ ad c, v = .slice ad l.length c := by
  obtain ⟨ad, c, e, _⟩ := h
  exact ⟨ad, c, e⟩
theorem RdF.at {W : World} {ad : Option Addr} {n c : Nat} {l : List Fl} (h : RdF W (.slice ad n c) l) {i : Nat} (hi : i < l.length) : ∃ g, ad = some ⟨g, 0, none⟩ ∧ W.cell? ⟨g, i * 2, none⟩ = some (.string (l.getD i fl0).name) ∧ W.cell? ⟨g, i * 2 + 1, none⟩ = some (.string (l.getD i fl0).text) := by
  obtain ⟨ad', c', e, h1⟩ := h
  injection e with ea _ _
  rcases h1 with h1 | ⟨g, e1, _, e3⟩
  · rw [h1] at hi; exact absurd hi (Nat.not_lt_zero _)
  · exact ⟨g, ea.trans e1, e3 i hi⟩
theorem RdF.at2 {W : World} {g n c : Nat} {l : List Fl} (h : RdF W (.slice (some ⟨g, 0, none⟩) n c) l) {i : Nat} (hi : i < l.length) {a b : ByteArray} (e : l.getD i fl0 = ⟨a, b⟩) : W.cell? ⟨g, i * 2, none⟩ = some (.string a) ∧ W.cell? ⟨g, i * 2 + 1, none⟩ = some (.string b) := by
  obtain ⟨g', e1, h1, h2⟩ := h.at hi
  injection e1 with e1
  injection e1 with e1 _ _
  subst e1
  rw [e] at h1 h2
  exact ⟨h1, h2⟩
theorem RdF.own {B : Nat} {W : World} {v : Value} {l : List Fl} (h : OwnF B W v l) : RdF W v l := by
  obtain ⟨hl, ⟨rfl, hn⟩ | ⟨g, cap, cur, rfl, hB, hc, hnc, hm, hz, ht⟩⟩ := h
  · exact ⟨none, 0, by rw [hn], .inl (List.eq_nil_of_length_eq_zero hn)⟩
  · refine ⟨_, cap, rfl, .inr ⟨g, rfl, lt_hp hc, fun i hi => ?_⟩⟩
    obtain ⟨h1, h2⟩ := cellsF_get l i hi
    have e1 : ∀ j, j < l.length * 2 → cur[j]? = (cellsF l)[j]? := fun j hj => by
      have : (cur.toList.take (l.length * 2))[j]? = (cellsF l)[j]? := by rw [ht]
      rw [List.getElem?_take_of_lt hj, Array.getElem?_toList] at this
      exact this
    rw [row_cell hc, row_cell hc, e1 _ (by omega), e1 _ (by omega)]
    exact ⟨h1, h2⟩
theorem oneC (a b : ByteArray) : ∀ u ∈ ([.string a, .string b] : List Value), u.oneCell' = true := fun u hu => by
  rcases List.mem_cons.1 hu with h | h
  · rw [h]; rfl
  · rcases List.mem_cons.1 h with h | h
    · rw [h]; rfl
    · cases h
/-- The two cells of a literal row. -/
theorem lit_cells (W : World) (a b : ByteArray) : ∀ j u, ([.string a, .string b] : List Value)[j]? = some u → (W.alloc (.cells #[.string a, .string b] 45)).cell? ((⟨W.heap.size, 0, none⟩ : Addr).add j) = some u := fun j u hj => by
  rw [R.add_at, row_cell (heap_alloc_new W _)]
  simpa using hj
theorem own_more {B : Nat} {W : World} {v : Value} {l : List Fl} {x : Fl} {n : Nat} (h : W.ownsRow B 45 2 v (n + 1) (cellsF l ++ [.string x.name, .string x.text])) (hn : n = l.length) : OwnF B W v (l ++ [x]) := by
  have e1 : cellsF (l ++ [x]) = cellsF l ++ [.string x.name, .string x.text] := by rw [cellsF_app]; rfl
  unfold OwnF
  rw [e1, List.length_append, ← hn]
  exact h
theorem grow_lo {w W V : World} {B n : Nat} {v : Value} {xs : List Value} (lo : Below B w W) (h : W.ownsRow B 45 2 v n xs) (hB : B ≤ W.heap.size) (hg : W.grownBy V v.ownBlock) : Below B w V := by
  refine lo.trans (grown_below hg hB fun q e => ?_)
  obtain ⟨_, ⟨rfl, _⟩ | ⟨g, cap, cur, rfl, hb, _⟩⟩ := h
  · cases e
  · simp [Value.ownBlock] at e
    omega
theorem own_al {B : Nat} {W : World} {v : Value} {n : Nat} {xs : List Value} (h : W.ownsRow B 45 2 v n xs) (o : Obj) : (W.alloc o).ownsRow B 45 2 v n xs := own_next h ((Below.refl _ _).alloc (Nat.le_refl _) _)
structure PI (w : World) (l : List Fl) (x : Fl) (i : Nat) (v : Value) (W : World) : Prop where
  lo : Below w.heap.size w W
  own : OwnF w.heap.size W v (outL l x i)
end Go.Proofs.Ytpcfhbbialgcfaa.P
