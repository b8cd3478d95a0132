import Derived.Test.YtpcfhbbialgcfaaPlI
import Derived.Shelf.Spec.SlicesInsert
import Derived.Shelf.Spec.SlicesInsertGrow
import Derived.Shelf.Spec.SearchS
import Derived.Maps.AppendAt
/-! slices.Insert of one text into a row of one's own; slices.BinarySearch. Printed by gen_plins.py. -/
namespace Go.Proofs.Ytpcfhbbialgcfaa.P
open Go.RowKit Go.Shelf
open Go.Proofs.Ytpcfhbbialgcfaa.R (hid set_other)
set_option maxRecDepth 20000
theorem cell_hp {W : World} {k : Nat} {cs : Array Value} {t : TypeId} (h : W.heap[k]? = some (.cells cs t (0, 0))) (i : Nat) : W.cell? ⟨k, i, none⟩ = cs[i]? := by unfold World.cell?; rw [h]; rfl
theorem frozen_hp {W : World} {k : Nat} {cs : Array Value} {t : TypeId} (h : W.heap[k]? = some (.cells cs t (0, 0))) (i : Nat) : W.frozen? ⟨k, i, none⟩ = false := by unfold World.frozen?; rw [h]; simp
theorem set_size (W : World) (a : Addr) (v : Value) : (W.setCell a v).heap.size = W.heap.size := by simp [World.setCell]
theorem setCells_other (b : Nat) {k : Nat} (h : ¬ k = b) : ∀ (vs : List Value) (o : Nat) (W : World), (W.setCells b o vs).heap[k]? = W.heap[k]?
  | [], _, _ => rfl
  | v :: r, o, W => by
    show ((W.setCell ⟨b, o, none⟩ v).setCells b (o + 1) r).heap[k]? = _
    rw [setCells_other b h r (o + 1) _, set_other _ _ _ _ _ h]
theorem setCells_size (b : Nat) : ∀ (vs : List Value) (o : Nat) (W : World), (W.setCells b o vs).heap.size = W.heap.size
  | [], _, _ => rfl
  | v :: r, o, W => by
    show ((W.setCell ⟨b, o, none⟩ v).setCells b (o + 1) r).heap.size = _
    rw [setCells_size b r (o + 1) _, set_size]
theorem setCells_same (b : Nat) : ∀ (vs : List Value) (o : Nat) (W : World), (W.setCells b o vs).os = W.os ∧ (W.setCells b o vs).tape = W.tape ∧ (W.setCells b o vs).output = W.output
  | [], _, _ => ⟨rfl, rfl, rfl⟩
  | v :: r, o, W => setCells_same b r (o + 1) (W.setCell ⟨b, o, none⟩ v)
/-- A row with x put in at i. -/
def insAt (l : List ByteArray) (i : Nat) (x : ByteArray) : List ByteArray := l.take i ++ x :: l.drop i
theorem insAt_length {l : List ByteArray} {i : Nat} (h : i ≤ l.length) (x : ByteArray) : (insAt l i x).length = l.length + 1 := by
  unfold insAt
  rw [List.length_append, List.length_take, List.length_cons, List.length_drop]
  omega
theorem insAt_get {l : List ByteArray} {i : Nat} (h : i ≤ l.length) (x : ByteArray) (j : Nat) : (insAt l i x).getD j ⟨#[]⟩ = if j < i then l.getD j ⟨#[]⟩ else if j = i then x else l.getD (j - 1) ⟨#[]⟩ := by
  unfold insAt
  have ht : (l.take i).length = i := by rw [List.length_take]; omega
  rw [List.getD_eq_getElem?_getD]
  by_cases h1 : j < i
  · rw [if_pos h1, List.getElem?_append_left (by omega), List.getElem?_take_of_lt h1, List.getD_eq_getElem?_getD]
  · rw [if_neg h1, List.getElem?_append_right (by omega), ht]
    by_cases h2 : j = i
    · subst h2; rw [if_pos rfl, Nat.sub_self]; rfl
    · rw [if_neg h2, show j - i = (j - 1 - i) + 1 by omega, List.getElem?_cons_succ, List.getElem?_drop, List.getD_eq_getElem?_getD, show i + (j - 1 - i) = j - 1 by omega]
theorem own_of_rowIs {W : World} {b cap B : Nat} {f : Nat → Value} {l : List ByteArray} (h : W.rowIs b 9 cap f) (hB : B ≤ b) (hc : cap ≤ maxLen) (hl : l.length ≤ cap) (hf : ∀ j, j < l.length → f j = .string (l.getD j ⟨#[]⟩)) : W.ownsRow B 9 1 (.slice (some ⟨b, 0, none⟩) l.length cap) l.length (l.map fun x => Value.string x) := by
  obtain ⟨cur, e, hz, hcc⟩ := h
  refine ⟨by simp, .inr ⟨b, cap, cur, rfl, hB, e, hl, hc, by omega, ?_⟩⟩
  apply List.ext_getElem?
  intro j
  rw [Nat.mul_one]
  by_cases hj : j < l.length
  · rw [List.getElem?_take_of_lt hj, Array.getElem?_toList, hcc j (by omega), hf j hj, List.getElem?_map, List.getElem?_eq_getElem hj, List.getD_eq_getElem?_getD, List.getElem?_eq_getElem hj]
    rfl
  · rw [List.getElem?_eq_none (by rw [List.length_take]; omega), List.getElem?_eq_none (by rw [List.length_map]; omega)]
theorem rowIs_of_own {W : World} {b cap B : Nat} {l : List ByteArray} (h : W.ownsRow B 9 1 (.slice (some ⟨b, 0, none⟩) l.length cap) l.length (l.map fun x => Value.string x)) : ∃ f, W.rowIs b 9 cap f ∧ B ≤ b ∧ l.length ≤ cap ∧ cap ≤ maxLen ∧ ∀ j, j < l.length → f j = .string (l.getD j ⟨#[]⟩) := by
  obtain ⟨_, ⟨h2, _⟩ | ⟨g, c, cur, e, hb, hc, hn, hm, hz, ht⟩⟩ := h
  · cases h2
  · injection e with e1 _ e3
    injection e1 with e1
    injection e1 with e1
    subst e1 e3
    rw [Nat.mul_one] at hz ht
    refine ⟨fun j => cur[j]?.getD default, ⟨cur, hc, hz, fun i hi => ?_⟩, hb, hn, hm, fun j hj => ?_⟩
    · have : i < cur.size := by omega
      show cur[i]? = some (cur[i]?.getD default)
      rw [Array.getElem?_eq_getElem this]
      rfl
    · have e2 : (cur.toList.take l.length)[j]? = (l.map fun x => Value.string x)[j]? := by rw [ht]
      rw [List.getElem?_take_of_lt hj, Array.getElem?_toList, List.getElem?_map, List.getElem?_eq_getElem hj] at e2
      show cur[j]?.getD default = _
      rw [e2, List.getD_eq_getElem?_getD, List.getElem?_eq_getElem hj]
      rfl
theorem grown_set {W : World} {b : Nat} (vs : List Value) (o : Nat) : W.grownBy (W.setCells b o vs) (some b) :=
  ⟨(setCells_same b vs o W).1, (setCells_same b vs o W).2.1, (setCells_same b vs o W).2.2, by rw [setCells_size]; exact Nat.le_refl _, fun k _ hk => setCells_other b (fun e => hk (by rw [e])) vs o W⟩
theorem shape_cells {W : World} {g : Nat} {cs : Array Value} {t : TypeId} (h : W.heap[g]? = some (.cells cs t (0, 0))) : W.shape? g = some (t, cs.size) := by
  unfold World.shape?
  rw [h]
/-- A new block whose first cells are known. -/
theorem row_new (W : World) (A Z : Array Value) (t : TypeId) : (W.alloc (.cells (A ++ Z) t)).rowIs W.heap.size t (A.size + Z.size) (fun j => if j < A.size then A[j]?.getD default else Z[j - A.size]?.getD default) := by
  refine ⟨A ++ Z, heap_alloc_new _ _, by simp, fun i hi => ?_⟩
  by_cases h : i < A.size
  · show (A ++ Z)[i]? = some (if i < A.size then A[i]?.getD default else _)
    rw [if_pos h, Array.getElem?_append_left h, Array.getElem?_eq_getElem h]
    rfl
  · show (A ++ Z)[i]? = some (if i < A.size then _ else Z[i - A.size]?.getD default)
    have h2 : i - A.size < Z.size := by omega
    rw [if_neg h, Array.getElem?_append_right (by omega), Array.getElem?_eq_getElem h2]
    rfl
theorem map_get {l : List ByteArray} {j : Nat} (h : j < l.length) : (l.map fun x => Value.string x)[j]?.getD default = .string (l.getD j ⟨#[]⟩) := by
  rw [List.getElem?_map, List.getElem?_eq_getElem h, List.getD_eq_getElem?_getD, List.getElem?_eq_getElem h]
  rfl
/-- All are below: the place behind the last. -/
theorem bsGo_all (p : Nat → Bool) : ∀ (g lo hi : Nat), lo ≤ hi → hi - lo ≤ g → (∀ t, lo ≤ t → t < hi → p t = true) → Lib.bsGo p g lo hi = hi := by
  intro g
  induction g with
  | zero => intro lo hi h1 h2 _; simp [Lib.bsGo]; omega
  | succ g ih =>
    intro lo hi h1 h2 h3
    by_cases hlt : lo < hi
    · simp only [Lib.bsGo, hlt, if_true]
      rw [h3 ((lo + hi) / 2) (by omega) (by omega)]
      simp only [if_true]
      exact ih _ _ (by omega) (by omega) (fun t ht1 ht2 => h3 t (by omega) ht2)
    · simp [Lib.bsGo, hlt]; omega
end Go.Proofs.Ytpcfhbbialgcfaa.P
