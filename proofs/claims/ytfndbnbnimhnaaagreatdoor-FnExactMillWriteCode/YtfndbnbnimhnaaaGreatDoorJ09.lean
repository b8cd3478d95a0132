import Derived.WalkKit
import Derived.WalkSpells
import Derived.WalkLawsBesides
import Derived.Deep.QuietTactic
import Derived.BigQuiet
import Derived.Deep.RegionHeld3
import Derived.Deep.RegionLaw
import Derived.Deep.DeepCutAuto
import Derived.Maps.AppendAt
import Derived.Test.YtfndbnbnimhnaaaGreatDoorJ03
import Derived.Test.YtfndbnbnimhnaaaGreatDoorJ08
/-! Codes and shapes in memory. -/
namespace Go.Proofs.YtfndbnbnimhnaaaGreatDoor.C
open Go.RowKit
set_option maxRecDepth 20000
theorem hid {p : Prop} (h : p) : Hid p := h
theorem cell_hp {W : World} {k : Nat} {cs : Array Value} {t : TypeId} (h : W.heap[k]? = some (.cells cs t (0, 0))) (i : Nat) : W.cell? ⟨k, i, none⟩ = cs[i]? := by unfold World.cell?; rw [h]; rfl
theorem frozen_hp {W : World} {k : Nat} {cs : Array Value} {t : TypeId} (h : W.heap[k]? = some (.cells cs t (0, 0))) (i : Nat) : W.frozen? ⟨k, i, none⟩ = false := by unfold World.frozen?; rw [h]; simp
theorem lt_hp {W : World} {k : Nat} {o : Obj} (h : W.heap[k]? = some o) : k < W.heap.size := (Array.getElem?_eq_some_iff.1 h).1
theorem hp_next {W V : World} {g : Nat} {o : Obj} (h : W.heap[g]? = some o) (hb : Below W.heap.size W V) : V.heap[g]? = some o := (hb.block g (lt_hp h)).trans h
/-- A row of numbers. -/
def IntRow (W : World) (v : Value) (l : List Int) : Prop := ∃ (ad : Option Addr) (c : Nat), v = .slice ad l.length c ∧ l.length ≤ c ∧ c ≤ maxLen ∧ (l = [] ∨ ∃ (g : Nat) (cur : Array Value), ad = some ⟨g, 0, none⟩ ∧ W.heap[g]? = some (.cells cur 3 (0, 0)) ∧ ∀ i, i < l.length → cur[i]? = some (.int .i64 (l.getD i 0)))
theorem IntRow.keep {W V : World} {v : Value} {l : List Int} (h : IntRow W v l) (hk : ∀ (g : Nat) (cur : Array Value), W.heap[g]? = some (.cells cur 3 (0, 0)) → V.heap[g]? = W.heap[g]?) : IntRow V v l := by
  obtain ⟨ad, c, e, h1, h2, h3⟩ := h
  refine ⟨ad, c, e, h1, h2, ?_⟩
  rcases h3 with h3 | ⟨g, cur, e1, e2, e3⟩
  · exact .inl h3
  · exact .inr ⟨g, cur, e1, (hk g cur e2).trans e2, e3⟩
theorem IntRow.next {W V : World} {v : Value} {l : List Int} (h : IntRow W v l) (hb : Below W.heap.size W V) : IntRow V v l := h.keep fun g _ hg => hb.block g (lt_hp hg)
theorem IntRow.nil (W : World) : IntRow W (.slice none 0 0) [] := ⟨none, 0, rfl, Nat.le_refl _, by unfold maxLen; omega, .inl rfl⟩
theorem IntRow.sl {W : World} {v : Value} {l : List Int} (h : IntRow W v l) : ∃ ad c, v = .slice ad l.length c := by
  obtain ⟨ad, c, e, _⟩ := h
  exact ⟨ad, c, e⟩
theorem IntRow.at {W : World} {v : Value} {l : List Int} (h : IntRow W v l) {i : Nat} (hi : i < l.length) : ∃ g c, v = .slice (some ⟨g, 0, none⟩) l.length c ∧ l.length ≤ c ∧ c ≤ maxLen ∧ g < W.heap.size ∧ (∀ j, j < l.length → W.cell? ⟨g, j, none⟩ = some (.int .i64 (l.getD j 0))) := by
  obtain ⟨ad, c, e, h1, h2, h3⟩ := h
  rcases h3 with h3 | ⟨g, cur, e1, e2, e3⟩
  · rw [h3] at hi; exact absurd hi (Nat.not_lt_zero _)
  · subst e1
    exact ⟨g, c, e, h1, h2, lt_hp e2, fun j hj => (cell_hp e2 j).trans (e3 j hj)⟩
/-- A literal row. -/
theorem IntRow.lit (W : World) (l : List Int) (hl : l.length ≤ 1000) : IntRow (W.alloc (.cells (l.map fun x => Value.int .i64 x).toArray 3)) (.slice (some ⟨W.heap.size, 0, none⟩) l.length l.length) l := by
  refine ⟨_, _, rfl, Nat.le_refl _, by unfold maxLen; omega, .inr ⟨W.heap.size, _, rfl, heap_alloc_new W _, fun i hi => ?_⟩⟩
  simp [hi, List.getD_eq_getElem?_getD]
/-- Out of a row of one's own. -/
theorem IntRow.own {W : World} {B : Nat} {v : Value} {l : List Int} (h : W.ownsRow B 3 1 v l.length (l.map fun x => Value.int .i64 x)) : IntRow W v l := by
  obtain ⟨h1, ⟨rfl, h2⟩ | ⟨g, cap, cur, rfl, b, c, d, e, f, t⟩⟩ := h
  · have : l = [] := List.eq_nil_of_length_eq_zero h2
    subst this
    exact IntRow.nil W
  · refine ⟨_, cap, rfl, d, e, .inr ⟨g, cur, rfl, c, fun i hi => ?_⟩⟩
    rw [Nat.mul_one] at t
    have e2 : (cur.toList.take l.length)[i]? = (l.map fun x => Value.int .i64 x)[i]? := by rw [t]
    rw [List.getElem?_take_of_lt hi] at e2
    simp [hi] at e2
    simp [List.getD_eq_getElem?_getD, hi, e2]
/-- A row of instructions. -/
def InsRow (W : World) (v : Value) (l : List In) : Prop := ∃ (ad : Option Addr) (c : Nat), v = .slice ad l.length c ∧ l.length ≤ c ∧ c ≤ maxLen ∧ (l = [] ∨ ∃ (g : Nat) (cur : Array Value), ad = some ⟨g, 0, none⟩ ∧ W.heap[g]? = some (.cells cur 84 (0, 0)) ∧ ∀ i, i < l.length →
  cur[i * 4]? = some (.int .i64 (l.getD i in0).op) ∧ cur[i * 4 + 1]? = some (.int .i64 (l.getD i in0).a) ∧ cur[i * 4 + 2]? = some (.int .i64 (l.getD i in0).n) ∧ cur[i * 4 + 3]? = some (.string (l.getD i in0).text))
theorem InsRow.keep {W V : World} {v : Value} {l : List In} (h : InsRow W v l) (hk : ∀ (g : Nat) (cur : Array Value), W.heap[g]? = some (.cells cur 84 (0, 0)) → V.heap[g]? = W.heap[g]?) : InsRow V v l := by
  obtain ⟨ad, c, e, h1, h2, h3⟩ := h
  refine ⟨ad, c, e, h1, h2, ?_⟩
  rcases h3 with h3 | ⟨g, cur, e1, e2, e3⟩
  · exact .inl h3
  · exact .inr ⟨g, cur, e1, (hk g cur e2).trans e2, e3⟩
theorem InsRow.next {W V : World} {v : Value} {l : List In} (h : InsRow W v l) (hb : Below W.heap.size W V) : InsRow V v l := h.keep fun g _ hg => hb.block g (lt_hp hg)
def inV (i : In) : Value := .agg #[.int .i64 i.op, .int .i64 i.a, .int .i64 i.n, .string i.text]
theorem InsRow.at {W : World} {v : Value} {l : List In} (h : InsRow W v l) {i : Nat} (hi : i < l.length) : ∃ g c, v = .slice (some ⟨g, 0, none⟩) l.length c ∧ g < W.heap.size ∧ (∀ j, j < l.length →
    W.cell? ⟨g, j * 4, none⟩ = some (.int .i64 (l.getD j in0).op) ∧ W.cell? ⟨g, j * 4 + 1, none⟩ = some (.int .i64 (l.getD j in0).a) ∧ W.cell? ⟨g, j * 4 + 2, none⟩ = some (.int .i64 (l.getD j in0).n) ∧ W.cell? ⟨g, j * 4 + 3, none⟩ = some (.string (l.getD j in0).text)) := by
  obtain ⟨ad, c, e, h1, h2, h3⟩ := h
  rcases h3 with h3 | ⟨g, cur, e1, e2, e3⟩
  · rw [h3] at hi; exact absurd hi (Nat.not_lt_zero _)
  · subst e1
    refine ⟨g, c, e, lt_hp e2, fun j hj => ?_⟩
    obtain ⟨a0, a1, a2, a3⟩ := e3 j hj
    exact ⟨(cell_hp e2 _).trans a0, (cell_hp e2 _).trans a1, (cell_hp e2 _).trans a2, (cell_hp e2 _).trans a3⟩
theorem InsRow.sl {W : World} {v : Value} {l : List In} (h : InsRow W v l) : ∃ ad c, v = .slice ad l.length c := by
  obtain ⟨ad, c, e, _⟩ := h
  exact ⟨ad, c, e⟩
/-- A function as a value. -/
def FnV (W : World) (v : Value) (f : Fn) : Prop := ∃ pv iv, v = .agg #[.string f.name, pv, .int .i64 f.result, .int .i64 f.slots, iv] ∧ IntRow W pv f.params ∧ InsRow W iv f.ins
theorem FnV.next {W V : World} {v : Value} {f : Fn} (h : FnV W v f) (hb : Below W.heap.size W V) : FnV V v f := by
  obtain ⟨pv, iv, e, h1, h2⟩ := h
  exact ⟨pv, iv, e, h1.next hb, h2.next hb⟩
/-- A row of functions. -/
def FnsRow (W : World) (v : Value) (l : List Fn) : Prop := ∃ (ad : Option Addr) (c : Nat), v = .slice ad l.length c ∧ l.length ≤ c ∧ c ≤ maxLen ∧ (l = [] ∨ ∃ (g : Nat), ad = some ⟨g, 0, none⟩ ∧ g < W.heap.size ∧ ∀ i, i < l.length → ∃ pv iv,
  W.cell? ⟨g, i * 5, none⟩ = some (.string (l.getD i fn0).name) ∧ W.cell? ⟨g, i * 5 + 1, none⟩ = some pv ∧ W.cell? ⟨g, i * 5 + 2, none⟩ = some (.int .i64 (l.getD i fn0).result) ∧ W.cell? ⟨g, i * 5 + 3, none⟩ = some (.int .i64 (l.getD i fn0).slots) ∧ W.cell? ⟨g, i * 5 + 4, none⟩ = some iv ∧
  IntRow W pv (l.getD i fn0).params ∧ InsRow W iv (l.getD i fn0).ins)
theorem FnsRow.next {W V : World} {v : Value} {l : List Fn} (h : FnsRow W v l) (hb : Below W.heap.size W V) : FnsRow V v l := by
  obtain ⟨ad, c, e, h1, h2, h3⟩ := h
  refine ⟨ad, c, e, h1, h2, ?_⟩
  rcases h3 with h3 | ⟨g, e1, e2, e3⟩
  · exact .inl h3
  · refine .inr ⟨g, e1, Nat.lt_of_lt_of_le e2 hb.size, fun i hi => ?_⟩
    obtain ⟨pv, iv, c0, c1, c2, c3, c4, c5, c6⟩ := e3 i hi
    exact ⟨pv, iv, (hb.cell (p := ⟨g, _, none⟩) e2).trans c0, (hb.cell (p := ⟨g, _, none⟩) e2).trans c1, (hb.cell (p := ⟨g, _, none⟩) e2).trans c2, (hb.cell (p := ⟨g, _, none⟩) e2).trans c3, (hb.cell (p := ⟨g, _, none⟩) e2).trans c4, c5.next hb, c6.next hb⟩
theorem FnsRow.at {W : World} {v : Value} {l : List Fn} (h : FnsRow W v l) {i : Nat} (hi : i < l.length) : ∃ g c, v = .slice (some ⟨g, 0, none⟩) l.length c ∧ g < W.heap.size ∧ ∃ pv iv,
    W.cell? ⟨g, i * 5, none⟩ = some (.string (l.getD i fn0).name) ∧ W.cell? ⟨g, i * 5 + 1, none⟩ = some pv ∧ W.cell? ⟨g, i * 5 + 2, none⟩ = some (.int .i64 (l.getD i fn0).result) ∧ W.cell? ⟨g, i * 5 + 3, none⟩ = some (.int .i64 (l.getD i fn0).slots) ∧ W.cell? ⟨g, i * 5 + 4, none⟩ = some iv ∧
    IntRow W pv (l.getD i fn0).params ∧ InsRow W iv (l.getD i fn0).ins := by
  obtain ⟨ad, c, e, h1, h2, h3⟩ := h
  rcases h3 with h3 | ⟨g, e1, e2, e3⟩
  · rw [h3] at hi; exact absurd hi (Nat.not_lt_zero _)
  · subst e1
    exact ⟨g, c, e, e2, e3 i hi⟩
theorem FnsRow.sl {W : World} {v : Value} {l : List Fn} (h : FnsRow W v l) : ∃ ad c, v = .slice ad l.length c := by
  obtain ⟨ad, c, e, _⟩ := h
  exact ⟨ad, c, e⟩
/-- A shape as a value. -/
def ShV (W : World) (v : Value) (s : Sh) : Prop := ∃ a b, v = .agg #[.int .i64 (s.st : Nat), a, b] ∧ IntRow W a s.sl ∧ IntRow W b s.sk
theorem ShV.next {W V : World} {v : Value} {s : Sh} (h : ShV W v s) (hb : Below W.heap.size W V) : ShV V v s := by
  obtain ⟨a, b, e, h1, h2⟩ := h
  exact ⟨a, b, e, h1.next hb, h2.next hb⟩
end Go.Proofs.YtfndbnbnimhnaaaGreatDoor.C
