import Derived.Test.YtfookokepnnmoaaDoorJUTo
/-! Blocks that are written; rows of atoms of their own. -/
namespace Go.Proofs.YtfookokepnnmoaaDoor
open Go.RowKit
set_option maxRecDepth 20000
/-- All that lay in w is as it was, but for the blocks of S. -/
structure Sv (S : Nat → Prop) (w w' : World) : Prop where
  os : w'.os = w.os
  tape : w'.tape = w.tape
  output : w'.output = w.output
  size : w.heap.size ≤ w'.heap.size
  block : ∀ k, k < w.heap.size → ¬ S k → w'.heap[k]? = w.heap[k]?
theorem Sv.refl (S : Nat → Prop) (w : World) : Sv S w w := ⟨rfl, rfl, rfl, Nat.le_refl _, fun _ _ _ => rfl⟩
theorem Sv.trans {S : Nat → Prop} {a b c : World} (h : Sv S a b) (k : Sv S b c) : Sv S a c :=
  ⟨k.os.trans h.os, k.tape.trans h.tape, k.output.trans h.output, Nat.le_trans h.size k.size, fun i hi hs => (k.block i (Nat.lt_of_lt_of_le hi h.size) hs).trans (h.block i hi hs)⟩
theorem Sv.of_below {S : Nat → Prop} {a b : World} (h : Below a.heap.size a b) : Sv S a b := ⟨h.os, h.tape, h.output, h.size, fun k hk _ => h.block k hk⟩
theorem Sv.below {S : Nat → Prop} {a b : World} (h : Sv S a b) {B : Nat} (hB : B ≤ a.heap.size) (hS : ∀ k, S k → B ≤ k) : Below B a b := ⟨h.os, h.tape, h.output, h.size, fun k hk => h.block k (by omega) fun hs => by have := hS k hs; omega⟩
theorem Sv.alloc {S : Nat → Prop} {a w : World} (h : Sv S a w) (o : Obj) : Sv S a (w.alloc o) := h.trans (Sv.of_below ((Below.refl _ _).alloc (Nat.le_refl _) o))
theorem Sv.drew {S : Nat → Prop} {a w : World} (h : Sv S a w) : Sv S a w.drew := ⟨h.os, h.tape, h.output, h.size, h.block⟩
theorem Sv.setCell {S : Nat → Prop} {a w : World} (h : Sv S a w) {p : Addr} (hp : S p.block ∨ a.heap.size ≤ p.block) (u : Value) : Sv S a (w.setCell p u) :=
  ⟨h.os, h.tape, h.output, by have := h.size; simpa [World.setCell] using this, fun k hk hs => (Below.heap_setCell _ _ _ _ (by rintro rfl; rcases hp with hp | hp; exact hs hp; omega)).trans (h.block k hk hs)⟩
theorem Sv.cell {S : Nat → Prop} {a w : World} (h : Sv S a w) {p : Addr} (hp : p.block < a.heap.size) (hs : ¬ S p.block) : w.cell? p = a.cell? p := World.cell?_of_block (w := a) (h.block p.block hp hs)
theorem cell_hp {W : World} {k : Nat} {cs : Array Value} {t : TypeId} (h : W.heap[k]? = some (.cells cs t (0, 0))) (i : Nat) : W.cell? ⟨k, i, none⟩ = cs[i]? := by unfold World.cell?; rw [h]; rfl
theorem frozen_hp {W : World} {k : Nat} {cs : Array Value} {t : TypeId} (h : W.heap[k]? = some (.cells cs t (0, 0))) (i : Nat) : W.frozen? ⟨k, i, none⟩ = false := by unfold World.frozen?; rw [h]; simp
/-- Block g is a row of its own with room for n atoms; l lies at its beginning. -/
def OwnA (W : World) (g n : Nat) (l : List At) : Prop := (∃ cur, W.heap[g]? = some (.cells cur 51 (0, 0)) ∧ n * 4 ≤ cur.size) ∧ AtomsAt W g 0 l
theorem OwnA.lt {W : World} {g n : Nat} {l : List At} (h : OwnA W g n l) : g < W.heap.size := by obtain ⟨⟨_, h, _⟩, _⟩ := h; exact (Array.getElem?_eq_some_iff.1 h).1
theorem OwnA.next {W W' : World} {g n : Nat} {l : List At} (h : OwnA W g n l) (hb : Below W.heap.size W W') : OwnA W' g n l := by
  have hg := h.lt
  obtain ⟨⟨cur, h1, h2⟩, h3⟩ := h
  exact ⟨⟨cur, (hb.block g hg).trans h1, h2⟩, h3.below hb hg⟩
theorem AtomsAt.keep {W W' : World} {g o : Nat} {l : List At} (h : AtomsAt W g o l) (hk : W'.heap[g]? = W.heap[g]?) : AtomsAt W' g o l := fun i x hx => by
  have c : ∀ j, W'.cell? ⟨g, j, none⟩ = W.cell? ⟨g, j, none⟩ := fun j => World.cell?_of_block (w := W) hk
  obtain ⟨a, b, d, e⟩ := h i x hx
  exact ⟨(c _).trans a, (c _).trans b, (c _).trans d, (c _).trans e⟩
theorem OwnA.keep {W W' : World} {g n : Nat} {l : List At} (h : OwnA W g n l) (hk : W'.heap[g]? = W.heap[g]?) : OwnA W' g n l := by
  obtain ⟨⟨cur, h1, h2⟩, h3⟩ := h
  exact ⟨⟨cur, hk.trans h1, h2⟩, h3.keep hk⟩
/-- A row of atoms of its own. -/
def OwnV (W : World) (ad : Option Addr) (l : List At) : Prop := l = [] ∨ ∃ g, ad = some ⟨g, 0, none⟩ ∧ OwnA W g l.length l
theorem OwnV.next {W W' : World} {ad : Option Addr} {l : List At} (h : OwnV W ad l) (hb : Below W.heap.size W W') : OwnV W' ad l := h.imp_right fun ⟨g, e, h1⟩ => ⟨g, e, h1.next hb⟩
theorem OwnV.atoms {W : World} {ad : Option Addr} {l : List At} (h : OwnV W ad l) : AtomsB W ad l := h.imp_right fun ⟨g, e, h1⟩ => ⟨g, 0, e, h1.lt, h1.2⟩
theorem OwnV.lt {W : World} {ad : Option Addr} {l : List At} (h : OwnV W ad l) (h0 : l ≠ []) (g : Nat) (e : ad = some ⟨g, 0, none⟩) : g < W.heap.size := by
  rcases h with h | ⟨g', e', h1⟩
  · exact absurd h h0
  · rw [e] at e'
    injection e' with e'
    injection e' with e'
    subst e'
    exact h1.lt
theorem OwnV.sv {S : Nat → Prop} {W W' : World} {ad : Option Addr} {l : List At} (h : OwnV W ad l) (hb : Sv S W W') (hS : l ≠ [] → ∀ g, ad = some ⟨g, 0, none⟩ → ¬ S g) : OwnV W' ad l := by
  by_cases h0 : l = []
  · exact .inl h0
  · rcases h with h | ⟨g, e, h1⟩
    · exact absurd h h0
    · exact .inr ⟨g, e, h1.keep (hb.block g h1.lt (hS h0 g e))⟩
theorem AtomsB.sv {S : Nat → Prop} {W W' : World} {ad : Option Addr} {l : List At} (h : AtomsB W ad l) (hb : Sv S W W') (hS : l ≠ [] → ∀ g o, ad = some ⟨g, o, none⟩ → ¬ S g) : AtomsB W' ad l := by
  by_cases h0 : l = []
  · exact .inl h0
  · rcases h with h | ⟨g, o, e, h1, h2⟩
    · exact absurd h h0
    · exact .inr ⟨g, o, e, Nat.lt_of_lt_of_le h1 hb.size, h2.keep (hb.block g h1 (hS h0 g o e))⟩
theorem AtomsB.lt {W : World} {ad : Option Addr} {l : List At} (h : AtomsB W ad l) (h0 : l ≠ []) (g o : Nat) (e : ad = some ⟨g, o, none⟩) : g < W.heap.size := by
  rcases h with h | ⟨g', o', e', h1, _⟩
  · exact absurd h h0
  · rw [e] at e'
    injection e' with e'
    injection e' with e'
    subst e'
    exact h1
end Go.Proofs.YtfookokepnnmoaaDoor
