import Derived.Test.YtabefhpgeaihgaaDoorVErr
import Derived.Deep.RegionHeld3
/-! Boxes of what came in and of what is answered. -/
namespace Go.Proofs.YtabefhpgeaihgaaDoor.V
open Go.RowKit Go.Shelf
set_option maxRecDepth 20000
/-- What is answered: a value and a word. -/
abbrev ans (t n : Int) (s x : ByteArray) : Value := .tuple #[val t n s, .string x]
theorem heap_new (w : World) (o : Obj) : (w.alloc o).heap[w.heap.size]? = some o := heap_alloc_new w o
theorem heap_old {w : World} {o x : Obj} {g : Nat} (h : w.heap[g]? = some x) : (w.alloc o).heap[g]? = some x := by
  rw [Below.heap_alloc w o g (Array.getElem?_eq_some_iff.1 h).1]; exact h
/-- Three cells of a block that stands. -/
theorem cells_at {B g : Nat} {w W : World} {a b c : Value} {ty : TypeId} (h : Below B w W) (hg : g < B) (e : w.heap[g]? = some (.cells #[a, b, c] ty)) :
    W.cell? ⟨g, 0, none⟩ = some a ∧ W.cell? ⟨g, 1, none⟩ = some b ∧ W.cell? ⟨g, 2, none⟩ = some c := by
  have e2 : W.heap[g]? = some (.cells #[a, b, c] ty) := (h.block g hg).trans e
  refine ⟨?_, ?_, ?_⟩ <;> simp [World.cell?, e2]
theorem open_at {B g : Nat} {w W : World} {a b c : Value} {ty : TypeId} (h : Below B w W) (hg : g < B) (e : w.heap[g]? = some (.cells #[a, b, c] ty)) :
    W.frozen? ⟨g, 0, none⟩ = false ∧ W.frozen? ⟨g, 1, none⟩ = false ∧ W.frozen? ⟨g, 2, none⟩ = false := by
  have e2 : W.heap[g]? = some (.cells #[a, b, c] ty) := (h.block g hg).trans e
  refine ⟨?_, ?_, ?_⟩ <;> simp [World.frozen?, e2]
abbrev vbox (t n : Int) (s : ByteArray) : Obj := .cells #[.int .i64 t, .int .i64 n, .string s] 25
/-- One box came in; one is for the answer. -/
def Two (w : World) (t n : Int) (s : ByteArray) (W : World) : Prop := Below (w.heap.size + 2) ((w.alloc (vbox t n s)).alloc (vbox 0 0 wNone)) W
theorem Two.start (w : World) (t n : Int) (s : ByteArray) : Two w t n s ((w.alloc (vbox t n s)).alloc (vbox 0 0 wNone)) := Below.refl _ _
theorem Two.next {w W V : World} {t n : Int} {s : ByteArray} (h : Two w t n s W) (k : Below W.heap.size W V) : Two w t n s V := Below.trans h (k.mono (by have := Below.size h; simpa [Nat.add_assoc] using this))
theorem Two.below {w W : World} {t n : Int} {s : ByteArray} (h : Two w t n s W) : Below w.heap.size w W := (alloc2 w _ _).trans (Below.mono h (by omega))
theorem Two.arg {w W : World} {t n : Int} {s : ByteArray} (h : Two w t n s W) : W.cell? ⟨w.heap.size, 0, none⟩ = some (.int .i64 t) ∧ W.cell? ⟨w.heap.size, 1, none⟩ = some (.int .i64 n) ∧ W.cell? ⟨w.heap.size, 2, none⟩ = some (.string s) :=
  cells_at h (by omega) (heap_old (heap_new w _))
theorem two_e (w : World) (t n : Int) (s : ByteArray) : ((w.alloc (vbox t n s)).alloc (vbox 0 0 wNone)).heap[w.heap.size + 1]? = some (vbox 0 0 wNone) := by
  have := heap_new (w.alloc (vbox t n s)) (vbox 0 0 wNone)
  rwa [World.size_alloc] at this
theorem Two.res {w W : World} {t n : Int} {s : ByteArray} (h : Two w t n s W) : W.cell? ⟨w.heap.size + 1, 0, none⟩ = some (.int .i64 0) ∧ W.cell? ⟨w.heap.size + 1, 1, none⟩ = some (.int .i64 0) ∧ W.cell? ⟨w.heap.size + 1, 2, none⟩ = some (.string wNone) :=
  cells_at h (by omega) (two_e w t n s)
theorem Two.room {w W : World} {t n : Int} {s : ByteArray} (h : Two w t n s W) : W.frozen? ⟨w.heap.size + 1, 0, none⟩ = false ∧ W.frozen? ⟨w.heap.size + 1, 1, none⟩ = false ∧ W.frozen? ⟨w.heap.size + 1, 2, none⟩ = false :=
  open_at h (by omega) (two_e w t n s)
theorem setr {w W : World} {g : Nat} (hg : w.heap.size ≤ g) (h : Below w.heap.size w W) (a b c : Value) : Below w.heap.size w (((W.setCell ⟨g, 0, none⟩ a).setCell ⟨g, 1, none⟩ b).setCell ⟨g, 2, none⟩ c) :=
  set_below (set_below (set_below h _ _ hg _) _ _ hg _) _ _ hg _
theorem keep_box {W V : World} {g : Nat} {o : Obj} (h : W.heap[g]? = some o) (hb : Below W.heap.size W V) : V.heap[g]? = some o := (hb.block g (Array.getElem?_eq_some_iff.1 h).1).trans h
theorem go2 {a b c : World} (h : Below a.heap.size a b) (k : Below b.heap.size b c) : Below a.heap.size a c := h.trans (k.mono h.size)
theorem six {W : World} {g : Nat} {t n : Int} {s : ByteArray} (e : W.heap[g]? = some (vbox t n s)) :
    W.cell? ⟨g, 0, none⟩ = some (.int .i64 t) ∧ W.cell? ⟨g, 1, none⟩ = some (.int .i64 n) ∧ W.cell? ⟨g, 2, none⟩ = some (.string s) ∧ W.frozen? ⟨g, 0, none⟩ = false ∧ W.frozen? ⟨g, 1, none⟩ = false ∧ W.frozen? ⟨g, 2, none⟩ = false := by
  refine ⟨?_, ?_, ?_, ?_, ?_, ?_⟩ <;> simp [World.cell?, World.frozen?, e]
theorem setN_box {W : World} {g : Nat} {t n : Int} {s : ByteArray} (e : W.heap[g]? = some (vbox t n s)) (m : Int) : (W.setCell ⟨g, 1, none⟩ (.int .i64 m)).heap[g]? = some (vbox t m s) := by
  unfold World.setCell
  simp only [Array.getElem?_modify, e]
  simp
end Go.Proofs.YtabefhpgeaihgaaDoor.V
