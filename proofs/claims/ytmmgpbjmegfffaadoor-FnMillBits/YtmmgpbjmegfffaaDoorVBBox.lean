import Derived.Test.YtmmgpbjmegfffaaDoorVBox
/-! Two boxes that came in, one for the answer. -/
namespace Go.Proofs.YtmmgpbjmegfffaaDoor.V
open Go.RowKit Go.Shelf
set_option maxRecDepth 20000
def Three (w : World) (t n : Int) (s : ByteArray) (t2 n2 : Int) (x : ByteArray) (W : World) : Prop := Below (w.heap.size + 3) (((w.alloc (vbox t n s)).alloc (vbox t2 n2 x)).alloc (vbox 0 0 wNone)) W
section
variable {w W V : World} {t n t2 n2 : Int} {s x : ByteArray}
theorem Three.start (w : World) (t n : Int) (s : ByteArray) (t2 n2 : Int) (x : ByteArray) : Three w t n s t2 n2 x (((w.alloc (vbox t n s)).alloc (vbox t2 n2 x)).alloc (vbox 0 0 wNone)) := Below.refl _ _
theorem Three.next (h : Three w t n s t2 n2 x W) (k : Below W.heap.size W V) : Three w t n s t2 n2 x V := Below.trans h (k.mono (by have := Below.size h; simpa [Nat.add_assoc] using this))
theorem Three.below (h : Three w t n s t2 n2 x W) : Below w.heap.size w W := (alloc3 w _ _ _).trans (Below.mono h (by omega))
theorem three_a (w : World) (t n : Int) (s : ByteArray) (t2 n2 : Int) (x : ByteArray) : (((w.alloc (vbox t n s)).alloc (vbox t2 n2 x)).alloc (vbox 0 0 wNone)).heap[w.heap.size]? = some (vbox t n s) := heap_old (heap_old (heap_new w _))
theorem three_b (w : World) (t n : Int) (s : ByteArray) (t2 n2 : Int) (x : ByteArray) : (((w.alloc (vbox t n s)).alloc (vbox t2 n2 x)).alloc (vbox 0 0 wNone)).heap[w.heap.size + 1]? = some (vbox t2 n2 x) := by
  have := heap_old (o := vbox 0 0 wNone) (heap_new (w.alloc (vbox t n s)) (vbox t2 n2 x))
  rwa [World.size_alloc] at this
theorem three_c (w : World) (t n : Int) (s : ByteArray) (t2 n2 : Int) (x : ByteArray) : (((w.alloc (vbox t n s)).alloc (vbox t2 n2 x)).alloc (vbox 0 0 wNone)).heap[w.heap.size + 2]? = some (vbox 0 0 wNone) := by
  have := heap_new ((w.alloc (vbox t n s)).alloc (vbox t2 n2 x)) (vbox 0 0 wNone)
  rwa [World.size_alloc, World.size_alloc] at this
theorem Three.arg (h : Three w t n s t2 n2 x W) : W.cell? ⟨w.heap.size, 0, none⟩ = some (.int .i64 t) ∧ W.cell? ⟨w.heap.size, 1, none⟩ = some (.int .i64 n) ∧ W.cell? ⟨w.heap.size, 2, none⟩ = some (.string s) :=
  cells_at h (by omega) (three_a w t n s t2 n2 x)
theorem Three.arg2 (h : Three w t n s t2 n2 x W) : W.cell? ⟨w.heap.size + 1, 0, none⟩ = some (.int .i64 t2) ∧ W.cell? ⟨w.heap.size + 1, 1, none⟩ = some (.int .i64 n2) ∧ W.cell? ⟨w.heap.size + 1, 2, none⟩ = some (.string x) :=
  cells_at h (by omega) (three_b w t n s t2 n2 x)
theorem Three.res (h : Three w t n s t2 n2 x W) : W.cell? ⟨w.heap.size + 2, 0, none⟩ = some (.int .i64 0) ∧ W.cell? ⟨w.heap.size + 2, 1, none⟩ = some (.int .i64 0) ∧ W.cell? ⟨w.heap.size + 2, 2, none⟩ = some (.string wNone) :=
  cells_at h (by omega) (three_c w t n s t2 n2 x)
theorem Three.room (h : Three w t n s t2 n2 x W) : W.frozen? ⟨w.heap.size + 2, 0, none⟩ = false ∧ W.frozen? ⟨w.heap.size + 2, 1, none⟩ = false ∧ W.frozen? ⟨w.heap.size + 2, 2, none⟩ = false :=
  open_at h (by omega) (three_c w t n s t2 n2 x)
end
end Go.Proofs.YtmmgpbjmegfffaaDoor.V
