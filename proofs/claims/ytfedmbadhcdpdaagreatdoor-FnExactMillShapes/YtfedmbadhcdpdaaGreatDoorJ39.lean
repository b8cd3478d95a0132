import Derived.Laws.CopyOwn
import Derived.Test.YtfedmbadhcdpdaaGreatDoorJ38
/-! What the program answers of a code. -/
namespace Go.Proofs.YtfedmbadhcdpdaaGreatDoor.C
open Go.RowKit
set_option maxRecDepth 20000
def ErrT (W : World) : Prop := W.cell? ⟨0, 0, none⟩ = some (.iface 127 (.agg #[.pointer (some ⟨3, 53, none⟩)]))
theorem ErrT.lt {W : World} (h : ErrT W) : 0 < W.heap.size := by
  unfold ErrT World.cell? at h
  rcases Nat.lt_or_ge 0 W.heap.size with hl | hl
  · exact hl
  · rw [Array.getElem?_eq_none hl] at h; cases h
theorem ErrT.next {W V : World} (h : ErrT W) (hb : Below W.heap.size W V) : ErrT V := (hb.cell (p := ⟨0, 0, none⟩) h.lt).trans h
/-- The code's box, and the flaw's. -/
structure MX (w : World) (cv : Value) (W : World) : Prop where
  lo : Below w.heap.size w W
  e0 : W.heap[w.heap.size]? = some (.cells #[cv] 30)
  e1 : W.heap[w.heap.size + 1]? = some (.cells #[.int .i64 0, .int .i64 0, .int .i64 0] 50)
theorem MX.start (w : World) (cv : Value) : MX w cv ((w.alloc (.cells #[cv] 30)).alloc (.cells #[.int .i64 0, .int .i64 0, .int .i64 0] 50)) := by
  refine ⟨((Below.refl _ _).alloc (Nat.le_refl _) _).alloc (by simp) _, ?_, ?_⟩
  · rw [Below.heap_alloc _ _ _ (by simp)]
    exact heap_alloc_new _ _
  · have := heap_alloc_new (w.alloc (.cells #[cv] 30)) (.cells #[.int .i64 0, .int .i64 0, .int .i64 0] 50)
    rwa [World.size_alloc] at this
theorem MX.next {w : World} {cv : Value} {W V : World} (h : MX w cv W) (hb : Below W.heap.size W V) : MX w cv V := ⟨h.lo.trans (hb.mono h.lo.size), hp_next h.e0 hb, hp_next h.e1 hb⟩
end Go.Proofs.YtfedmbadhcdpdaaGreatDoor.C
