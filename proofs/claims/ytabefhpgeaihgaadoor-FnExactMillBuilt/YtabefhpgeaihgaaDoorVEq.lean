import Derived.Test.YtabefhpgeaihgaaDoorVBox
/-! The laws' comparison of values. -/
namespace Go.Proofs.YtabefhpgeaihgaaDoor.V
open Go.RowKit Go.Shelf
set_option maxRecDepth 20000
theorem boxC {w W : World} {a b c : Value} {ty : TypeId} (h : Below (w.heap.size + 1) (w.alloc (.cells #[a, b, c] ty)) W) : W.cell? ⟨w.heap.size, 0, none⟩ = some a ∧ W.cell? ⟨w.heap.size, 1, none⟩ = some b ∧ W.cell? ⟨w.heap.size, 2, none⟩ = some c :=
  cells_at h (by omega) (heap_new w _)
set_option maxHeartbeats 2000000 in
theorem eqVal_any (t n : Int) (s : ByteArray) (w : World) :
    Calls Tryd.prog 8 #[val t n s, val t n s] w fun e w' => e = .returned (.bool true) ∧ Below w.heap.size w w' := by
  have e1 : (t != t) = false := by simp
  have e2 : (n != n) = false := by simp
  have e3 : (s.toList != s.toList) = false := by simp
  go_enter Tryd.func8, Tryd.ntmps8
  go_wp2
  go_ret
  exact ⟨rfl, alloc2 _ _ _⟩
end Go.Proofs.YtabefhpgeaihgaaDoor.V
