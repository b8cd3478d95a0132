import Derived.Test.YtabefhpgeaihgaaDoorVValid
/-! What the laws do with a value that came in. -/
namespace Go.Proofs.YtabefhpgeaihgaaDoor.V
open Go.RowKit Go.Shelf
set_option maxRecDepth 20000
set_option maxHeartbeats 1000000 in
theorem szVal_any (t n left : Int) (s : ByteArray) (w : World) (hs : s.size ≤ maxLen) (hl : 0 ≤ left) (hl2 : left ≤ 1048576) :
    Calls Tryd.prog 10 #[val t n s, .int .i64 left] w fun e w' => (∃ r : Int, e = .returned (.int .i64 r) ∧ r ≤ left ∧ (0 ≤ r → r = left - s.size)) ∧ Below w.heap.size w w' := by
  unfold maxLen at hs
  by_cases h : left < (s.size : Int)
  · go_enter Tryd.func10, Tryd.ntmps10
    go_wp2
    try (go_quiet (fail); go_wp2)
    go_ret
    exact ⟨⟨-1, rfl, by omega, fun h => by omega⟩, by first | exact alloc_below _ _ | exact alloc_drew _ _ | exact alloc_drewN _ _ _⟩
  · go_enter Tryd.func10, Tryd.ntmps10
    go_wp2
    try (go_quiet (fail); go_wp2)
    go_ret
    exact ⟨⟨_, rfl, by omega, fun h => by omega⟩, by first | exact alloc_below _ _ | exact alloc_drew _ _ | exact alloc_drewN _ _ _⟩
theorem alloc2 (w : World) (a b : Obj) : Below w.heap.size w ((w.alloc a).alloc b) := (alloc_below w a).alloc (by simp) b
theorem alloc3 (w : World) (a b c : Obj) : Below w.heap.size w (((w.alloc a).alloc b).alloc c) := (alloc2 w a b).alloc (by simp; omega) c
set_option maxHeartbeats 1000000 in
theorem toVal_any (t n : Int) (s : ByteArray) (w : World) :
    Calls Tryd.prog 18 #[val t n s] w fun e w' => e = .returned (val t n s) ∧ Below w.heap.size w w' := by
  go_enter Tryd.func18, Tryd.ntmps18
  go_wp2
  exact bodyPost_ret (v := val t n s) (by simp [results, Tryd.results18, go_sem]) rfl ⟨rfl, alloc3 _ _ _ _⟩
end Go.Proofs.YtabefhpgeaihgaaDoor.V
