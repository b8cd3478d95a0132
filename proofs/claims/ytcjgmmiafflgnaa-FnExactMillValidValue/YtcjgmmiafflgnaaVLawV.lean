import Derived.Test.YtcjgmmiafflgnaaVSz
import Derived.Deep.RegionHeld3
/-! The law of valid values. -/
namespace Go.Proofs.Ytcjgmmiafflgnaa.V
open Go.RowKit Go.Shelf
set_option maxRecDepth 20000
theorem box_cell {w W : World} {cs : Array Value} {ty : TypeId} (h : Below (w.heap.size + 1) (w.alloc (.cells cs ty)) W) (i : Nat) : W.cell? ⟨w.heap.size, i, none⟩ = cs[i]? := by
  rw [h.cell (p := ⟨w.heap.size, i, none⟩) (by simp)]
  have h := heap_alloc_new w (.cells cs ty)
  unfold World.cell?
  rw [h]; rfl
theorem box_below {w W : World} {o : Obj} (h : Below (w.heap.size + 1) (w.alloc o) W) : Below w.heap.size w W := (alloc_below w o).trans (h.mono (by omega))
theorem box_next {w W V : World} {o : Obj} (h : Below (w.heap.size + 1) (w.alloc o) W) (k : Below W.heap.size W V) : Below (w.heap.size + 1) (w.alloc o) V := h.trans (k.mono (by have := h.size; simpa using this))
set_option maxHeartbeats 2000000 in
theorem law_valid (t n : Int) (s : ByteArray) (w : World) (hs : s.size ≤ maxLen) (hn1 : -9223372036854775808 ≤ n) (hn2 : n ≤ 9223372036854775807) :
    Calls Try.prog 3 #[val t n s] w fun e w' => e = .returned (.bool true) ∧ Below w.heap.size w w' := by
  have HX : Hid (∀ W, Below (w.heap.size + 1) (w.alloc (.cells #[.int .i64 t, .int .i64 n, .string s] 23)) W → W.cell? ⟨w.heap.size, 0, none⟩ = some (.int .i64 t) ∧ W.cell? ⟨w.heap.size, 1, none⟩ = some (.int .i64 n) ∧ W.cell? ⟨w.heap.size, 2, none⟩ = some (.string s)) := fun W h => ⟨box_cell h 0, box_cell h 1, box_cell h 2⟩
  have HB0 := hid (Below.refl (w.heap.size + 1) (w.alloc (.cells #[.int .i64 t, .int .i64 n, .string s] 23)))
  go_enter Try.func3, Try.ntmps3
  go_wp2_with fail
  refine (szVal_any t n 1048576 s _ hs (by decide) (by decide)).mono ?_
  rintro e w1 ⟨⟨r, rfl, _, _⟩, hb1⟩
  have HB1 := hid (box_next HB0.out hb1)
  clear hb1
  by_cases hr : r < 0
  · go_wp2
    go_ret
    exact ⟨rfl, box_below HB1.out⟩
  · obtain ⟨x0, x1, x2⟩ := HX.out _ HB1.out
    go_wp2_with fail
    refine (toVal_any t n s _).mono ?_
    rintro e w2 ⟨rfl, hb2⟩
    have HB2 := hid (box_next HB1.out hb2)
    clear hb2 x0 x1 x2
    go_wp2_with fail
    refine (specVV t n s hn1 hn2 _).mono ?_
    rintro e w3 ⟨rfl, hb3⟩
    have HB3 := hid (box_next HB2.out hb3)
    clear hb3
    obtain ⟨x0, x1, x2⟩ := HX.out _ HB3.out
    go_wp2_with fail
    refine (toVal_any t n s _).mono ?_
    rintro e w4 ⟨rfl, hb4⟩
    have HB4 := hid (box_next HB3.out hb4)
    clear hb4 x0 x1 x2
    go_wp2_with fail
    refine (implVV t n s hn1 hn2 _).mono ?_
    rintro e w5 ⟨rfl, hb5⟩
    have HB5 := hid (box_next HB4.out hb5)
    clear hb5
    have hne : (validB t n s != validB t n s) = false := by simp
    go_wp2
    go_ret
    exact ⟨rfl, box_below HB5.out⟩
end Go.Proofs.Ytcjgmmiafflgnaa.V
