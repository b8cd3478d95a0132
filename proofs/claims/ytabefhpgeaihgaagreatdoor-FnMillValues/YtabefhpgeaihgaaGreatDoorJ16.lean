import Derived.OwnWalk
import Derived.Lib.Slices
import Derived.Lib.Strings
import Derived.Lib.BufferRead
import Derived.Lib.ItoaNum
import Derived.Deep.RegionHeld3
import Derived.Test.YtabefhpgeaihgaaGreatDoorJ13
import Derived.Test.YtabefhpgeaihgaaGreatDoorJ01
/-! Rows of bytes of one's own, as texts. -/
namespace Go.Proofs.YtabefhpgeaihgaaGreatDoor.V
open Go.RowKit Go.Shelf
set_option maxRecDepth 20000
theorem own_slice' {w : World} {B e size k : Nat} {v : Value} {xs : List Value} (h : w.ownsRow B e size v k xs) : ∃ a cap, v = .slice a k cap := by
  rcases h.2 with ⟨hv, h0⟩ | ⟨g, cap, cur, hv, _⟩
  · exact ⟨none, 0, by rw [hv, h0]⟩
  · exact ⟨_, _, hv⟩
theorem conv_row (w : World) (base : Nat) (v : Value) (l : List UInt8) (h : w.ownsRow base 5 1 v l.length (Lib.byteCells l)) :
    (convert 22 9 v).run Tryz.prog w = .ok (.string ⟨l.toArray⟩) w := by
  obtain ⟨_, ⟨rfl, h0⟩ | ⟨g, cap, cur, rfl, _, hg, _, _, _, htk⟩⟩ := h
  · have e : l = [] := List.eq_nil_of_length_eq_zero h0
    subst e
    exact Lib.run_convert_nil_bytes w _ _ 5 0 Tryz.underlying22 Tryz.underlying5 Tryz.underlying9
  · exact run_convert_bytes_back w _ _ 5 _ cap l Tryz.underlying22 Tryz.underlying5 Tryz.underlying9 (Lib.bytes_of_row hg (by rw [Nat.mul_one] at htk; exact htk))
theorem conv_one (w : World) (c : UInt8) (x : Int) (hx : x = c.toNat) : (convert 22 9 (.slice (some ⟨w.heap.size, 0, none⟩) 1 1)).run Tryz.prog (w.alloc (.cells #[.int .u8 x] 5)) = .ok (.string ⟨#[c]⟩) (w.alloc (.cells #[.int .u8 x] 5)) := by
  subst hx
  exact conv_row _ w.heap.size _ [c] ⟨rfl, .inr ⟨w.heap.size, 1, #[.int .u8 c.toNat], rfl, Nat.le_refl _, heap_alloc_new w _, Nat.le_refl _, by unfold maxLen; omega, rfl, rfl⟩⟩
theorem dig_nat (k : Nat) (h : k < 10) : (48 : Int) + (k : Int) = ((UInt8.ofNat (48 + k)).toNat : Int) := by
  have : (UInt8.ofNat (48 + k)).toNat = 48 + k := by simp; omega
  rw [this]; omega
theorem decDigits_len (u : Nat) (h : u < 18446744073709551616) : (Lib.decDigits u).length ≤ 20 := by
  rw [Lib.decDigits_length]
  by_cases h0 : u = 0
  · subst h0; rw [Lib.nDigits_small (by decide)]; decide
  · have := Lib.numDigits_eq u (by omega) h
    split at this <;> omega
/-! The text of an E. -/
end Go.Proofs.YtabefhpgeaihgaaGreatDoor.V
/-! The model's helpers, and boxes. -/
namespace Go.Proofs.YtabefhpgeaihgaaGreatDoor.V
open Go.RowKit Go.Shelf
set_option maxRecDepth 20000
set_option maxHeartbeats 1000000 in
theorem l13Bool_any (b : Bool) (w : World) :
    Calls Tryz.prog 49 #[.bool b] w fun e w' => e = .returned (boolV b) ∧ Below w.heap.size w w' := by
  cases b
  all_goals go_enter Tryz.func49, Tryz.ntmps49
  all_goals go_wp2
  · exact bodyPost_ret (v := boolV false) (by simp [results, Tryz.results49, go_sem]) rfl ⟨rfl, alloc_below _ _⟩
  · exact bodyPost_ret (v := boolV true) (by simp [results, Tryz.results49, go_sem]) rfl ⟨rfl, alloc_below _ _⟩
set_option maxHeartbeats 1000000 in
theorem l13Num_any (t x : Int) (h3 : 3 ≤ t) (h4 : t ≤ 10) (h1 : 0 ≤ x) (h2 : x ≤ 18446744073709551615) (w : World) :
    Calls Tryz.prog 53 #[.int .i64 t, .int .u64 x] w fun e w' => e = .returned (val t (into t x) wNone) ∧ Below w.heap.size w w' := by
  have HC : Hid (∀ W, Calls Tryz.prog 16 #[.int .i64 t, .int .u64 x] W fun e w' => e = .returned (.int .i64 (into t x)) ∧ w' = W) := fun W => l13Into_any t x h3 h4 h1 h2 W
  generalize into t x = z at *
  go_enter Tryz.func53, Tryz.ntmps53
  go_wp2_with fail
  refine (HC.out _).mono ?_
  rintro e w' ⟨rfl, hw⟩
  have hw2 := hw.symm
  clear hw
  subst hw2
  go_wp2
  exact bodyPost_ret (v := val t z wNone) (by simp [results, Tryz.results53, go_sem]) rfl ⟨rfl, alloc_below _ _⟩
end Go.Proofs.YtabefhpgeaihgaaGreatDoor.V
/-! Two boxes that came in, one for the answer. -/
namespace Go.Proofs.YtabefhpgeaihgaaGreatDoor.V
open Go.RowKit Go.Shelf
set_option maxRecDepth 20000
def Three (w : World) (t n : Int) (s : ByteArray) (t2 n2 : Int) (x : ByteArray) (W : World) : Prop := Below (w.heap.size + 3) (((w.alloc (vbox t n s)).alloc (vbox t2 n2 x)).alloc (vbox 0 0 wNone)) W
section
variable {w W V : World} {t n t2 n2 : Int} {s x : ByteArray}
theorem Three.start (w : World) (t n : Int) (s : ByteArray) (t2 n2 : Int) (x : ByteArray) : Three w t n s t2 n2 x (((w.alloc (vbox t n s)).alloc (vbox t2 n2 x)).alloc (vbox 0 0 wNone)) := Below.refl _ _
theorem Three.next (h : Three w t n s t2 n2 x W) (k : Below W.heap.size W V) : Three w t n s t2 n2 x V := Below.trans h (k.mono (by have := Below.size h; simpa [Nat.add_assoc] using this))
theorem Three.below (h : Three w t n s t2 n2 x W) : Below w.heap.size w W := (alloc3 w _ _ _).trans (Below.mono h (by omega))
theorem three_a (w : World) (t n : Int) (s : ByteArray) (t2 n2 : Int) (x : ByteArray) : (((w.alloc (vbox t n s)).alloc (vbox t2 n2 x)).alloc (vbox 0 0 wNone)).heap[w.heap.size]? = some (vbox t n s) := heap_old (heap_old (heap_new w _))
theorem three_b (w : World) (t n : Int) (s : ByteArray) (t2 n2 : Int) (x : ByteArray) : (((w.alloc (vbox t n s)).alloc (vbox t2 n2 x)).alloc (vbox 0 0 wNone)).heap[w.heap.size + 1]? = some (vbox t2 n2 x) := by
  have := heap_old (o := vbox 0 0 wNone) (heap_new (w.alloc (vbox t n s)) (vbox t2 n2 x))
  rwa [World.size_alloc] at this
theorem three_c (w : World) (t n : Int) (s : ByteArray) (t2 n2 : Int) (x : ByteArray) : (((w.alloc (vbox t n s)).alloc (vbox t2 n2 x)).alloc (vbox 0 0 wNone)).heap[w.heap.size + 2]? = some (vbox 0 0 wNone) := by
  have := heap_new ((w.alloc (vbox t n s)).alloc (vbox t2 n2 x)) (vbox 0 0 wNone)
  rwa [World.size_alloc, World.size_alloc] at this
theorem Three.arg (h : Three w t n s t2 n2 x W) : W.cell? ⟨w.heap.size, 0, none⟩ = some (.int .i64 t) ∧ W.cell? ⟨w.heap.size, 1, none⟩ = some (.int .i64 n) ∧ W.cell? ⟨w.heap.size, 2, none⟩ = some (.string s) :=
  cells_at h (by omega) (three_a w t n s t2 n2 x)
theorem Three.arg2 (h : Three w t n s t2 n2 x W) : W.cell? ⟨w.heap.size + 1, 0, none⟩ = some (.int .i64 t2) ∧ W.cell? ⟨w.heap.size + 1, 1, none⟩ = some (.int .i64 n2) ∧ W.cell? ⟨w.heap.size + 1, 2, none⟩ = some (.string x) :=
  cells_at h (by omega) (three_b w t n s t2 n2 x)
theorem Three.res (h : Three w t n s t2 n2 x W) : W.cell? ⟨w.heap.size + 2, 0, none⟩ = some (.int .i64 0) ∧ W.cell? ⟨w.heap.size + 2, 1, none⟩ = some (.int .i64 0) ∧ W.cell? ⟨w.heap.size + 2, 2, none⟩ = some (.string wNone) :=
  cells_at h (by omega) (three_c w t n s t2 n2 x)
theorem Three.room (h : Three w t n s t2 n2 x W) : W.frozen? ⟨w.heap.size + 2, 0, none⟩ = false ∧ W.frozen? ⟨w.heap.size + 2, 1, none⟩ = false ∧ W.frozen? ⟨w.heap.size + 2, 2, none⟩ = false :=
  open_at h (by omega) (three_c w t n s t2 n2 x)
end
end Go.Proofs.YtabefhpgeaihgaaGreatDoor.V
/-! What the model has for two values. -/
namespace Go.Proofs.YtabefhpgeaihgaaGreatDoor.V
open Go.RowKit Go.Shelf
set_option maxRecDepth 20000
/-- An order's answer, by what is below and what is the same. -/
def ordB (op : Int) (L E : Bool) : Bool := if op = 3 then E else if op = 4 then !E else if op = 5 then L else if op = 6 then L || E else if op = 7 then !L && !E else !L
theorem ord_cmp (op a b : Int) : ordB op (decide (a < b)) (decide (a = b)) = cmpB op a b := by
  unfold ordB cmpB
  repeat' split
  all_goals first | rfl | (rw [Bool.eq_iff_iff]; simp <;> omega)
/-- What a mark with two kids gives, of types that values have. -/
def binT (op a b : Int) : Int :=
  if a ≠ b then 0 else if op = 1 ∨ op = 2 then (if a = 1 then a else 0) else if op = 3 ∨ op = 4 then 1
  else if op ≤ 8 then (if a ≠ 1 then 1 else 0) else if op = 9 then (if a ≠ 1 then a else 0) else if 3 ≤ a then a else 0
theorem typ3 {a : Int} (h1 : 1 ≤ a) (h2 : a ≤ 10) : a = 1 ∨ a = 2 ∨ (3 ≤ a ∧ a ≤ 10) := by omega
theorem op18 {op : Int} (h1 : 1 ≤ op) (h2 : op ≤ 18) : op = 1 ∨ op = 2 ∨ op = 3 ∨ op = 4 ∨ op = 5 ∨ op = 6 ∨ op = 7 ∨ op = 8 ∨ op = 9 ∨ op = 10 ∨ op = 11 ∨ op = 12 ∨ op = 13 ∨ op = 14 ∨ op = 15 ∨ op = 16 ∨ op = 17 ∨ op = 18 := by omega
end Go.Proofs.YtabefhpgeaihgaaGreatDoor.V
