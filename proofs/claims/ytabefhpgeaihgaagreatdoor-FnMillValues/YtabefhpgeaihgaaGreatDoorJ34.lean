import Derived.Test.YtabefhpgeaihgaaGreatDoorJ13
import Derived.Test.YtabefhpgeaihgaaGreatDoorJ26
import Derived.Test.YtabefhpgeaihgaaGreatDoorJ31
import Derived.Test.YtabefhpgeaihgaaGreatDoorJ01
/-! Printed by gen_vun.py. -/
namespace Go.Proofs.YtabefhpgeaihgaaGreatDoor.V
open Go.RowKit Go.Shelf
set_option maxRecDepth 20000
/-- Whether a mark with one kid takes a value. -/
def unOk (op t n : Int) (s : ByteArray) : Bool := validB t n s && (decide (1 ≤ op) && decide (op ≤ 3)) && decide (unT op t ≠ 0)
/-- What it gives. -/
def unN (op t n : Int) : Int := if op = 1 then cntT t 10 0 n else if op = 2 then (if decide (n = 0) then 1 else 0) else cntT t 12 n (-1)
theorem un_cases (op : Int) : op = 1 ∨ op = 2 ∨ op = 3 ∨ op < 1 ∨ 3 < op := by omega
/-- What is answered. -/
abbrev unR (op t n : Int) (s : ByteArray) : Value := if unOk op t n s then ans t (unN op t n) wNone wNone else ans 0 0 wNone wType
theorem unT_int {op t : Int} (h : op ≠ 2) (hu : unT op t ≠ 0) : 3 ≤ t ∧ t ≤ 10 := by
  unfold unT at hu
  split at hu
  · omega
  · exact absurd rfl hu
theorem unT_bool {t : Int} (hu : unT 2 t ≠ 0) : t = 1 := by
  unfold unT at hu
  split at hu
  · omega
  · exact absurd rfl hu
theorem valid_bool {n : Int} {s : ByteArray} (h : validB 1 n s = true) : n = 0 ∨ n = 1 := by
  simp [validB] at h
  exact h.2
theorem unOk_f {op t n : Int} {s : ByteArray} (h : validB t n s = false ∨ op < 1 ∨ 3 < op ∨ unT op t = 0) : unOk op t n s = false := by
  unfold unOk
  rcases h with h | h | h | h
  · rw [h]; rfl
  · rw [show decide (1 ≤ op) = false from decide_eq_false (by omega)]; simp
  · rw [show decide (op ≤ 3) = false from decide_eq_false (by omega)]; simp
  · rw [h]; simp
theorem unOk_t {op t n : Int} {s : ByteArray} (hv : validB t n s = true) (h1 : 1 ≤ op) (h2 : op ≤ 3) (hu : unT op t ≠ 0) : unOk op t n s = true := by
  unfold unOk
  rw [hv]
  simp [h1, h2, hu]
end Go.Proofs.YtabefhpgeaihgaaGreatDoor.V
