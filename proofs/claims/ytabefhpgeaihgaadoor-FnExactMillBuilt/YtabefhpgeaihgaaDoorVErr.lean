import Derived.Test.YtabefhpgeaihgaaDoorVSz
/-! Errors that lie in package variables. -/
namespace Go.Proofs.YtabefhpgeaihgaaDoor.V
open Go.RowKit Go.Shelf
set_option maxRecDepth 20000
theorem box_heap {w W : World} {o : Obj} (h : Below (w.heap.size + 1) (w.alloc o) W) : W.heap[w.heap.size]? = some o := by
  rw [h.block w.heap.size (by omega)]
  exact heap_alloc_new w o
theorem box_below {w W : World} {o : Obj} (h : Below (w.heap.size + 1) (w.alloc o) W) : Below w.heap.size w W := (alloc_below w o).trans (h.mono (by omega))
theorem box_next {w W V : World} {o : Obj} (h : Below (w.heap.size + 1) (w.alloc o) W) (k : Below W.heap.size W V) : Below (w.heap.size + 1) (w.alloc o) V := h.trans (k.mono (by have := h.size; simpa using this))
/-- A box of three cells stands, and can be written. -/
theorem box_room {w W : World} {a b c : Value} {ty : TypeId} (h : Below (w.heap.size + 1) (w.alloc (.cells #[a, b, c] ty)) W) :
    W.cell? ⟨w.heap.size, 0, none⟩ = some a ∧ W.cell? ⟨w.heap.size, 1, none⟩ = some b ∧ W.cell? ⟨w.heap.size, 2, none⟩ = some c ∧
    W.frozen? ⟨w.heap.size, 0, none⟩ = false ∧ W.frozen? ⟨w.heap.size, 1, none⟩ = false ∧ W.frozen? ⟨w.heap.size, 2, none⟩ = false := by
  have e := box_heap h
  refine ⟨?_, ?_, ?_, ?_, ?_, ?_⟩ <;> simp [World.cell?, World.frozen?, e]
theorem set_below {B : Nat} {w W : World} (h : Below B w W) (g i : Nat) (hg : B ≤ g) (v : Value) : Below B w (W.setCell ⟨g, i, none⟩ v) := h.trans (Below.setCell (Below.refl _ _) hg v)
theorem set3 {w W : World} (h : Below w.heap.size w W) (a b c : Value) : Below w.heap.size w (((W.setCell ⟨w.heap.size, 0, none⟩ a).setCell ⟨w.heap.size, 1, none⟩ b).setCell ⟨w.heap.size, 2, none⟩ c) :=
  set_below (set_below (set_below h _ _ (Nat.le_refl _) _) _ _ (Nat.le_refl _) _) _ _ (Nat.le_refl _) _
theorem drewN_below (w : World) (n : Nat) : Below w.heap.size w (w.drewN n) := ⟨rfl, rfl, rfl, Nat.le_refl _, fun _ _ => rfl⟩
/-- The interface value of an error at a. -/
abbrev errV (a : Addr) : Value := .iface 112 (.pointer (some a))
/-- Variable g holds an error at a, with this text. -/
structure ErrAt (W : World) (g : Nat) (a : Addr) (t : ByteArray) : Prop where
  glob : W.cell? ⟨g, 0, none⟩ = some (errV a)
  cell : W.cell? a = some (.string t)
  lg : g < W.heap.size
  la : a.block < W.heap.size
theorem ErrAt.next {w w' : World} {g : Nat} {a : Addr} {t : ByteArray} (h : ErrAt w g a t) (hb : Below w.heap.size w w') : ErrAt w' g a t :=
  ⟨(hb.cell (p := ⟨g, 0, none⟩) h.lg).trans h.glob, (hb.cell (p := a) h.la).trans h.cell, Nat.lt_of_lt_of_le h.lg hb.size, Nat.lt_of_lt_of_le h.la hb.size⟩
def wType : ByteArray := ⟨#[116, 121, 112, 101]⟩
def wDiv : ByteArray := ⟨#[100, 105, 118, 105, 100, 101]⟩
def wLong : ByteArray := ⟨#[108, 111, 110, 103]⟩
abbrev wNone : ByteArray := ⟨#[]⟩
/-- The value of a bool. -/
abbrev boolV (b : Bool) : Value := val 1 (if b then 1 else 0) wNone
set_option maxHeartbeats 1000000 in
theorem answer_nil (t n : Int) (s : ByteArray) (w : World) :
    Calls Tryd.prog 19 #[val t n s, .nilIface] w fun e w' => e = .returned (.tuple #[val t n s, .string wNone]) ∧ Below w.heap.size w w' := by
  go_enter Tryd.func19, Tryd.ntmps19
  go_wp2
  exact bodyPost_ret (v := .tuple #[val t n s, .string wNone]) (by simp [results, Tryd.results19, go_sem]) rfl ⟨rfl, alloc2 _ _ _⟩
set_option maxHeartbeats 1000000 in
theorem error_any (a : Addr) (t : ByteArray) (w : World) (h : w.cell? a = some (.string t)) :
    Calls Tryd.prog 115 #[.pointer (some a)] w fun e w' => e = .returned (.string t) ∧ w' = w := by
  go_enter Tryd.func115, Tryd.ntmps115
  go_wp2
  go_ret
  exact ⟨rfl, rfl⟩
theorem mErr (a : Addr) (w : World) : (method 247 112 (.pointer (some a)) "Error").run Tryd.prog w = .ok (115, .pointer (some a)) w := by kernel_rfl
theorem cErr (a : Addr) (w : World) : (callFunc 115 #[.pointer (some a)]).run Tryd.prog w = .ok (.enter 115 #[.pointer (some a)]) w := by kernel_rfl
set_option maxHeartbeats 1000000 in
theorem answer_err (t n : Int) (s : ByteArray) (a : Addr) (x : ByteArray) (w : World) (h : w.cell? a = some (.string x)) (hl : a.block < w.heap.size) :
    Calls Tryd.prog 19 #[val t n s, errV a] w fun e w' => e = .returned (.tuple #[val 0 0 wNone, .string x]) ∧ Below w.heap.size w w' := by
  have HE : Hid (∀ W, Below w.heap.size w W → Calls Tryd.prog 115 #[.pointer (some a)] W fun e w' => e = .returned (.string x) ∧ w' = W) := fun W hb => error_any a x W ((hb.cell (p := a) hl).trans h)
  clear h hl
  have m1 := mErr a
  have m2 := cErr a
  go_enter Tryd.func19, Tryd.ntmps19
  go_wp2_with fail
  refine (HE.out _ (alloc2 _ _ _)).mono ?_
  rintro e w' ⟨rfl, rfl⟩
  go_wp2
  exact bodyPost_ret (v := .tuple #[val 0 0 wNone, .string x]) (by simp [results, Tryd.results19, go_sem]) rfl ⟨rfl, by first | exact alloc2 _ _ _ | exact alloc3 _ _ _ _⟩
end Go.Proofs.YtabefhpgeaihgaaDoor.V
