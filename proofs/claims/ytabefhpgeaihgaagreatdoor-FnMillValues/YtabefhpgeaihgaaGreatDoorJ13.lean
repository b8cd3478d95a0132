import Derived.Deep.RegionHeld3
import Derived.Shelf.Strings.Search3
import Derived.Lib.Index
import Derived.Lib.Strings
import Derived.Test.YtabefhpgeaihgaaGreatDoorJ03
/-! Errors that lie in package variables. -/
namespace Go.Proofs.YtabefhpgeaihgaaGreatDoor.V
open Go.RowKit Go.Shelf
set_option maxRecDepth 20000
theorem box_heap {w W : World} {o : Obj} (h : Below (w.heap.size + 1) (w.alloc o) W) : W.heap[w.heap.size]? = some o := by
  rw [h.block w.heap.size (by omega)]
  exact heap_alloc_new w o
theorem box_below {w W : World} {o : Obj} (h : Below (w.heap.size + 1) (w.alloc o) W) : Below w.heap.size w W := (alloc_below w o).trans (h.mono (by omega))
theorem box_next {w W V : World} {o : Obj} (h : Below (w.heap.size + 1) (w.alloc o) W) (k : Below W.heap.size W V) : Below (w.heap.size + 1) (w.alloc o) V := h.trans (k.mono (by have := h.size; simpa using this))
/-- A box of three cells stands, and can be written. -/
theorem box_room {w W : World} {a b c : Value} {ty : TypeId} (h : Below (w.heap.size + 1) (w.alloc (.cells #[a, b, c] ty)) W) :
    W.cell? ⟨w.heap.size, 0, none⟩ = some a ∧ W.cell? ⟨w.heap.size, 1, none⟩ = some b ∧ W.cell? ⟨w.heap.size, 2, none⟩ = some c ∧
    W.frozen? ⟨w.heap.size, 0, none⟩ = false ∧ W.frozen? ⟨w.heap.size, 1, none⟩ = false ∧ W.frozen? ⟨w.heap.size, 2, none⟩ = false := by
  have e := box_heap h
  refine ⟨?_, ?_, ?_, ?_, ?_, ?_⟩ <;> simp [World.cell?, World.frozen?, e]
theorem set_below {B : Nat} {w W : World} (h : Below B w W) (g i : Nat) (hg : B ≤ g) (v : Value) : Below B w (W.setCell ⟨g, i, none⟩ v) := h.trans (Below.setCell (Below.refl _ _) hg v)
theorem set3 {w W : World} (h : Below w.heap.size w W) (a b c : Value) : Below w.heap.size w (((W.setCell ⟨w.heap.size, 0, none⟩ a).setCell ⟨w.heap.size, 1, none⟩ b).setCell ⟨w.heap.size, 2, none⟩ c) :=
  set_below (set_below (set_below h _ _ (Nat.le_refl _) _) _ _ (Nat.le_refl _) _) _ _ (Nat.le_refl _) _
theorem drewN_below (w : World) (n : Nat) : Below w.heap.size w (w.drewN n) := ⟨rfl, rfl, rfl, Nat.le_refl _, fun _ _ => rfl⟩
/-- The interface value of an error at a. -/
abbrev errV (a : Addr) : Value := .iface 160 (.pointer (some a))
/-- Variable g holds an error at a, with this text. -/
structure ErrAt (W : World) (g : Nat) (a : Addr) (t : ByteArray) : Prop where
  glob : W.cell? ⟨g, 0, none⟩ = some (errV a)
  cell : W.cell? a = some (.string t)
  lg : g < W.heap.size
  la : a.block < W.heap.size
theorem ErrAt.next {w w' : World} {g : Nat} {a : Addr} {t : ByteArray} (h : ErrAt w g a t) (hb : Below w.heap.size w w') : ErrAt w' g a t :=
  ⟨(hb.cell (p := ⟨g, 0, none⟩) h.lg).trans h.glob, (hb.cell (p := a) h.la).trans h.cell, Nat.lt_of_lt_of_le h.lg hb.size, Nat.lt_of_lt_of_le h.la hb.size⟩
def wType : ByteArray := ⟨#[116, 121, 112, 101]⟩
def wDiv : ByteArray := ⟨#[100, 105, 118, 105, 100, 101]⟩
def wLong : ByteArray := ⟨#[108, 111, 110, 103]⟩
abbrev wNone : ByteArray := ⟨#[]⟩
/-- The value of a bool. -/
abbrev boolV (b : Bool) : Value := val 1 (if b then 1 else 0) wNone
set_option maxHeartbeats 1000000 in
theorem answer_nil (t n : Int) (s : ByteArray) (w : World) :
    Calls Tryz.prog 17 #[val t n s, .nilIface] w fun e w' => e = .returned (.tuple #[val t n s, .string wNone]) ∧ Below w.heap.size w w' := by
  go_enter Tryz.func17, Tryz.ntmps17
  go_wp2
  exact bodyPost_ret (v := .tuple #[val t n s, .string wNone]) (by simp [results, Tryz.results17, go_sem]) rfl ⟨rfl, alloc2 _ _ _⟩
set_option maxHeartbeats 1000000 in
theorem error_any (a : Addr) (t : ByteArray) (w : World) (h : w.cell? a = some (.string t)) :
    Calls Tryz.prog 167 #[.pointer (some a)] w fun e w' => e = .returned (.string t) ∧ w' = w := by
  go_enter Tryz.func167, Tryz.ntmps167
  go_wp2
  go_ret
  exact ⟨rfl, rfl⟩
theorem mErr (a : Addr) (w : World) : (method 294 160 (.pointer (some a)) "Error").run Tryz.prog w = .ok (167, .pointer (some a)) w := by kernel_rfl
theorem cErr (a : Addr) (w : World) : (callFunc 167 #[.pointer (some a)]).run Tryz.prog w = .ok (.enter 167 #[.pointer (some a)]) w := by kernel_rfl
set_option maxHeartbeats 1000000 in
theorem answer_err (t n : Int) (s : ByteArray) (a : Addr) (x : ByteArray) (w : World) (h : w.cell? a = some (.string x)) (hl : a.block < w.heap.size) :
    Calls Tryz.prog 17 #[val t n s, errV a] w fun e w' => e = .returned (.tuple #[val 0 0 wNone, .string x]) ∧ Below w.heap.size w w' := by
  have HE : Hid (∀ W, Below w.heap.size w W → Calls Tryz.prog 167 #[.pointer (some a)] W fun e w' => e = .returned (.string x) ∧ w' = W) := fun W hb => error_any a x W ((hb.cell (p := a) hl).trans h)
  clear h hl
  have m1 := mErr a
  have m2 := cErr a
  go_enter Tryz.func17, Tryz.ntmps17
  go_wp2_with fail
  refine (HE.out _ (alloc2 _ _ _)).mono ?_
  rintro e w' ⟨rfl, rfl⟩
  go_wp2
  exact bodyPost_ret (v := .tuple #[val 0 0 wNone, .string x]) (by simp [results, Tryz.results17, go_sem]) rfl ⟨rfl, by first | exact alloc2 _ _ _ | exact alloc3 _ _ _ _⟩
end Go.Proofs.YtabefhpgeaihgaaGreatDoor.V
/-! Boxes of what came in and of what is answered. -/
namespace Go.Proofs.YtabefhpgeaihgaaGreatDoor.V
open Go.RowKit Go.Shelf
set_option maxRecDepth 20000
/-- What is answered: a value and a word. -/
abbrev ans (t n : Int) (s x : ByteArray) : Value := .tuple #[val t n s, .string x]
theorem heap_new (w : World) (o : Obj) : (w.alloc o).heap[w.heap.size]? = some o := heap_alloc_new w o
theorem heap_old {w : World} {o x : Obj} {g : Nat} (h : w.heap[g]? = some x) : (w.alloc o).heap[g]? = some x := by
  rw [Below.heap_alloc w o g (Array.getElem?_eq_some_iff.1 h).1]; exact h
/-- Three cells of a block that stands. -/
theorem cells_at {B g : Nat} {w W : World} {a b c : Value} {ty : TypeId} (h : Below B w W) (hg : g < B) (e : w.heap[g]? = some (.cells #[a, b, c] ty)) :
    W.cell? ⟨g, 0, none⟩ = some a ∧ W.cell? ⟨g, 1, none⟩ = some b ∧ W.cell? ⟨g, 2, none⟩ = some c := by
  have e2 : W.heap[g]? = some (.cells #[a, b, c] ty) := (h.block g hg).trans e
  refine ⟨?_, ?_, ?_⟩ <;> simp [World.cell?, e2]
theorem open_at {B g : Nat} {w W : World} {a b c : Value} {ty : TypeId} (h : Below B w W) (hg : g < B) (e : w.heap[g]? = some (.cells #[a, b, c] ty)) :
    W.frozen? ⟨g, 0, none⟩ = false ∧ W.frozen? ⟨g, 1, none⟩ = false ∧ W.frozen? ⟨g, 2, none⟩ = false := by
  have e2 : W.heap[g]? = some (.cells #[a, b, c] ty) := (h.block g hg).trans e
  refine ⟨?_, ?_, ?_⟩ <;> simp [World.frozen?, e2]
abbrev vbox (t n : Int) (s : ByteArray) : Obj := .cells #[.int .i64 t, .int .i64 n, .string s] 24
/-- One box came in; one is for the answer. -/
def Two (w : World) (t n : Int) (s : ByteArray) (W : World) : Prop := Below (w.heap.size + 2) ((w.alloc (vbox t n s)).alloc (vbox 0 0 wNone)) W
theorem Two.start (w : World) (t n : Int) (s : ByteArray) : Two w t n s ((w.alloc (vbox t n s)).alloc (vbox 0 0 wNone)) := Below.refl _ _
theorem Two.next {w W V : World} {t n : Int} {s : ByteArray} (h : Two w t n s W) (k : Below W.heap.size W V) : Two w t n s V := Below.trans h (k.mono (by have := Below.size h; simpa [Nat.add_assoc] using this))
theorem Two.below {w W : World} {t n : Int} {s : ByteArray} (h : Two w t n s W) : Below w.heap.size w W := (alloc2 w _ _).trans (Below.mono h (by omega))
theorem Two.arg {w W : World} {t n : Int} {s : ByteArray} (h : Two w t n s W) : W.cell? ⟨w.heap.size, 0, none⟩ = some (.int .i64 t) ∧ W.cell? ⟨w.heap.size, 1, none⟩ = some (.int .i64 n) ∧ W.cell? ⟨w.heap.size, 2, none⟩ = some (.string s) :=
  cells_at h (by omega) (heap_old (heap_new w _))
theorem two_e (w : World) (t n : Int) (s : ByteArray) : ((w.alloc (vbox t n s)).alloc (vbox 0 0 wNone)).heap[w.heap.size + 1]? = some (vbox 0 0 wNone) := by
  have := heap_new (w.alloc (vbox t n s)) (vbox 0 0 wNone)
  rwa [World.size_alloc] at this
theorem Two.res {w W : World} {t n : Int} {s : ByteArray} (h : Two w t n s W) : W.cell? ⟨w.heap.size + 1, 0, none⟩ = some (.int .i64 0) ∧ W.cell? ⟨w.heap.size + 1, 1, none⟩ = some (.int .i64 0) ∧ W.cell? ⟨w.heap.size + 1, 2, none⟩ = some (.string wNone) :=
  cells_at h (by omega) (two_e w t n s)
theorem Two.room {w W : World} {t n : Int} {s : ByteArray} (h : Two w t n s W) : W.frozen? ⟨w.heap.size + 1, 0, none⟩ = false ∧ W.frozen? ⟨w.heap.size + 1, 1, none⟩ = false ∧ W.frozen? ⟨w.heap.size + 1, 2, none⟩ = false :=
  open_at h (by omega) (two_e w t n s)
theorem setr {w W : World} {g : Nat} (hg : w.heap.size ≤ g) (h : Below w.heap.size w W) (a b c : Value) : Below w.heap.size w (((W.setCell ⟨g, 0, none⟩ a).setCell ⟨g, 1, none⟩ b).setCell ⟨g, 2, none⟩ c) :=
  set_below (set_below (set_below h _ _ hg _) _ _ hg _) _ _ hg _
theorem keep_box {W V : World} {g : Nat} {o : Obj} (h : W.heap[g]? = some o) (hb : Below W.heap.size W V) : V.heap[g]? = some o := (hb.block g (Array.getElem?_eq_some_iff.1 h).1).trans h
theorem go2 {a b c : World} (h : Below a.heap.size a b) (k : Below b.heap.size b c) : Below a.heap.size a c := h.trans (k.mono h.size)
theorem six {W : World} {g : Nat} {t n : Int} {s : ByteArray} (e : W.heap[g]? = some (vbox t n s)) :
    W.cell? ⟨g, 0, none⟩ = some (.int .i64 t) ∧ W.cell? ⟨g, 1, none⟩ = some (.int .i64 n) ∧ W.cell? ⟨g, 2, none⟩ = some (.string s) ∧ W.frozen? ⟨g, 0, none⟩ = false ∧ W.frozen? ⟨g, 1, none⟩ = false ∧ W.frozen? ⟨g, 2, none⟩ = false := by
  refine ⟨?_, ?_, ?_, ?_, ?_, ?_⟩ <;> simp [World.cell?, World.frozen?, e]
theorem setN_box {W : World} {g : Nat} {t n : Int} {s : ByteArray} (e : W.heap[g]? = some (vbox t n s)) (m : Int) : (W.setCell ⟨g, 1, none⟩ (.int .i64 m)).heap[g]? = some (vbox t m s) := by
  unfold World.setCell
  simp only [Array.getElem?_modify, e]
  simp
end Go.Proofs.YtabefhpgeaihgaaGreatDoor.V
/-! A bool's value, as the program makes it. -/
namespace Go.Proofs.YtabefhpgeaihgaaGreatDoor.V
open Go.RowKit Go.Shelf
set_option maxRecDepth 20000
set_option maxHeartbeats 1000000 in
theorem ofBool_any (b : Bool) (w : World) :
    Calls Tryz.prog 29 #[.bool b] w fun e w' => e = .returned (boolV b) ∧ Below w.heap.size w w' := by
  cases b
  all_goals go_enter Tryz.func29, Tryz.ntmps29
  all_goals go_wp2
  · exact bodyPost_ret (v := boolV false) (by simp [results, Tryz.results29, go_sem]) rfl ⟨rfl, by first | exact alloc_below _ _ | exact alloc2 _ _ _⟩
  · exact bodyPost_ret (v := boolV true) (by simp [results, Tryz.results29, go_sem]) rfl ⟨rfl, by first | exact alloc_below _ _ | exact alloc2 _ _ _⟩
end Go.Proofs.YtabefhpgeaihgaaGreatDoor.V
/-! find, both sides. Printed by gen_vfind.py. -/
namespace Go.Proofs.YtabefhpgeaihgaaGreatDoor.V
open Go.RowKit Go.Shelf
set_option maxRecDepth 20000
theorem len_size (s : ByteArray) : s.data.toList.length = s.size := by simp
def ix_ren : Go.Shelf.Ren := ⟨fun | 143 => 45 | 217 => 92 | 219 => 67 | 224 => 94 | 225 => 93 | 266 => 111 | 267 => 95 | 314 => 112 | n => n, fun | 3 => 3 | 4 => 4 | 5 => 5 | 9 => 9 | 46 => 43 | 51 => 66 | 146 => 134 | n => n, fun | 1 => 5 | n => n⟩
theorem ix_lays : Go.Proofs.Lays.n143 Tryz.prog ix_ren where
  mixed := by kernel_rfl
  f143 := Tryz.func45.trans (congrArg some (by kernel_rfl))
  f217 := Tryz.func92.trans (congrArg some (by kernel_rfl))
  f219 := Tryz.func67.trans (congrArg some (by kernel_rfl))
  f224 := Tryz.func94.trans (congrArg some (by kernel_rfl))
  f225 := Tryz.func93.trans (congrArg some (by kernel_rfl))
  f266 := Tryz.func111.trans (congrArg some (by kernel_rfl))
  f267 := Tryz.func95.trans (congrArg some (by kernel_rfl))
  f314 := Tryz.func112.trans (congrArg some (by kernel_rfl))
  t3 := Tryz.underlying3
  a3 := Tryz.isAgg3
  z3 := Tryz.sizeOf3
  v3 := Tryz.zeroValue3
  t4 := Tryz.underlying4
  a4 := Tryz.isAgg4
  z4 := Tryz.sizeOf4
  v4 := Tryz.zeroValue4
  t5 := Tryz.underlying5
  a5 := Tryz.isAgg5
  z5 := Tryz.sizeOf5
  v5 := Tryz.zeroValue5
  t9 := Tryz.underlying9
  a9 := Tryz.isAgg9
  z9 := Tryz.sizeOf9
  v9 := Tryz.zeroValue9
  t46 := Tryz.underlying43
  a46 := Tryz.isAgg43
  z46 := Tryz.sizeOf43
  v46 := Tryz.zeroValue43
  t51 := Tryz.underlying66
  a51 := Tryz.isAgg66
  z51 := Tryz.sizeOf66
  v51 := Tryz.zeroValue66
  t146 := Tryz.underlying134
  a146 := Tryz.isAgg134
  z146 := Tryz.sizeOf134
  v146 := Tryz.zeroValue134
  g1 := by kernel_rfl
theorem index_any (s x : ByteArray) (m : Int) (hs : s.size ≤ 3000) (w : World) (hm : w.cell? ⟨5, 0, none⟩ = some (.int .i64 m)) :
    Calls Tryz.prog 45 #[.string s, .string x] w fun e w' => e = .returned (.int .i64 (Lib.index s.data.toList x.data.toList)) ∧ w' = w :=
  Go.Proofs.Any.strings_Index ix_lays s x m w (by omega) hm
theorem occ_ex (s x : ByteArray) (i : Nat) (h : i + x.size ≤ s.size) : ((s.extract i (i + x.size)).toList == x.toList) = Lib.occAt s.data.toList x.data.toList i := by
  rw [Lib.occAt_iff_take _ _ _ (by rw [len_size, len_size]; exact h), Lib.extract_toList, Lib.toList_data, len_size, Nat.add_sub_cancel_left]
end Go.Proofs.YtabefhpgeaihgaaGreatDoor.V
