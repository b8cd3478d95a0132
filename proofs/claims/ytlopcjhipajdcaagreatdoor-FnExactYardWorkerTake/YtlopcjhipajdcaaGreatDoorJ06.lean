import Derived.Test.YtlopcjhipajdcaaGreatDoorChecked
import Derived.WalkKit
import Derived.WalkSpells
import Derived.WalkLawsBesides
import Derived.OwnWalk
import Derived.Deep.QuietTactic
import Derived.BigQuiet
import Derived.Lib.Bytealg
import Derived.Lib.Strings
import Derived.BigCall
/-! Boxes, rows, worlds: what the texts on sizes, copies and sameness have in common. -/
namespace Go.Proofs.YtlopcjhipajdcaaGreatDoor.R
open Go.RowKit
set_option maxRecDepth 20000
theorem hid {p : Prop} (h : p) : Hid p := h
theorem ret_int {k : IntKind} {a b : Int} (h : a = b) : Ending.returned (.int k a) = .returned (.int k b) := by rw [h]
theorem add_block (a : Addr) (n : Nat) : (a.add n).block = a.block := by unfold Addr.add; split <;> rfl
theorem add_one (a : Addr) (n : Nat) (h : n ≠ 0) : a.add n = ⟨a.block, a.off + n, none⟩ := by unfold Addr.add; rw [if_neg h]
theorem add_at (g i : Nat) : (⟨g, 0, none⟩ : Addr).add i = ⟨g, i, none⟩ := by
  unfold Addr.add
  split
  · simp_all
  · simp
theorem small {n : Nat} (h : n ≤ maxLen) : n ≤ 9223372036854775807 := by unfold maxLen at h; simpa using h
theorem lt_hp {W : World} {k : Nat} {o : Obj} (h : W.heap[k]? = some o) : k < W.heap.size := (Array.getElem?_eq_some_iff.1 h).1
theorem hp_next {W V : World} {g : Nat} {o : Obj} (h : W.heap[g]? = some o) (hb : Below W.heap.size W V) : V.heap[g]? = some o := (hb.block g (lt_hp h)).trans h
theorem row_room {W : World} {g i : Nat} {cur : Array Value} {t : TypeId} (h : W.heap[g]? = some (.cells cur t (0, 0))) (hi : i < cur.size) :
    (∃ v, W.cell? ⟨g, i, none⟩ = some v) ∧ W.frozen? ⟨g, i, none⟩ = false :=
  ⟨⟨cur[i], by unfold World.cell?; rw [h]; simp [hi]⟩, by unfold World.frozen?; rw [h]; simp⟩
theorem row_cell {W : World} {g : Nat} {cur : Array Value} {t : TypeId} (h : W.heap[g]? = some (.cells cur t (0, 0))) (i : Nat) : W.cell? ⟨g, i, none⟩ = cur[i]? := by
  unfold World.cell?
  rw [h]; rfl
theorem set_at {W : World} {g i : Nat} {cur : Array Value} {t : TypeId} (v : Value) (h : W.heap[g]? = some (.cells cur t (0, 0))) : (W.setCell ⟨g, i, none⟩ v).heap[g]? = some (.cells (cur.setIfInBounds i v) t (0, 0)) := by
  unfold World.setCell
  simp only [Array.getElem?_modify, h]
  simp
theorem set_other (W : World) (g j i : Nat) (v : Value) (h : ¬ i = g) : (W.setCell ⟨g, j, none⟩ v).heap[i]? = W.heap[i]? := by
  unfold World.setCell
  simp only [Array.getElem?_modify]
  rw [if_neg (fun e => h e.symm)]
theorem below_set {B : Nat} {w w' : World} (h : Below B w w') (g i : Nat) (hg : B ≤ g) (v : Value) : Below B w (w'.setCell ⟨g, i, none⟩ v) := h.setCell hg v
theorem below_two' (w : World) (a b : Obj) : Below w.heap.size w ((w.alloc a).alloc b) := ((Below.refl _ _).alloc (Nat.le_refl _) a).alloc (by simp) b
theorem below_drewN {B : Nat} {w w' : World} (h : Below B w w') (n : Nat) : Below B w (w'.drewN n) := by
  induction n with
  | zero => exact h
  | succ n ih => exact ih.drew
/-- A box that lies where w ended. -/
structure B1 (w : World) (o : Obj) (W : World) : Prop where
  lo : Below w.heap.size w W
  e : W.heap[w.heap.size]? = some o
theorem B1.start (w : World) (o : Obj) : B1 w o (w.alloc o) := ⟨(Below.refl _ _).alloc (Nat.le_refl _) _, heap_alloc_new _ _⟩
theorem B1.next {w W V : World} {o : Obj} (h : B1 w o W) (hb : Below W.heap.size W V) : B1 w o V := ⟨h.lo.trans (hb.mono h.lo.size), hp_next h.e hb⟩
structure B2 (w : World) (o p : Obj) (W : World) : Prop where
  lo : Below w.heap.size w W
  e : W.heap[w.heap.size]? = some o
  f : W.heap[w.heap.size + 1]? = some p
theorem B2.start (w : World) (o p : Obj) : B2 w o p ((w.alloc o).alloc p) := by
  refine ⟨below_two' _ _ _, ?_, ?_⟩
  · rw [Below.heap_alloc _ _ _ (by simp)]
    exact heap_alloc_new w o
  · have := heap_alloc_new (w.alloc o) p
    rwa [World.size_alloc] at this
theorem B2.next {w W V : World} {o p : Obj} (h : B2 w o p W) (hb : Below W.heap.size W V) : B2 w o p V := ⟨h.lo.trans (hb.mono h.lo.size), hp_next h.e hb, hp_next h.f hb⟩
/-- What came in, what is answered, and what is made: three boxes. -/
structure B3 (w : World) (o : Obj) (R O : Array Value) (t : TypeId) (W : World) : Prop where
  lo : Below w.heap.size w W
  e : W.heap[w.heap.size]? = some o
  r : W.heap[w.heap.size + 1]? = some (.cells R t (0, 0))
  o : W.heap[w.heap.size + 1 + 1]? = some (.cells O t (0, 0))
theorem B3.start (w : World) (o : Obj) (R O : Array Value) (t : TypeId) : B3 w o R O t (((w.alloc o).alloc (.cells R t)).alloc (.cells O t)) := by
  have h := B2.start w o (.cells R t)
  refine ⟨h.lo.alloc (by simp; omega) _, ?_, ?_, ?_⟩
  · rw [Below.heap_alloc _ _ _ (by simp; omega)]; exact h.e
  · rw [Below.heap_alloc _ _ _ (by simp)]; exact h.f
  · have := heap_alloc_new ((w.alloc o).alloc (.cells R t)) (.cells O t)
    rwa [World.size_alloc, World.size_alloc] at this
theorem B3.next {w W V : World} {o : Obj} {R O : Array Value} {t : TypeId} (h : B3 w o R O t W) (hb : Below W.heap.size W V) : B3 w o R O t V := ⟨h.lo.trans (hb.mono h.lo.size), hp_next h.e hb, hp_next h.r hb, hp_next h.o hb⟩
theorem B3.set {w W : World} {o : Obj} {R O : Array Value} {t : TypeId} (h : B3 w o R O t W) (i : Nat) (v : Value) : B3 w o R (O.setIfInBounds i v) t (W.setCell ⟨w.heap.size + 1 + 1, i, none⟩ v) :=
  ⟨below_set h.lo _ _ (by omega) _, (set_other _ _ _ _ _ (by omega)).trans h.e, (set_other _ _ _ _ _ (by omega)).trans h.r, set_at v h.o⟩
theorem B3.cast {w W : World} {o : Obj} {R O O' : Array Value} {t : TypeId} (h : B3 w o R O t W) (e : O = O') : B3 w o R O' t W := e ▸ h
theorem B3.sz {w W : World} {o : Obj} {R O : Array Value} {t : TypeId} (h : B3 w o R O t W) : w.heap.size + 3 ≤ W.heap.size := lt_hp h.o
/-- A world behind w in which all that lay in w is as it was. -/
structure Gr (w : World) where
  W : World
  h : Below w.heap.size w W
theorem wp_region_gr {P : Program} {id : Nat} {Q : Exit → Act → World → Prop} {a : Act} {w : World} {l : List Oper} (hm : P.follows .mixedOrders = true) (hB : Region.lexB .any l.toArray = true)
    (h : wpQuiet P l.toArray (fun w' => ∃ p : Gr w, w' = p.W) (fun a' => ∀ w', (∃ p : Gr w, w' = p.W) → Q .normal a' w') l a) : (Code.region id l.toArray true).wp P Q a w :=
  wp_region_quiet (C := fun w' => ∃ p : Gr w, w' = p.W) hm hB ⟨⟨w.drew, (Below.refl _ _).drew⟩, rfl⟩ (by simpa using h)
theorem Calls.gr_of {P : Program} {f : FuncId} {args : Array Value} {w : World} {p : Gr w} {v : Value} (h : Below w.heap.size w p.W → Calls P f args p.W fun e w' => e = .returned v ∧ Below p.W.heap.size p.W w') :
    Calls P f args p.W fun e w'' => e = .returned v ∧ ∃ p : Gr w, w'' = p.W :=
  (h p.h).mono fun _ w' ⟨he, hb⟩ => ⟨he, ⟨w', p.h.trans (hb.mono p.h.size)⟩, rfl⟩
theorem info_parts {i : Option TypeInfo} {z : Value} {s b : Nat} (h : i.map (fun i => (i.zero, i.size, i.bytes)) = some (some z, s, b)) : ∃ j, i = some j ∧ j.zero = some z ∧ j.size = s ∧ j.bytes = b := by
  cases i with
  | none => cases h
  | some j => simp at h; exact ⟨j, rfl, h.1, h.2.1, h.2.2⟩
/-- A contract of a size: what is left. -/
def SzEnd (l : Int) (k : Nat) (w : World) (e : Ending) (w' : World) : Prop := (∃ r, e = .returned (.int .i64 r) ∧ -1 ≤ r ∧ r ≤ l ∧ (0 ≤ r → r + (k : Int) = l)) ∧ Below w.heap.size w w'
end Go.Proofs.YtlopcjhipajdcaaGreatDoor.R
