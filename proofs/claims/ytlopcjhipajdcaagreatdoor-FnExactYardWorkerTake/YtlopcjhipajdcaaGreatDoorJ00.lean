import Derived.Test.YtlopcjhipajdcaaGreatDoorChecked
import Derived.WalkKit
import Derived.WalkSpells
import Derived.WalkLawsBesides
import Derived.OwnWalk
import Derived.Deep.QuietTactic
import Derived.BigQuiet
import Derived.Lib.Bytealg
import Derived.Lib.Strings
import Derived.BigCall
namespace Go.Proofs.YtlopcjhipajdcaaGreatDoor.J
open Go.RowKit
set_option maxRecDepth 20000

theorem ret_int {k : IntKind} {a b : Int} (h : a = b) : Ending.returned (.int k a) = .returned (.int k b) := by rw [h]
theorem len_size (s : ByteArray) : s.data.toList.length = s.size := by simp
theorem bytes_eq {a b : ByteArray} (h : (a.toList == b.toList) = true) : a = b := by
  rw [Lib.toList_data, Lib.toList_data, beq_iff_eq] at h
  exact ByteArray.ext (Array.toList_inj.1 h)
theorem cell_new_row (w : World) (cs : Array Value) (t : TypeId) (i : Nat) : (w.alloc (.cells cs t)).cell? ⟨w.heap.size, i, none⟩ = cs[i]? := by
  have h := heap_alloc_new w (.cells cs t)
  unfold World.cell?
  rw [h]; rfl
theorem hid {p : Prop} (h : p) : Hid p := h
theorem own_below {w w1 : World} {B e size k : Nat} {v : Value} {xs : List Value} (h : w.ownsRow B e size v k xs) (hb : Below w.heap.size w w1) : w1.ownsRow B e size v k xs := by
  obtain ⟨h1, h2 | ⟨g, cap, cur, a, b, c, d⟩⟩ := h
  · exact ⟨h1, .inl h2⟩
  · refine ⟨h1, .inr ⟨g, cap, cur, a, b, ?_, d⟩⟩
    have hg : g < w.heap.size := (Array.getElem?_eq_some_iff.1 c).1
    rw [hb.block g hg]; exact c
/-- The call answered a bool, and the bool says whether P. -/
def Says (e : Ending) (P : Prop) : Prop := ∃ b, e = .returned (.bool b) ∧ (b = true ↔ P)
theorem says_t {P : Prop} (h : P) : Says (.returned (.bool true)) P := ⟨true, rfl, by simp [h]⟩
theorem says_f {P : Prop} (h : ¬ P) : Says (.returned (.bool false)) P := ⟨false, rfl, by simp [h]⟩
theorem Says.get {e : Ending} {P : Prop} (h : Says e P) : e = .returned (.bool true) ∧ P ∨ e = .returned (.bool false) ∧ ¬ P := by
  obtain ⟨b, rfl, hb⟩ := h
  cases b
  · exact .inr ⟨rfl, fun h => by simp [h] at hb⟩
  · exact .inl ⟨rfl, hb.1 rfl⟩
theorem add_block (a : Addr) (n : Nat) : (a.add n).block = a.block := by unfold Addr.add; split <;> rfl
theorem below_two' (w : World) (a b : Obj) : Below w.heap.size w ((w.alloc a).alloc b) := ((Below.refl _ _).alloc (Nat.le_refl _) a).alloc (by simp) b
theorem set_at {W : World} {g i : Nat} {cur : Array Value} {t : TypeId} (v : Value) (h : W.heap[g]? = some (.cells cur t (0, 0))) : (W.setCell ⟨g, i, none⟩ v).heap[g]? = some (.cells (cur.setIfInBounds i v) t (0, 0)) := by
  unfold World.setCell
  simp only [Array.getElem?_modify, h]
  simp
theorem below_set {B : Nat} {w w' : World} (h : Below B w w') (g i : Nat) (hg : B ≤ g) (v : Value) : Below B w (w'.setCell ⟨g, i, none⟩ v) := h.setCell hg v
theorem add_one (a : Addr) (n : Nat) (h : n ≠ 0) : a.add n = ⟨a.block, a.off + n, none⟩ := by unfold Addr.add; rw [if_neg h]
theorem Says.pos {e : Ending} {P : Prop} (h : Says e P) (hp : P) : e = .returned (.bool true) := by
  rcases h.get with ⟨h, _⟩ | ⟨_, h⟩
  · exact h
  · exact absurd hp h
theorem Says.neg {e : Ending} {P : Prop} (h : Says e P) (hp : ¬ P) : e = .returned (.bool false) := by
  rcases h.get with ⟨_, h⟩ | ⟨h, _⟩
  · exact absurd h hp
  · exact h
theorem below_drewN {B : Nat} {w w' : World} (h : Below B w w') (n : Nat) : Below B w (w'.drewN n) := by
  induction n with
  | zero => exact h
  | succ n ih => exact ih.drew
/-- A world behind w in which all that lay in w is as it was. -/
structure Gr (w : World) where
  W : World
  h : Below w.heap.size w W
theorem wp_region_gr {P : Program} {id : Nat} {Q : Exit → Act → World → Prop} {a : Act} {w : World} {l : List Oper} (hm : P.follows .mixedOrders = true) (hB : Region.lexB .any l.toArray = true)
    (h : wpQuiet P l.toArray (fun w' => ∃ p : Gr w, w' = p.W) (fun a' => ∀ w', (∃ p : Gr w, w' = p.W) → Q .normal a' w') l a) : (Code.region id l.toArray true).wp P Q a w :=
  wp_region_quiet (C := fun w' => ∃ p : Gr w, w' = p.W) hm hB ⟨⟨w.drew, (Below.refl _ _).drew⟩, rfl⟩ (by simpa using h)
theorem Calls.gr_of {P : Program} {f : FuncId} {args : Array Value} {w : World} {p : Gr w} {v : Value} (h : Below w.heap.size w p.W → Calls P f args p.W fun e w' => e = .returned v ∧ Below p.W.heap.size p.W w') :
    Calls P f args p.W fun e w'' => e = .returned v ∧ ∃ p : Gr w, w'' = p.W :=
  (h p.h).mono fun _ w' ⟨he, hb⟩ => ⟨he, ⟨w', p.h.trans (hb.mono p.h.size)⟩, rfl⟩
theorem add_at (g j : Nat) : (⟨g, 0, none⟩ : Addr).add j = ⟨g, j, none⟩ := by cases j <;> simp [Addr.add]
end Go.Proofs.YtlopcjhipajdcaaGreatDoor.J
