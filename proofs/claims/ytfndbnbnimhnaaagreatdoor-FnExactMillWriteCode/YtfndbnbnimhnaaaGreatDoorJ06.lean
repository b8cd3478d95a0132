import Derived.WalkKit
import Derived.WalkSpells
import Derived.WalkLawsBesides
import Derived.Deep.QuietTactic
import Derived.BigQuiet
import Derived.Lib.Bytealg
import Derived.Lib.Strings
import Derived.BigCall
import Derived.Shelf.Abstract
import Derived.Test.YtfndbnbnimhnaaaGreatDoorJ05
namespace Go.Proofs.YtfndbnbnimhnaaaGreatDoor.Q
open Go.RowKit Go.Shelf
set_option maxRecDepth 20000

theorem ret_bool {a b : Bool} (h : a = b) : Ending.returned (.bool a) = .returned (.bool b) := by rw [h]
theorem ret_int {k : IntKind} {a b : Int} (h : a = b) : Ending.returned (.int k a) = .returned (.int k b) := by rw [h]
theorem head_eq (s : ByteArray) (hp : 0 < s.size) : s.data.toList = s[0] :: s.data.toList.tail := by
  match s, hp with
  | ⟨⟨c :: r⟩⟩, _ => rfl
  | ⟨⟨[]⟩⟩, h => exact absurd h (by decide)
theorem len_size (s : ByteArray) : s.data.toList.length = s.size := by simp
theorem notEmpty (s : ByteArray) (hp : 0 < s.size) : s.toList.isEmpty = false := by
  rw [Lib.toList_data, head_eq s hp]; rfl
theorem get_eq (s : ByteArray) (k : Nat) (h : k < s.size) : s.data.toList[k]'(by rw [len_size]; exact h) = s[k] := rfl
theorem bytes_eq {a b : ByteArray} (h : (a.toList == b.toList) = true) : a = b := by
  rw [Lib.toList_data, Lib.toList_data, beq_iff_eq] at h
  exact ByteArray.ext (Array.toList_inj.1 h)
theorem cell_new_row (w : World) (cs : Array Value) (t : TypeId) (i : Nat) : (w.alloc (.cells cs t)).cell? ⟨w.heap.size, i, none⟩ = cs[i]? := by
  have h := heap_alloc_new w (.cells cs t)
  unfold World.cell?
  rw [h]; rfl
theorem hid {p : Prop} (h : p) : Hid p := h
theorem own_base {w : World} {B B' e size k : Nat} {v : Value} {xs : List Value} (h : w.ownsRow B e size v k xs) (hB : B' ≤ B) : w.ownsRow B' e size v k xs := by
  obtain ⟨h1, h2 | ⟨g, cap, cur, a, b, c⟩⟩ := h
  · exact ⟨h1, .inl h2⟩
  · exact ⟨h1, .inr ⟨g, cap, cur, a, Nat.le_trans hB b, c⟩⟩
theorem find_none (s : ByteArray) (es : List MapEntry) (i : Nat) (h : ∀ e ∈ es, ∃ t, e.key = .string t ∧ (s == t) = false) : Instr.findNow .string (.string s) es i = some none := by
  induction es generalizing i with
  | nil => rfl
  | cons e es ih =>
    obtain ⟨t, ht, hne⟩ := h e (List.mem_cons_self ..)
    unfold Instr.findNow
    rw [ht]
    simp only [Instr.sameNow, hne]
    exact ih (i + 1) fun x hx => h x (List.mem_cons_of_mem _ hx)
theorem set_last {α : Type} (a : Array α) (x y : α) : (a.push x).setIfInBounds a.size y = a.push y := by
  apply Array.ext
  · simp
  · intro i h1 h2
    rw [Array.getElem_setIfInBounds (by simpa using h1), Array.getElem_push, Array.getElem_push]
    by_cases h : a.size = i
    · subst h; simp
    · rw [if_neg h]
      simp at h1
      rw [dif_pos (by omega), dif_pos (by omega)]
theorem let_mlt (c : Int) : let_ c = (mlt c || dig c || c == 95) := by
  unfold let_ beg mlt; generalize dig c = d; cases d <;> rw [Bool.eq_iff_iff] <;> simp
theorem str_eq (a : List UInt8) (s : ByteArray) : ((⟨a.toArray⟩ : ByteArray).toList == s.toList) = decide (a = s.data.toList) := by
  rw [Lib.toList_data, Lib.toList_data, Bool.eq_iff_iff]; simp
theorem not_mem_get (xs : List (List UInt8)) (t : List UInt8) (h : ∀ i, i < xs.length → xs.getD i [] ≠ t) : ¬ t ∈ xs := fun hm => by
  obtain ⟨i, hi, e⟩ := (mem_get xs t).1 hm
  exact h i hi e
theorem mem_mws (x : List UInt8) : x ∈ mws ↔ x ∈ tws ∨ x ∈ pws ∨ x ∈ bws := by
  unfold mws; simp only [List.mem_append]
  constructor
  · rintro ((h | h) | h)
    · exact .inl h
    · exact .inr (.inl h)
    · exact .inr (.inr h)
  · rintro (h | h | h)
    · exact .inl (.inl h)
    · exact .inl (.inr h)
    · exact .inr h
/-- The call answered a bool, and the bool says whether P. -/
def Says (e : Ending) (P : Prop) : Prop := ∃ b, e = .returned (.bool b) ∧ (b = true ↔ P)
theorem says_t {P : Prop} (h : P) : Says (.returned (.bool true)) P := ⟨true, rfl, by simp [h]⟩
theorem says_f {P : Prop} (h : ¬ P) : Says (.returned (.bool false)) P := ⟨false, rfl, by simp [h]⟩
theorem Says.get {e : Ending} {P : Prop} (h : Says e P) : e = .returned (.bool true) ∧ P ∨ e = .returned (.bool false) ∧ ¬ P := by
  obtain ⟨b, rfl, hb⟩ := h
  cases b
  · exact .inr ⟨rfl, fun h => by simp [h] at hb⟩
  · exact .inl ⟨rfl, hb.1 rfl⟩
theorem below_drewN {B : Nat} {w w' : World} (h : Below B w w') (n : Nat) : Below B w (w'.drewN n) := by
  induction n with
  | zero => exact h
  | succ n ih => exact ih.drew
theorem Says.pos {e : Ending} {P : Prop} (h : Says e P) (hp : P) : e = .returned (.bool true) := by
  rcases h.get with ⟨h1, _⟩ | ⟨_, h2⟩
  · exact h1
  · exact absurd hp h2
theorem Says.of {e : Ending} {P Q : Prop} (h : Says e P) (hq : P ↔ Q) : Says e Q := by
  obtain ⟨b, h1, h2⟩ := h
  exact ⟨b, h1, h2.trans hq⟩
end Go.Proofs.YtfndbnbnimhnaaaGreatDoor.Q
