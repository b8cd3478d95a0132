import Derived.Test.YtcjgcipacfcjnaaGreatDoorJ17
import Derived.Test.YtcjgcipacfcjnaaGreatDoorJ13
namespace Go.Proofs.YtcjgcipacfcjnaaGreatDoor.C
open Go.RowKit
set_option maxRecDepth 20000
def aB (fns : List Fn) (f : Fn) (op a : Int) : Bool :=
 if op = 1 then inB a 1 10 else if op = 2 ∨ op = 3 then inB a 0 (f.slots - 1) else if op = 5 then inB a 1 3 else if op = 6 then inB a 3 18 else if op = 7 then inB a 3 10 else if op = 8 then inB a 1 12 else if op = 9 then inB a 0 ((fns.length : Int) - 1) else if op = 10 ∨ op = 11 then inB a 0 f.ins.length else if op = 12 then (if f.result = 0 then inB a 0 0 else inB a 1 1) else inB a 0 0
def insB (fns : List Fn) (f : Fn) (i : In) : Bool := inB i.op 1 16 && aB fns f i.op i.a && (if i.op = 1 then V.validB i.a i.n i.text else decide (i.n = 0) && decide (i.text.size = 0))
theorem inB_iff {n lo hi : Int} : inB n lo hi = true ↔ lo ≤ n ∧ n ≤ hi := by simp [inB]
theorem valid_type {t n : Int} {s : ByteArray} (h : V.validB t n s = true) : 1 ≤ t ∧ t ≤ 10 := by
 unfold V.validB at h
 split at h
 ·omega
 ·split at h
  ·omega
  ·simp at h
   omega
theorem insB_R {fns : List Fn} {f : Fn} {i : In} (h : insB fns f i = true) : InsR fns f i := by
 obtain ⟨op, a, n, tx⟩ := i
 simp only [insB, Bool.and_eq_true, inB_iff] at h
 obtain ⟨⟨h1, h2⟩, _⟩ := h
 refine ⟨h1, ?_, ?_, ?_, ?_, ?_, ?_, ?_, ?_, ?_⟩
 ·rintro rfl
  simpa [aB, inB_iff] using h2
 ·rintro (rfl | rfl)
  all_goals
   have : 0 ≤ a ∧ a ≤ f.slots - 1 := by simpa [aB, inB_iff] using h2
   exact ⟨this.1, by show a < f.slots; omega⟩
 ·rintro rfl
  simpa [aB, inB_iff] using h2
 ·rintro rfl
  simpa [aB, inB_iff] using h2
 ·rintro rfl
  simpa [aB, inB_iff] using h2
 ·rintro rfl
  simpa [aB, inB_iff] using h2
 ·rintro rfl
  have : 0 ≤ a ∧ a ≤ (fns.length : Int) - 1 := by simpa [aB, inB_iff] using h2
  exact ⟨this.1, by show a < (fns.length : Int); omega⟩
 ·rintro (rfl | rfl)
  all_goals
   have : 0 ≤ a ∧ a ≤ (f.ins.length : Int) := by simpa [aB, inB_iff] using h2
   exact this
 ·rintro rfl
  by_cases hr : f.result = 0
  ·have : a = 0 := by
    have : 0 ≤ a ∧ a ≤ 0 := by simpa [aB, inB_iff, hr] using h2
    omega
   exact .inr ⟨this, hr⟩
  ·have : a = 1 := by
    have : 1 ≤ a ∧ a ≤ 1 := by simpa [aB, inB_iff, hr] using h2
    omega
   exact .inl ⟨this, hr⟩
structure FnOk (fns : List Fn) (k : Nat) : Prop where
 name : Q.NameOk (fns.getD k fn0).name
 few : (fns.getD k fn0).params.length ≤ 8
 result : 0 ≤ (fns.getD k fn0).result ∧ (fns.getD k fn0).result ≤ 10
 slots : ((fns.getD k fn0).params.length : Int) ≤ (fns.getD k fn0).slots ∧ (fns.getD k fn0).slots ≤ 200
 some_ : 1 ≤ (fns.getD k fn0).ins.length ∧ (fns.getD k fn0).ins.length ≤ 50000
 params : ∀ i, i < (fns.getD k fn0).params.length → 1 ≤ (fns.getD k fn0).params.getD i 0 ∧ (fns.getD k fn0).params.getD i 0 ≤ 10
 once : ∀ i, i < k → ¬ (fns.getD i fn0).name = (fns.getD k fn0).name
def isMain (f : Fn) : Prop := f.name = ⟨#[109, 97, 105, 110]⟩ ∧ f.params.length = 0 ∧ f.result = 2
inductive Plain (fns : List Fn) : Nat → Nat → Nat → Prop
 | many (h : ¬ (1 ≤ fns.length ∧ fns.length ≤ 60)) : Plain fns 1 0 0
 | fn (h : 1 ≤ fns.length ∧ fns.length ≤ 60) (k : Nat) (hk : k < fns.length) (h1 : ∀ j, j < k → FnOk fns j) (h2 : ¬ FnOk fns k) : Plain fns 2 k 0
 | ins (h : 1 ≤ fns.length ∧ fns.length ≤ 60) (h0 : ∀ j, j < fns.length → FnOk fns j) (k i : Nat) (hk : k < fns.length) (hi : i < (fns.getD k fn0).ins.length) (h1 : ∀ j, j < k → ∀ p, p < (fns.getD j fn0).ins.length → insB fns (fns.getD j fn0) ((fns.getD j fn0).ins.getD p in0) = true) (h2 : ∀ p, p < i → insB fns (fns.getD k fn0) ((fns.getD k fn0).ins.getD p in0) = true) (h3 : insB fns (fns.getD k fn0) ((fns.getD k fn0).ins.getD i in0) = false) : Plain fns 3 k i
 | main (h : 1 ≤ fns.length ∧ fns.length ≤ 60) (h0 : ∀ j, j < fns.length → FnOk fns j) (h1 : ∀ j, j < fns.length → ∀ p, p < (fns.getD j fn0).ins.length → insB fns (fns.getD j fn0) ((fns.getD j fn0).ins.getD p in0) = true) (h2 : ∀ j, j < fns.length → ¬ isMain (fns.getD j fn0)) : Plain fns 4 0 0
 | ok (h : 1 ≤ fns.length ∧ fns.length ≤ 60) (h0 : ∀ j, j < fns.length → FnOk fns j) (h1 : ∀ j, j < fns.length → ∀ p, p < (fns.getD j fn0).ins.length → insB fns (fns.getD j fn0) ((fns.getD j fn0).ins.getD p in0) = true) (j : Nat) (hj : j < fns.length) (h2 : isMain (fns.getD j fn0)) : Plain fns 0 0 0
theorem Plain.uniq {fns : List Fn} {c k i c' k' i' : Nat} (h : Plain fns c k i) (h' : Plain fns c' k' i') : c = c' ∧ k = k' ∧ i = i' := by
 cases h with
 | many h =>
  cases h' with
  | many _ => exact ⟨rfl, rfl, rfl⟩
  | fn g => exact absurd g h
  | ins g => exact absurd g h
  | main g => exact absurd g h
  | ok g => exact absurd g h
 | fn h k hk h1 h2 =>
  cases h' with
  | many g => exact absurd h g
  | fn _ k' hk' g1 g2 =>
   rcases Nat.lt_trichotomy k k' with x | x | x
   ·exact absurd (g1 k x) h2
   ·exact ⟨rfl, x, rfl⟩
   ·exact absurd (h1 k' x) g2
  | ins _ g0 => exact absurd (g0 k hk) h2
  | main _ g0 => exact absurd (g0 k hk) h2
  | ok _ g0 => exact absurd (g0 k hk) h2
 | ins h h0 k i hk hi h1 h2 h3 =>
  cases h' with
  | many g => exact absurd h g
  | fn _ k' hk' g1 g2 => exact absurd (h0 k' hk') g2
  | ins _ g0 k' i' hk' hi' g1 g2 g3 =>
   rcases Nat.lt_trichotomy k k' with x | x | x
   ·have := g1 k x i hi; rw [h3] at this; cases this
   ·subst x
    rcases Nat.lt_trichotomy i i' with x | x | x
    ·have := g2 i x; rw [h3] at this; cases this
    ·exact ⟨rfl, rfl, x⟩
    ·have := h2 i' x; rw [g3] at this; cases this
   ·have := h1 k' x i' hi'; rw [g3] at this; cases this
  | main _ _ g1 => have := g1 k hk i hi; rw [h3] at this; cases this
  | ok _ _ g1 => have := g1 k hk i hi; rw [h3] at this; cases this
 | main h h0 h1 h2 =>
  cases h' with
  | many g => exact absurd h g
  | fn _ k' hk' g1 g2 => exact absurd (h0 k' hk') g2
  | ins _ g0 k' i' hk' hi' g1 g2 g3 => have := h1 k' hk' i' hi'; rw [g3] at this; cases this
  | main _ _ _ _ => exact ⟨rfl, rfl, rfl⟩
  | ok _ _ _ j hj g2 => exact absurd g2 (h2 j hj)
 | ok h h0 h1 j hj h2 =>
  cases h' with
  | many g => exact absurd h g
  | fn _ k' hk' g1 g2 => exact absurd (h0 k' hk') g2
  | ins _ g0 k' i' hk' hi' g1 g2 g3 => have := h1 k' hk' i' hi'; rw [g3] at this; cases this
  | main _ _ _ g2 => exact absurd h2 (g2 j hj)
  | ok _ _ _ _ _ _ => exact ⟨rfl, rfl, rfl⟩
theorem mem_getD {α : Type} {l : List α} {d x : α} (h : x ∈ l) : ∃ i, i < l.length ∧ l.getD i d = x := by
 obtain ⟨i, hi, e⟩ := List.getElem_of_mem h
 exact ⟨i, hi, by rw [List.getD_eq_getElem?_getD, List.getElem?_eq_getElem hi]; exact e⟩
theorem plain_R {fns : List Fn} (h0 : ∀ j, j < fns.length → FnOk fns j) (h1 : ∀ j, j < fns.length → ∀ p, p < (fns.getD j fn0).ins.length → insB fns (fns.getD j fn0) ((fns.getD j fn0).ins.getD p in0) = true) : ∀ g ∈ fns, FnR fns g := by
 intro g hg
 obtain ⟨k, hk, rfl⟩ := mem_getD (d := fn0) hg
 have h := h0 k hk
 refine ⟨fun x hx => ?_, h.few, h.result, h.slots, h.some_, fun i hi => ?_⟩
 ·obtain ⟨j, hj, rfl⟩ := mem_getD (d := 0) hx
  exact h.params j hj
 ·obtain ⟨j, hj, rfl⟩ := mem_getD (d := in0) hi
  exact insB_R (h1 k hk j hj)
end Go.Proofs.YtcjgcipacfcjnaaGreatDoor.C
