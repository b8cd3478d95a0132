import Derived.Test.YtfedmbadhcdpdaaGreatDoorJ25
/-! What is wrong with a code, in the model. -/
namespace Go.Proofs.YtfedmbadhcdpdaaGreatDoor.C
open Go.RowKit
set_option maxRecDepth 20000
def Least (fns : List Fn) (f : Fn) (A : Nat → Sh) : Prop := Closed fns f A ∧ Low fns f A
/-- A place is unfit. -/
def Unfit (fns : List Fn) (f : Fn) (A : Nat → Sh) (p : Nat) : Prop := (A p).st ≠ 0 ∧ (behind fns f p (A p)).st = 2
def Fit (fns : List Fn) (f : Fn) : Prop := ∃ A, Least fns f A ∧ ∀ p, p < f.ins.length → ¬ Unfit fns f A p
inductive Chk (fns : List Fn) : Nat → Nat → Nat → Prop
  | plain (c k i : Nat) (h : Plain fns c k i) (h0 : ¬ c = 0) : Chk fns c k i
  | unfit (h : Plain fns 0 0 0) (k i : Nat) (hk : k < fns.length) (hi : i < (fns.getD k fn0).ins.length) (h1 : ∀ j, j < k → Fit fns (fns.getD j fn0)) (A : Nat → Sh) (hA : Least fns (fns.getD k fn0) A) (h2 : ∀ p, p < i → ¬ Unfit fns (fns.getD k fn0) A p) (h3 : Unfit fns (fns.getD k fn0) A i) : Chk fns 5 k i
  | ok (h : Plain fns 0 0 0) (h1 : ∀ j, j < fns.length → Fit fns (fns.getD j fn0)) : Chk fns 0 0 0
theorem unfit_same {fns : List Fn} {f : Fn} {A B : Nat → Sh} (a : Least fns f A) (b : Least fns f B) {p : Nat} (hp : p < f.ins.length) (h : Unfit fns f A p) : Unfit fns f B p := by
  have e := least_unique a.1 a.2 b.1 b.2 p hp
  unfold Unfit at h ⊢
  rw [← e]
  exact h
theorem Chk.uniq {fns : List Fn} {c k i c' k' i' : Nat} (h : Chk fns c k i) (h' : Chk fns c' k' i') : c = c' ∧ k = k' ∧ i = i' := by
  have hz : ∀ {c k i : Nat}, Plain fns c k i → ¬ c = 0 → Plain fns 0 0 0 → False := fun p q r => q (p.uniq r).1
  cases h with
  | plain c k i h h0 =>
    cases h' with
    | plain c' k' i' g g0 => exact h.uniq g
    | unfit g => exact (hz h h0 g).elim
    | ok g => exact (hz h h0 g).elim
  | unfit h k i hk hi h1 A hA h2 h3 =>
    cases h' with
    | plain c' k' i' g g0 => exact (hz g g0 h).elim
    | unfit g k' i' hk' hi' g1 B hB g2 g3 =>
      have no : ∀ {k i : Nat} {A : Nat → Sh}, Fit fns (fns.getD k fn0) → i < (fns.getD k fn0).ins.length → Least fns (fns.getD k fn0) A → Unfit fns (fns.getD k fn0) A i → False := fun ⟨C, hC, hc⟩ hi hA hu => hc _ hi (unfit_same hA hC hi hu)
      rcases Nat.lt_trichotomy k k' with x | x | x
      · exact (no (g1 k x) hi hA h3).elim
      · subst x
        rcases Nat.lt_trichotomy i i' with x | x | x
        · exact absurd (unfit_same hA hB hi h3) (g2 i x)
        · exact ⟨rfl, rfl, x⟩
        · exact absurd (unfit_same hB hA hi' g3) (h2 i' x)
      · exact (no (h1 k' x) hi' hB g3).elim
    | ok g g1 =>
      obtain ⟨C, hC, hc⟩ := g1 k hk
      exact absurd (unfit_same hA hC hi h3) (hc i hi)
  | ok h h1 =>
    cases h' with
    | plain c' k' i' g g0 => exact (hz g g0 h).elim
    | unfit g k' i' hk' hi' g1 B hB g2 g3 =>
      obtain ⟨C, hC, hc⟩ := h1 k' hk'
      exact absurd (unfit_same hB hC hi' g3) (hc i' hi')
    | ok _ _ => exact ⟨rfl, rfl, rfl⟩
theorem plain_right {fns : List Fn} (h : Plain fns 0 0 0) : (∀ g ∈ fns, FnR fns g) ∧ 1 ≤ fns.length ∧ fns.length ≤ 60 := by
  cases h with
  | ok h h0 h1 j hj h2 => exact ⟨plain_R h0 h1, h⟩
structure QX (w : World) (cv : Value) (g n : Nat) (A : Nat → Sh) (W : World) : Prop where
  px : PX w cv W
  row : ShRow W g n A
theorem QX.next {w : World} {cv : Value} {g n : Nat} {A : Nat → Sh} {W V : World} (h : QX w cv g n A W) (hb : Below W.heap.size W V) : QX w cv g n A V := ⟨h.px.next hb, h.row.next hb⟩
end Go.Proofs.YtfedmbadhcdpdaaGreatDoor.C
