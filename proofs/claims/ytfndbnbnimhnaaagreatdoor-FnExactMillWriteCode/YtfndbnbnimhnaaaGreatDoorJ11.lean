import Derived.Test.YtfndbnbnimhnaaaGreatDoorJ10
/-! The model's built words: what they ask for. -/
namespace Go.Proofs.YtfndbnbnimhnaaaGreatDoor.C
open Go.RowKit
set_option maxRecDepth 20000
/-- Numbers in a row from some place on. -/
def IntPart (W : World) (v : Value) (l : List Int) : Prop := ∃ (ad : Option Addr) (c : Nat), v = .slice ad l.length c ∧ (l = [] ∨ ∃ g o, ad = some ⟨g, o, none⟩ ∧ g < W.heap.size ∧ ∀ i, i < l.length → W.cell? ⟨g, o + i, none⟩ = some (.int .i64 (l.getD i 0)))
theorem IntPart.next {W V : World} {v : Value} {l : List Int} (h : IntPart W v l) (hb : Below W.heap.size W V) : IntPart V v l := by
  obtain ⟨ad, c, e, h3⟩ := h
  refine ⟨ad, c, e, ?_⟩
  rcases h3 with h3 | ⟨g, o, e1, e2, e3⟩
  · exact .inl h3
  · exact .inr ⟨g, o, e1, Nat.lt_of_lt_of_le e2 hb.size, fun i hi => (hb.cell (p := ⟨g, o + i, none⟩) e2).trans (e3 i hi)⟩
theorem IntRow.part {W : World} {v : Value} {l : List Int} (h : IntRow W v l) : IntPart W v l := by
  obtain ⟨ad, c, e, _, _, h3⟩ := h
  refine ⟨ad, c, e, ?_⟩
  rcases h3 with h3 | ⟨g, cur, e1, e2, e3⟩
  · exact .inl h3
  · exact .inr ⟨g, 0, e1, lt_hp e2, fun i hi => by rw [Nat.zero_add]; exact (cell_hp e2 i).trans (e3 i hi)⟩
/-- The model has TypeNone where each integer type may stand. -/
def mw (a : Int) : Int := if a = -1 then 0 else a
def WantEnd (op : Int) (w : World) (e : Ending) (w' : World) : Prop := ∃ v, e = .returned (.tuple #[v, .int .i64 (sig op).2]) ∧ IntRow w' v ((sig op).1.map mw) ∧ Below w.heap.size w w'
theorem want_lit (op : Int) (w : World) (l : List Int) (g : Int) (hs : sig op = (l, g)) (hl : l.length ≤ 3) : WantEnd op w (.returned (.tuple #[.slice (some ⟨w.heap.size, 0, none⟩) l.length l.length, .int .i64 g])) (w.alloc (.cells ((l.map mw).map fun x => Value.int .i64 x).toArray 3)) := by
  refine ⟨_, by rw [hs], ?_, (Below.refl _ _).alloc (Nat.le_refl _) _⟩
  have := IntRow.lit w (l.map mw) (by simp; omega)
  rw [hs]
  simpa using this
set_option maxHeartbeats 4000000 in
theorem l12Wants_any (op : Int) (w : World) (h1 : 1 ≤ op) (h2 : op ≤ 12) : Calls Tryz.prog 138 #[.int .i64 op] w (WantEnd op w) := by
  obtain rfl | rfl | rfl | rfl | rfl | rfl | rfl | rfl | rfl | rfl | rfl | rfl : op = 1 ∨ op = 2 ∨ op = 3 ∨ op = 4 ∨ op = 5 ∨ op = 6 ∨ op = 7 ∨ op = 8 ∨ op = 9 ∨ op = 10 ∨ op = 11 ∨ op = 12 := by omega
  all_goals
    clear h1 h2
    go_enter Tryz.func138, Tryz.ntmps138
    go_wp2
    go_ret2
  · exact want_lit 1 w [2] 2 (by simp [sig]) (by simp)
  · exact want_lit 2 w [2] 1 (by simp [sig]) (by simp)
  · exact want_lit 3 w [2] 2 (by simp [sig]) (by simp)
  · exact want_lit 4 w [2, 2] 2 (by simp [sig]) (by simp)
  · exact want_lit 5 w [] 2 (by simp [sig]) (by simp)
  · exact want_lit 6 w [2] 10 (by simp [sig]) (by simp)
  · exact want_lit 7 w [2, 10] 3 (by simp [sig]) (by simp)
  · exact want_lit 8 w [2, 10, 10] 2 (by simp [sig]) (by simp)
  · exact want_lit 9 w [2, 2] 10 (by simp [sig]) (by simp)
  · exact want_lit 10 w [3] 2 (by simp [sig]) (by simp)
  · exact want_lit 11 w [-1] 2 (by simp [sig]) (by simp)
  · exact want_lit 12 w [2] 10 (by simp [sig]) (by simp)
theorem fitL_iff : ∀ a l : List Int, fitL a l = true ↔ a.length = l.length ∧ ∀ i, i < a.length → fitK (a.getD i 0) (l.getD i 0) = true
  | [], [] => by simp [fitL]
  | [], _ :: _ => by simp [fitL]
  | _ :: _, [] => by simp [fitL]
  | x :: a, y :: l => by
    have ih := fitL_iff a l
    simp only [fitL, Bool.and_eq_true, ih, List.length_cons]
    constructor
    · rintro ⟨h1, h2, h3⟩
      refine ⟨by omega, fun i hi => ?_⟩
      cases i with
      | zero => exact h1
      | succ i => exact h3 i (by omega)
    · rintro ⟨h1, h2⟩
      exact ⟨h2 0 (by omega), by omega, fun i hi => h2 (i + 1) (by omega)⟩
theorem fit_iff {a k : Int} (ha : a = -1 ∨ 1 ≤ a) (hk : 1 ≤ k) : fitK a k = true ↔ ¬ (¬ k = mw a ∧ (¬ mw a = 0 ∨ isI k = false)) := by
  unfold fitK mw
  by_cases h : a = -1
  · subst h
    simp
    constructor
    · rintro (h | h)
      · omega
      · intro _; exact h
    · intro h2
      exact .inr (h2 (by omega))
  · rw [if_neg h]
    have : ¬ a = 0 := by omega
    simp [h, this]
    omega
theorem sig_asks (op : Int) : ∀ x ∈ (sig op).1, x = -1 ∨ 1 ≤ x := by
  unfold sig; (repeat' split) <;> simp
def builtG (op : Int) (l : List Int) : Int := if fitL (sig op).1 l = true then (sig op).2 else 0
end Go.Proofs.YtfndbnbnimhnaaaGreatDoor.C
