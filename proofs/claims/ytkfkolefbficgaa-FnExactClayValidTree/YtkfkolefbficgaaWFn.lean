import Derived.Test.YtkfkolefbficgaaWTexts
namespace Go.Proofs.Ytkfkolefbficgaa
open Go.RowKit
set_option maxRecDepth 20000
theorem StandAt.front {W : World} {g o m f : Nat} {st : Nat → Nd} {sh : Nat → Nat} (h : StandAt W g o m st sh) (hf : f ≤ m) : StandAt W g o f st sh := fun i hi => h i (by omega)
theorem StandAt.back {W : World} {g o m f : Nat} {st : Nat → Nd} {sh : Nat → Nat} (h : StandAt W g o m st sh) : StandAt W g (o + f * 6) (m - f) (fun i => st (f + i)) (fun i => sh (f + i)) := fun i hi => by
  have := h (f + i) (by omega)
  rw [show o + (f + i) * 6 = o + f * 6 + i * 6 by omega] at this
  exact this
set_option maxHeartbeats 1000000 in
theorem fnFits_any (g o m c : Nat) (st : Nat → Nd) (sh : Nat → Nat) (w : World) (hm : m ≤ 5000) (h0 : 0 < m) (hcm : m ≤ c) (_hc : c ≤ maxLen) (hg : g < w.heap.size) (hs : StandAt w g o m st sh) :
    Calls Try.prog 32 #[.slice (some ⟨g, o, none⟩) m c] w fun e w' => Says e (1 ≤ m ∧ m ≤ 9 ∧ (∀ i, i + 1 < m → (st i).kind = 19) ∧ isE (st (m - 1)).kind = true) ∧ Below w.heap.size w w' := by
  obtain ⟨l, rfl⟩ : ∃ l, m = l + 1 := ⟨m - 1, by omega⟩
  have HF : Hid (StA w (some ⟨g, o, none⟩) l st sh) := .inr ⟨g, o, rfl, hg, hs.front (by omega)⟩
  have HK : Hid (∀ w', Below w.heap.size w w' → StA w' (some ⟨g, o + l * 6, none⟩) 1 (fun i => st (l + i)) (fun i => sh (l + i))) := fun w' hb => by
    have := hs.back (f := l)
    rw [Nat.add_sub_cancel_left] at this
    exact .inr ⟨g, _, rfl, Nat.lt_of_lt_of_le hg hb.size, this.below hb hg⟩
  clear hs
  by_cases h8 : l ≤ 8
  · go_enter Try.func32, Try.ntmps32
    go_wp2_with (first
      | (go_at_call 29; refine (areKinds_any (some ⟨g, o, none⟩) l c _ _ st sh _ (by omega) HF.out).mono ?_; rintro e w1 ⟨hs1, hb1⟩; have HB1 := hid hb1; clear hb1; rcases hs1.get with ⟨rfl, hP1⟩ | ⟨rfl, hP1⟩; all_goals (have HP1 := hid hP1; clear hP1 hs1))
      | (go_at_call 28; refine (areE_any (some ⟨g, o + l * 6, none⟩) 1 _ _ _ (fun i => st (l + i)) (fun i => sh (l + i)) _ (by omega) (HK.out _ HB1.out)).mono ?_; rintro e w2 ⟨hs2, hb2⟩; have HB2 := hid hb2; clear hb2; rcases hs2.get with ⟨rfl, hP2⟩ | ⟨rfl, hP2⟩; all_goals (have HP2 := hid hP2; clear hP2 hs2)))
    all_goals go_ret
    · exact ⟨says_t ⟨by omega, by omega, fun i hi => by have := HP1.out i (by omega); omega, HP2.out.2.2 0 (by omega)⟩, HB1.out.trans (HB2.out.mono HB1.out.size)⟩
    · refine ⟨says_f (fun h => HP2.out ⟨by omega, by omega, fun i hi => ?_⟩), HB1.out.trans (HB2.out.mono HB1.out.size)⟩
      obtain rfl : i = 0 := by omega
      exact h.2.2.2
    · exact ⟨says_f (fun h => HP1.out fun i hi => by have := h.2.2.1 i (by omega); omega), HB1.out⟩
  · go_enter Try.func32, Try.ntmps32
    go_wp2
    go_ret
    exact ⟨says_f (fun h => by omega), Below.refl _ _⟩
set_option maxHeartbeats 1000000 in
theorem fnFits_none (ad : Option Addr) (c : Nat) (w : World) :
    Calls Try.prog 32 #[.slice ad 0 c] w fun e w' => e = .returned (.bool false) ∧ w' = w := by
  go_enter Try.func32, Try.ntmps32
  go_wp2
  go_ret
  exact ⟨rfl, rfl⟩
end Go.Proofs.Ytkfkolefbficgaa
