import Derived.Test.YtfbfmhmpoaplaaaDoorSOkO
import Derived.Test.YtfbfmhmpoaplaaaDoorSOkN
import Derived.Test.YtfbfmhmpoaplaaaDoorSOkB
import Derived.Test.YtfbfmhmpoaplaaaDoorSOkI
import Derived.Test.YtfbfmhmpoaplaaaDoorSOkT
import Derived.Test.YtfbfmhmpoaplaaaDoorSOkL
import Derived.Test.YtfbfmhmpoaplaaaDoorSOkR
namespace Go.Proofs.YtfbfmhmpoaplaaaDoor
open Go.RowKit
set_option maxRecDepth 20000
theorem l5Ok_any (m : Nat) : OkIH m := by
  induction m with
  | zero =>
    intro b o N cap l above w hm hl hcap hcm ha hb hn hx
    obtain rfl : N = 0 := by omega
    exact l5Ok_zero b o cap l above w hl
  | succ m ih =>
    intro b o N cap l above w hm hl hcap hcm ha hb hn hx
    by_cases hN0 : N = 0
    · subst hN0; exact l5Ok_zero b o cap l above w hl
    have hN1 : 1 ≤ N := by omega
    by_cases ha12 : 12 < above
    · exact l5Ok_deep b o N cap l above w hcap hcm hN1 ha ha12
    have ha12 : above ≤ 12 := by omega
    by_cases hf : ∃ t, l = flat t
    · obtain ⟨⟨k, n, t, ks⟩, hf⟩ := hf
      by_cases hk : k < 1 ∨ 6 < k
      · exact l5Ok_O m ih b o N cap l above w hm hl hcap hcm hN1 ha12 hb hn hx k n t ks hf hk
      · have hkk : k = 1 ∨ k = 2 ∨ k = 3 ∨ k = 4 ∨ k = 5 ∨ k = 6 := by omega
        rcases hkk with h | h | h | h | h | h
        · exact l5Ok_N m ih b o N cap l above w hm hl hcap hcm hN1 ha12 hb hn hx k n t ks hf h
        · exact l5Ok_B m ih b o N cap l above w hm hl hcap hcm hN1 ha12 hb hn hx k n t ks hf h
        · exact l5Ok_I m ih b o N cap l above w hm hl hcap hcm hN1 ha12 hb hn hx k n t ks hf h
        · exact l5Ok_T m ih b o N cap l above w hm hl hcap hcm hN1 ha12 hb hn hx k n t ks hf h
        · exact l5Ok_L m ih b o N cap l above w hm hl hcap hcm hN1 ha12 hb hn hx k n t ks hf h
        · exact l5Ok_R m ih b o N cap l above w hm hl hcap hcm hN1 ha12 hb hn hx k n t ks hf h
    · exact l5Ok_noflat b o N cap l above w hl hcap hcm hN1 ha12 hb hn hx (fun t h => hf ⟨t, h⟩)
set_option maxHeartbeats 1000000 in
theorem specValue_any (b o N cap : Nat) (l : List At) (w : World) (hl : l.length = N) (hcap : N ≤ cap) (hcm : cap ≤ 1048576) (hb : b < w.heap.size) (hn : AtomsAt w b o l) (hx : ∀ x ∈ l, x.text.size ≤ maxLen) :
    Calls Tryd.prog 7 #[.agg #[.slice (some ⟨b, o, none⟩) N cap]] w fun e w' => Says e (ValidV l) ∧ Below w.heap.size w w' := by
  have HB := hid ((Below.refl w.heap.size w).alloc (Nat.le_refl _) (.cells #[.slice (some ⟨b, o, none⟩) N cap] 29))
  have HC : Hid (Calls Tryd.prog 18 #[.agg #[.slice (some ⟨b, o, none⟩) N cap], .int .i64 0] (w.alloc (.cells #[.slice (some ⟨b, o, none⟩) N cap] 29)) fun e w' => Says e (OkV l 0) ∧ Below (w.alloc (.cells #[.slice (some ⟨b, o, none⟩) N cap] 29)).heap.size (w.alloc (.cells #[.slice (some ⟨b, o, none⟩) N cap] 29)) w') :=
    l5Ok_any N b o N cap l 0 _ (Nat.le_refl _) hl hcap hcm (by omega) (by simp; omega) (hn.below HB.out hb) hx
  have HL := hid hl
  clear hn hx hl
  by_cases h0 : N ≤ 1000
  · have HV : Hid (OkV l 0 ↔ ValidV l) := ⟨fun ⟨t, h1, h2, h3⟩ => ⟨by rw [HL.out]; exact h0, t, h1, h2, by omega⟩, fun ⟨_, t, h1, h2, h3⟩ => ⟨t, h1, h2, by omega⟩⟩
    have h1 : decide ((N : Int) ≤ 1000) = true := by simp; omega
    by_cases hv : OkV l 0
    · go_enter Tryd.func7, Tryd.ntmps7
      go_wp2_with (go_at_call 18; refine HC.out.mono ?_; rintro e w1 ⟨hs, hb1⟩; obtain rfl := hs.pos hv; have HB1 := hid (HB.out.trans (hb1.mono (by simp))); clear hs hb1)
      go_ret
      exact ⟨says_t (HV.out.1 hv), HB1.out⟩
    · go_enter Tryd.func7, Tryd.ntmps7
      go_wp2_with (go_at_call 18; refine HC.out.mono ?_; rintro e w1 ⟨hs, hb1⟩; obtain rfl := hs.neg hv; have HB1 := hid (HB.out.trans (hb1.mono (by simp))); clear hs hb1)
      go_ret
      exact ⟨says_f (fun h => hv (HV.out.2 h)), HB1.out⟩
  · have HE : Hid (¬ ValidV l) := fun h => h0 (by rw [← HL.out]; exact h.1)
    have h1 : decide ((N : Int) ≤ 1000) = false := by simp; omega
    have h2 : ¬ (N : Int) ≤ 1000 := by omega
    go_enter Tryd.func7, Tryd.ntmps7
    go_wp2
    go_ret
    exact ⟨says_f HE.out, HB.out⟩
end Go.Proofs.YtfbfmhmpoaplaaaDoor
