import Derived.Test.YtpobfklbbkdglaaDoorJVValid
import Derived.Test.YtpobfklbbkdglaaDoorJWValid
namespace Go.Proofs.YtpobfklbbkdglaaDoor
open Go.RowKit
set_option maxRecDepth 20000
set_option maxHeartbeats 1000000 in
theorem specValid_out (b N cap : Nat) (nd : Nat → Nd) (w : World) (hN : N ≤ 1048576) (ho : N = 0 ∨ 5000 < N) :
    Calls Tryd.prog 25 #[.agg #[.slice (some ⟨b, 0, none⟩) N cap]] w fun e w' => Says e (ValidT nd N) ∧ Below w.heap.size w w' := by
  have HF : Hid (¬ ValidT nd N) := fun ⟨h1, h2, _⟩ => by omega
  have HIN : Hid ((decide ((1 : Int) ≤ (N : Int)) && decide ((N : Int) ≤ 5000)) = false) := by show _ = _; simp; omega
  go_enter Tryd.func25, Tryd.ntmps25
  go_wp2_with (first
    | (go_at_call 32; refine (l1In_dec _ _ _ _).mono ?_; rintro e w' ⟨rfl, hw⟩; have hw2 := hw.symm; clear hw; subst hw2; rw [HIN.out]))
  go_ret
  exact ⟨says_f HF.out, (Below.refl _ _).alloc (Nat.le_refl _) _⟩
set_option maxHeartbeats 1000000 in
theorem specValid_kind (b N cap : Nat) (nd : Nat → Nd) (w : World) (hN1 : 1 ≤ N) (hN : N ≤ 5000) (h24 : ¬ (nd (N - 1)).kind = 24) (hb : b < w.heap.size) (hn : NodesAt w b N nd) :
    Calls Tryd.prog 25 #[.agg #[.slice (some ⟨b, 0, none⟩) N cap]] w fun e w' => Says e (ValidT nd N) ∧ Below w.heap.size w w' := by
  have HF : Hid (¬ ValidT nd N) := fun ⟨_, _, h, _⟩ => h24 h
  have HBT := hid ((Below.refl w.heap.size w).alloc (Nat.le_refl _) (.cells #[.slice (some ⟨b, 0, none⟩) N cap] 31))
  have HIN : Hid ((decide ((1 : Int) ≤ (N : Int)) && decide ((N : Int) ≤ 5000)) = true) := by show _ = _; simp; omega
  have a0 := ((hn.below HBT.out hb) (N - 1) (by omega)).1
  have hne : ((nd (N - 1)).kind != 24) = true := by rw [bne_iff_ne]; exact h24
  clear hn h24
  go_enter Tryd.func25, Tryd.ntmps25
  go_wp2_with (first
    | (go_at_call 32; refine (l1In_dec _ _ _ _).mono ?_; rintro e w' ⟨rfl, hw⟩; have hw2 := hw.symm; clear hw; subst hw2; rw [HIN.out]))
  go_ret
  exact ⟨says_f HF.out, HBT.out⟩
theorem specValid_all (b N cap : Nat) (nd : Nat → Nd) (w : World) (hN : N ≤ 1048576) (hb : b < w.heap.size) (hn : NodesAt w b N nd) (hx : ∀ i, i < N → (nd i).text.size ≤ maxLen) :
    Calls Tryd.prog 25 #[.agg #[.slice (some ⟨b, 0, none⟩) N cap]] w fun e w' => Says e (ValidT nd N) ∧ Below w.heap.size w w' := by
  by_cases ho : N = 0 ∨ 5000 < N
  · exact specValid_out b N cap nd w hN ho
  · by_cases h24 : (nd (N - 1)).kind = 24
    · exact specValid_any b N cap nd w (by omega) (by omega) h24 hb hn hx
    · exact specValid_kind b N cap nd w (by omega) (by omega) h24 hb hn
set_option maxHeartbeats 1000000 in
theorem implValid_out (b N cap : Nat) (nd : Nat → Nd) (w : World) (hN : N ≤ 1048576) (ho : 5000 < N) :
    Calls Tryd.prog 49 #[.agg #[.slice (some ⟨b, 0, none⟩) N cap]] w fun e w' => Says e (ValidT nd N) ∧ Below w.heap.size w w' := by
  have HF : Hid (¬ ValidT nd N) := fun ⟨h1, h2, _⟩ => by omega
  go_enter Tryd.func49, Tryd.ntmps49
  go_wp2
  go_ret
  exact ⟨says_f HF.out, (Below.refl _ _).alloc (Nat.le_refl _) _⟩
theorem implValid_all (b N cap : Nat) (nd : Nat → Nd) (w : World) (hN : N ≤ 1048576) (hb : b < w.heap.size) (hn : NodesAt w b N nd) (hx : ∀ i, i < N → (nd i).text.size ≤ maxLen) :
    Calls Tryd.prog 49 #[.agg #[.slice (some ⟨b, 0, none⟩) N cap]] w fun e w' => Says e (ValidT nd N) ∧ Below w.heap.size w w' := by
  by_cases ho : 5000 < N
  · exact implValid_out b N cap nd w hN ho
  · exact implValid_any b N cap nd w (by omega) hb hn hx
end Go.Proofs.YtpobfklbbkdglaaDoor
