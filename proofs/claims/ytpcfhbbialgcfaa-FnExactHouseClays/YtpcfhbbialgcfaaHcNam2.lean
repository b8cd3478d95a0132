import Derived.Test.YtpcfhbbialgcfaaHcName
/-! The name of a package's file, by the program. -/
namespace Go.Proofs.Ytpcfhbbialgcfaa.P
open Go.RowKit
open Go.Proofs.Ytpcfhbbialgcfaa.J (Says says_t says_f ret_bool byte_bd Says.pos Says.neg)
open Go.Proofs.Ytpcfhbbialgcfaa.R (hid below_drewN)
set_option maxRecDepth 20000
def CutEnd (s : ByteArray) (w : World) (e : Ending) (w' : World) : Prop := e = .returned (.tuple #[.string (if 5 ≤ s.size ∧ endB s = clayE then cutB s else s), .bool (decide (5 ≤ s.size ∧ endB s = clayE))]) ∧ w' = w
set_option maxHeartbeats 4000000 in
theorem cutIn_any (s : ByteArray) (w : World) (hs : s.size ≤ maxLen) : Calls Try.prog 54 #[.string s, .string ⟨#[46, 99, 108, 97, 121]⟩] w (CutEnd s w) := by
  have h63 := hs
  have HS := hid hs
  unfold maxLen at h63
  clear hs
  by_cases hh : 5 ≤ s.size ∧ endB s = clayE
  · obtain ⟨n, hn⟩ : ∃ n : Nat, s.size = n + 5 := ⟨s.size - 5, by omega⟩
    have HCU := hid (cut_is s n hn)
    have HE : Hid (CutEnd s w (.returned (.tuple #[.string (s.extract 0 n), .bool true])) w) := hid (by unfold CutEnd; rw [if_pos hh, decide_eq_true hh, HCU.out]; exact ⟨rfl, rfl⟩)
    have HD : Hid (decide (5 ≤ s.size ∧ endB s = clayE) = true) := hid (decide_eq_true hh)
    have hw1 : IntKind.i64.wrap ((s.size : Int) - 5) = (n : Int) := by rw [IntKind.wrap_i64]; omega
    have hw2 : IntKind.i64.wrap ((n : Int) + 5 - 5) = (n : Int) := by rw [IntKind.wrap_i64]; omega
    clear hh
    go_enter Try.func54, Try.ntmps54
    go_wp2_with (go_at_call 68; refine (hasSuf_any s _ HS.out).mono ?_; rintro e w' ⟨rfl, hw⟩; rw [HD.out]; have hw9 := hw.symm; clear hw; subst hw9)
    refine bodyPost_ret (results_tmp2 rfl _ _ _) rfl ?_
    exact HE.out
  · have HE : Hid (CutEnd s w (.returned (.tuple #[.string s, .bool false])) w) := hid (by unfold CutEnd; rw [if_neg hh, decide_eq_false hh]; exact ⟨rfl, rfl⟩)
    have HD : Hid (decide (5 ≤ s.size ∧ endB s = clayE) = false) := hid (decide_eq_false hh)
    clear hh
    go_enter Try.func54, Try.ntmps54
    go_wp2_with (go_at_call 68; refine (hasSuf_any s _ HS.out).mono ?_; rintro e w' ⟨rfl, hw⟩; rw [HD.out]; have hw9 := hw.symm; clear hw; subst hw9)
    refine bodyPost_ret (results_tmp2 rfl _ _ _) rfl ?_
    exact HE.out
set_option maxHeartbeats 4000000 in
theorem cut_any (s : ByteArray) (w : World) (hs : s.size ≤ maxLen) : Calls Try.prog 47 #[.string s, .string ⟨#[46, 99, 108, 97, 121]⟩] w (CutEnd s w) := by
  have HC := hid (fun W => cutIn_any s W hs)
  have HE : Hid (∀ e W W', CutEnd s W e W' → ∃ (t : ByteArray) (b : Bool), e = .returned (.tuple #[.string t, .bool b]) ∧ CutEnd s W (.returned (.tuple #[.string t, .bool b])) W ∧ W' = W) := hid fun e W W' h => ⟨_, _, h.1, ⟨rfl, rfl⟩, h.2⟩
  go_enter Try.func47, Try.ntmps47
  go_wp2_with (go_at_call 54; refine (HC.out _).mono ?_; intro e w' hq; obtain ⟨t, b, rfl, hq2, hw⟩ := HE.out _ _ _ hq; have HQ := hid hq2; clear hq hq2; subst hw)
  refine bodyPost_ret (results_tmp2 rfl _ _ _) rfl ?_
  exact HQ.out
set_option maxHeartbeats 4000000 in
theorem implPk_any (s : ByteArray) (w : World) (hs : s.size ≤ maxLen) : Calls Try.prog 35 #[.string s] w (PkEnd s w) := by
  have HC := hid (fun W => cut_any s W hs)
  have HPK := hid (isPk_iff s)
  have HPN := hid (fun h => isPk_no (s := s) h)
  have HCS : Hid ((cutB s).size ≤ maxLen) := hid (by unfold cutB; rw [ByteArray.size_extract]; unfold maxLen at hs ⊢; omega)
  clear hs
  by_cases hh : 5 ≤ s.size ∧ endB s = clayE
  · have HE : Hid (∀ e W W', CutEnd s W e W' → e = .returned (.tuple #[.string (cutB s), .bool true]) ∧ W' = W) := hid fun e W W' h => by
      unfold CutEnd at h
      rw [if_pos hh, decide_eq_true hh] at h
      exact h
    by_cases hp : PkgOk (cutB s)
    · have HY : Hid (isPk s = true) := hid (HPK.out.2 ⟨hh.1, hh.2, hp⟩)
      have HP := hid hp
      clear hp hh
      go_enter Try.func35, Try.ntmps35
      go_wp2_with (first
        | (go_at_call 47; refine (HC.out _).mono ?_; intro e w' hq; obtain ⟨rfl, hw⟩ := HE.out _ _ _ hq; clear hq; subst hw)
        | (go_at_call 48; refine (isPackage_any _ _ HCS.out).mono ?_; rintro e w' ⟨hs3, hw⟩; obtain rfl := hs3.pos HP.out; clear hs3; subst hw))
      exact bodyPost_ret (results_tmp2 rfl _ _ _) rfl (PkEnd.yes HY.out rfl (Below.refl _ _))
    · have HNO : Hid (isPk s = false) := hid (HPN.out fun h => hp h.2.2)
      have HP := hid hp
      clear hp hh
      go_enter Try.func35, Try.ntmps35
      go_wp2_with (first
        | (go_at_call 47; refine (HC.out _).mono ?_; intro e w' hq; obtain ⟨rfl, hw⟩ := HE.out _ _ _ hq; clear hq; subst hw)
        | (go_at_call 48; refine (isPackage_any _ _ HCS.out).mono ?_; rintro e w' ⟨hs3, hw⟩; obtain rfl := hs3.neg HP.out; clear hs3; subst hw))
      exact bodyPost_ret (results_tmp2 rfl _ _ _) rfl (PkEnd.no HNO.out _ (Below.refl _ _))
  · have HNO : Hid (isPk s = false) := hid (HPN.out fun h => hh ⟨h.1, h.2.1⟩)
    have HE : Hid (∀ e W W', CutEnd s W e W' → e = .returned (.tuple #[.string s, .bool false]) ∧ W' = W) := hid fun e W W' h => by
      unfold CutEnd at h
      rw [if_neg hh, decide_eq_false hh] at h
      exact h
    clear hh
    go_enter Try.func35, Try.ntmps35
    go_wp2_with (go_at_call 47; refine (HC.out _).mono ?_; intro e w' hq; obtain ⟨rfl, hw⟩ := HE.out _ _ _ hq; clear hq; subst hw)
    exact bodyPost_ret (results_tmp2 rfl _ _ _) rfl (PkEnd.no HNO.out _ (Below.refl _ _))
end Go.Proofs.Ytpcfhbbialgcfaa.P
