import Derived.Test.YtpcfhbbialgcfaaHcMath
/-! The name of a package's file, by both sides. -/
namespace Go.Proofs.Ytpcfhbbialgcfaa.P
open Go.RowKit
open Go.Proofs.Ytpcfhbbialgcfaa.J (Says says_t says_f ret_bool byte_bd Says.pos Says.neg)
open Go.Proofs.Ytpcfhbbialgcfaa.R (hid below_drewN)
set_option maxRecDepth 20000
def PkEnd (s : ByteArray) (w : World) (e : Ending) (w' : World) : Prop := ∃ (t : ByteArray) (b : Bool), e = .returned (.tuple #[.string t, .bool b]) ∧ (isPk s = true → b = true ∧ t = cutB s) ∧ (isPk s = false → b = false) ∧ Below w.heap.size w w'
theorem PkEnd.no {s : ByteArray} {w w' : World} (h : isPk s = false) (t : ByteArray) (hb : Below w.heap.size w w') : PkEnd s w (.returned (.tuple #[.string t, .bool false])) w' := ⟨t, false, rfl, (fun h2 => (by rw [h] at h2; cases h2)), (fun _ => rfl), hb⟩
theorem PkEnd.yes {s : ByteArray} {w w' : World} (h : isPk s = true) {t : ByteArray} (ht : t = cutB s) (hb : Below w.heap.size w w') : PkEnd s w (.returned (.tuple #[.string t, .bool true])) w' := ⟨t, true, rfl, (fun _ => ⟨rfl, ht⟩), (fun h2 => (by rw [h] at h2; cases h2)), hb⟩
theorem isPk_no {s : ByteArray} (h : ¬ (5 ≤ s.size ∧ endB s = clayE ∧ PkgOk (cutB s))) : isPk s = false := by
  cases h2 : isPk s with
  | false => rfl
  | true => exact absurd ((isPk_iff s).1 h2) h
theorem end_list (s : ByteArray) (n : Nat) (h : s.size = n + 5) : ((s.extract n (n + 5)).toList == [46, 99, 108, 97, 121]) = decide (endB s = clayE) := by
  unfold endB
  rw [h, show n + 5 - 5 = n by omega]
  rw [Bool.eq_iff_iff, decide_eq_true_eq, beq_iff_eq, Lib.toList_data]
  constructor
  · intro e
    apply ByteArray.ext
    apply Array.toList_inj.1
    rw [e]
    rfl
  · intro e
    rw [e]
    rfl
theorem cut_is (s : ByteArray) (n : Nat) (h : s.size = n + 5) : s.extract 0 n = cutB s := by
  unfold cutB
  rw [h]
  rfl
set_option maxHeartbeats 4000000 in
theorem specPk_any (s : ByteArray) (w : World) (hs : s.size ≤ maxLen) : Calls Try.prog 15 #[.string s] w (PkEnd s w) := by
  have h63 := hs
  unfold maxLen at h63
  have hw1 : IntKind.i64.wrap ((s.size : Int) - 5) = (s.size : Int) - 5 := by rw [IntKind.wrap_i64]; omega
  by_cases h5 : s.size ≤ 5
  · have HNO : Hid (isPk s = false) := hid (isPk_no fun h2 => by
      have h3 := h2.2.2.1
      unfold cutB at h3
      rw [ByteArray.size_extract] at h3
      omega)
    have hlt : (s.size : Int) - 5 < 1 := by omega
    have hlt2 : decide ((s.size : Int) - 5 < 1) = true := by simpa using hlt
    go_enter Try.func15, Try.ntmps15
    go_wp2
    exact bodyPost_ret (results_tmp2 rfl _ _ _) rfl (PkEnd.no HNO.out _ (Below.refl _ _))
  · obtain ⟨n, hn⟩ : ∃ n : Nat, s.size = n + 5 := ⟨s.size - 5, by omega⟩
    have HEL := hid (end_list s n hn)
    have HCU := hid (cut_is s n hn)
    have HPK := hid (isPk_iff s)
    have HPN := hid (fun h => isPk_no (s := s) h)
    have hn1 : 1 ≤ (n : Int) := by omega
    have HCS : Hid ((s.extract 0 n).size ≤ maxLen) := hid (by rw [ByteArray.size_extract]; unfold maxLen; omega)
    by_cases he : endB s = clayE
    · have h1 : ((s.extract n (n + 5)).toList == [46, 99, 108, 97, 121]) = true := by rw [HEL.out]; simpa using he
      by_cases hp : PkgOk (cutB s)
      · have HY : Hid (isPk s = true) := hid (HPK.out.2 ⟨by omega, he, hp⟩)
        rw [← HCU.out] at hp
        have HP := hid hp
        clear hp he
        go_enter Try.func15, Try.ntmps15
        go_wp2_with fail
        go_quiet ((go_at_call 33; refine Calls.quiet_of_same (v := .bool true) ?_; refine (l2Package_any _ _ HCS.out).mono ?_; rintro e w3 ⟨hs3, hb3⟩; exact ⟨hs3.pos HP.out, hb3⟩))
        go_wp2
        exact bodyPost_ret (results_tmp2 rfl _ _ _) rfl (PkEnd.yes HY.out HCU.out (below_drewN (Below.refl _ _) nq))
      · have HNO : Hid (isPk s = false) := hid (HPN.out fun h => hp h.2.2)
        rw [← HCU.out] at hp
        have HP := hid hp
        clear hp he
        go_enter Try.func15, Try.ntmps15
        go_wp2_with fail
        go_quiet ((go_at_call 33; refine Calls.quiet_of_same (v := .bool false) ?_; refine (l2Package_any _ _ HCS.out).mono ?_; rintro e w3 ⟨hs3, hb3⟩; exact ⟨hs3.neg HP.out, hb3⟩))
        go_wp2
        exact bodyPost_ret (results_tmp2 rfl _ _ _) rfl (PkEnd.no HNO.out _ (below_drewN (Below.refl _ _) nq))
    · have h1 : ((s.extract n (n + 5)).toList == [46, 99, 108, 97, 121]) = false := by rw [HEL.out]; simpa using he
      have HNO : Hid (isPk s = false) := hid (HPN.out fun h => he h.2.1)
      clear he
      go_enter Try.func15, Try.ntmps15
      go_wp2_with fail
      exact bodyPost_ret (results_tmp2 rfl _ _ _) rfl (PkEnd.no HNO.out _ (Below.refl _ _))
set_option maxHeartbeats 4000000 in
theorem hasSuf_any (s : ByteArray) (w : World) (hs : s.size ≤ maxLen) : Calls Try.prog 68 #[.string s, .string ⟨#[46, 99, 108, 97, 121]⟩] w fun e w' => e = .returned (.bool (decide (5 ≤ s.size ∧ endB s = clayE))) ∧ w' = w := by
  have h63 := hs
  unfold maxLen at h63
  by_cases h5 : 5 ≤ s.size
  · obtain ⟨n, hn⟩ : ∃ n : Nat, s.size = n + 5 := ⟨s.size - 5, by omega⟩
    have h1 := end_list s n hn
    have HE : Hid (decide (5 ≤ s.size ∧ endB s = clayE) = decide (endB s = clayE)) := hid (by simp [h5])
    rw [HE.out]
    have hw2 : IntKind.i64.wrap ((n : Int) + 5 - 5) = (n : Int) := by rw [IntKind.wrap_i64]; omega
    have hw1 : IntKind.i64.wrap ((s.size : Int) - 5) = (n : Int) := by rw [IntKind.wrap_i64]; omega
    have h5i : (5 : Int) ≤ (s.size : Int) := by omega
    clear h5
    go_enter Try.func68, Try.ntmps68
    go_wp2
    go_ret
    exact ⟨rfl, rfl⟩
  · have HE : Hid (decide (5 ≤ s.size ∧ endB s = clayE) = false) := hid (by simp [h5])
    rw [HE.out]
    have h5i : ¬ (5 : Int) ≤ (s.size : Int) := by omega
    have h5d : decide ((5 : Int) ≤ (s.size : Int)) = false := by simpa using h5i
    clear h5
    go_enter Try.func68, Try.ntmps68
    go_wp2
    go_ret
    exact ⟨rfl, rfl⟩
end Go.Proofs.Ytpcfhbbialgcfaa.P
