import Derived.Deep.RegionWith
import Derived.Test.YtkngjbpbjjoneaaGreatDoorJ12
/-! Printed by gen_fld.py. -/
namespace Go.Proofs.YtkngjbpbjjoneaaGreatDoor.Q
open Go.RowKit Go.Shelf
set_option maxRecDepth 20000
set_option maxHeartbeats 8000000 in
theorem us_4 : UF 4 := by
  intro op ty n kids t r w ht hr
  have hrl : r < w.heap.size := (Array.getElem?_eq_some_iff.1 hr).1
  have HR : Hid (∀ W, Below w.heap.size w W → W.heap[r]? = some (.map (mwE 35) 35)) := fun W hb => (hb.block r hrl).trans hr
  clear hr hrl
  unfold ndV
  go_enter Tryz.func27, Tryz.ntmps27
  go_wp2_with (first
    | (go_at_call 48; refine (isName_at t r _ ht (HR.out _ (below_two w _ _))).mono ?_; rintro e w1 ⟨hs, hb⟩; obtain ⟨⟨k0, k1, k2, k3, k4, k5⟩, ⟨l0, l1, l2, l3, l4, l5⟩, hb⟩ := two_rows hb; have HB := hid hb; clear hb; rcases hs.get with ⟨rfl, hP⟩ | ⟨rfl, hP⟩; all_goals (have HP := hid hP; clear hP hs)))
  all_goals go_ret
  all_goals have hp := HP.out
  all_goals first
    | (refine ⟨says_t ?_, HB.out⟩; rw [plain_4]; simp [*]; done)
    | (refine ⟨says_f ?_, HB.out⟩; rw [plain_4]; simp [*]; done)
    | (refine ⟨says_t ?_, HB.out⟩; rw [plain_4]; (try simp [*]); omega)
    | (refine ⟨says_f ?_, HB.out⟩; rw [plain_4]; (try simp [*]); (try intros); omega)
set_option maxHeartbeats 8000000 in
theorem us_7 : UF 7 := by
  intro op ty n kids t r w ht hr
  have hrl : r < w.heap.size := (Array.getElem?_eq_some_iff.1 hr).1
  have HR : Hid (∀ W, Below w.heap.size w W → W.heap[r]? = some (.map (mwE 35) 35)) := fun W hb => (hb.block r hrl).trans hr
  clear hr hrl
  unfold ndV
  go_enter Tryz.func27, Tryz.ntmps27
  go_wp2_with (first
    | (go_at_call 48; refine (isName_at t r _ ht (HR.out _ (below_two w _ _))).mono ?_; rintro e w1 ⟨hs, hb⟩; obtain ⟨⟨k0, k1, k2, k3, k4, k5⟩, ⟨l0, l1, l2, l3, l4, l5⟩, hb⟩ := two_rows hb; have HB := hid hb; clear hb; rcases hs.get with ⟨rfl, hP⟩ | ⟨rfl, hP⟩; all_goals (have HP := hid hP; clear hP hs)))
  all_goals go_ret
  all_goals have hp := HP.out
  all_goals first
    | (refine ⟨says_t ?_, HB.out⟩; rw [plain_7]; simp [*]; done)
    | (refine ⟨says_f ?_, HB.out⟩; rw [plain_7]; simp [*]; done)
    | (refine ⟨says_t ?_, HB.out⟩; rw [plain_7]; (try simp [*]); omega)
    | (refine ⟨says_f ?_, HB.out⟩; rw [plain_7]; (try simp [*]); (try intros); omega)
set_option maxHeartbeats 8000000 in
theorem us_10 : UF 10 := by
  intro op ty n kids t r w ht hr
  have hrl : r < w.heap.size := (Array.getElem?_eq_some_iff.1 hr).1
  have HR : Hid (∀ W, Below w.heap.size w W → W.heap[r]? = some (.map (mwE 35) 35)) := fun W hb => (hb.block r hrl).trans hr
  clear hr hrl
  unfold ndV
  go_enter Tryz.func27, Tryz.ntmps27
  go_wp2_with (first
    | (go_at_call 48; refine (isName_at t r _ ht (HR.out _ (below_two w _ _))).mono ?_; rintro e w1 ⟨hs, hb⟩; obtain ⟨⟨k0, k1, k2, k3, k4, k5⟩, ⟨l0, l1, l2, l3, l4, l5⟩, hb⟩ := two_rows hb; have HB := hid hb; clear hb; rcases hs.get with ⟨rfl, hP⟩ | ⟨rfl, hP⟩; all_goals (have HP := hid hP; clear hP hs)))
  all_goals go_ret
  all_goals have hp := HP.out
  all_goals first
    | (refine ⟨says_t ?_, HB.out⟩; rw [plain_10]; simp [*]; done)
    | (refine ⟨says_f ?_, HB.out⟩; rw [plain_10]; simp [*]; done)
    | (refine ⟨says_t ?_, HB.out⟩; rw [plain_10]; (try simp [*]); omega)
    | (refine ⟨says_f ?_, HB.out⟩; rw [plain_10]; (try simp [*]); (try intros); omega)
set_option maxHeartbeats 8000000 in
theorem us_11 : UF 11 := by
  intro op ty n kids t r w ht hr
  have hrl : r < w.heap.size := (Array.getElem?_eq_some_iff.1 hr).1
  have HR : Hid (∀ W, Below w.heap.size w W → W.heap[r]? = some (.map (mwE 35) 35)) := fun W hb => (hb.block r hrl).trans hr
  clear hr hrl
  unfold ndV
  go_enter Tryz.func27, Tryz.ntmps27
  go_wp2_with (first
    | (go_at_call 48; refine (isName_at t r _ ht (HR.out _ (below_two w _ _))).mono ?_; rintro e w1 ⟨hs, hb⟩; obtain ⟨⟨k0, k1, k2, k3, k4, k5⟩, ⟨l0, l1, l2, l3, l4, l5⟩, hb⟩ := two_rows hb; have HB := hid hb; clear hb; rcases hs.get with ⟨rfl, hP⟩ | ⟨rfl, hP⟩; all_goals (have HP := hid hP; clear hP hs)))
  all_goals go_ret
  all_goals have hp := HP.out
  all_goals first
    | (refine ⟨says_t ?_, HB.out⟩; rw [plain_11]; simp [*]; done)
    | (refine ⟨says_f ?_, HB.out⟩; rw [plain_11]; simp [*]; done)
    | (refine ⟨says_t ?_, HB.out⟩; rw [plain_11]; (try simp [*]); omega)
    | (refine ⟨says_f ?_, HB.out⟩; rw [plain_11]; (try simp [*]); (try intros); omega)
set_option maxHeartbeats 8000000 in
theorem us_22 : UF 22 := by
  intro op ty n kids t r w ht hr
  have hrl : r < w.heap.size := (Array.getElem?_eq_some_iff.1 hr).1
  have HR : Hid (∀ W, Below w.heap.size w W → W.heap[r]? = some (.map (mwE 35) 35)) := fun W hb => (hb.block r hrl).trans hr
  clear hr hrl
  unfold ndV
  go_enter Tryz.func27, Tryz.ntmps27
  go_wp2
  go_region
  go_wp2_with (first
    | (go_at_call 48; refine (isName_at t r _ ht (HR.out _ (below_two w _ _).drew)).mono ?_; rintro e w1 ⟨hs, hb⟩; obtain ⟨⟨k0, k1, k2, k3, k4, k5⟩, ⟨l0, l1, l2, l3, l4, l5⟩, hb⟩ := two_rows ((Below.refl _ _).drew.trans hb); have HB := hid hb; clear hb; rcases hs.get with ⟨rfl, hP⟩ | ⟨rfl, hP⟩; all_goals (have HP := hid hP; clear hP hs))
    | (go_at_call 50; refine (millIsType_int ty _).mono ?_; rintro e w' ⟨rfl, hw⟩; have hw2 := hw.symm; clear hw; subst hw2))
  all_goals go_ret
  all_goals have hp := HP.out
  all_goals first
    | (refine ⟨says_t ?_, HB.out⟩; rw [plain_22]; simp [*]; done)
    | (refine ⟨says_f ?_, HB.out⟩; rw [plain_22]; simp [*]; done)
    | (refine ⟨says_t ?_, HB.out⟩; rw [plain_22]; (try simp [*]); omega)
    | (refine ⟨says_f ?_, HB.out⟩; rw [plain_22]; (try simp [*]); (try intros); omega)
set_option maxHeartbeats 8000000 in
theorem us_23 : UF 23 := by
  intro op ty n kids t r w ht hr
  have hrl : r < w.heap.size := (Array.getElem?_eq_some_iff.1 hr).1
  have HR : Hid (∀ W, Below w.heap.size w W → W.heap[r]? = some (.map (mwE 35) 35)) := fun W hb => (hb.block r hrl).trans hr
  clear hr hrl
  unfold ndV
  obtain rfl | hne : ty = 0 ∨ (ty == 0) = false := by
    by_cases h : ty = 0
    · exact .inl h
    · exact .inr (by rw [beq_eq_false_iff_ne]; exact h)
  all_goals  go_enter Tryz.func27, Tryz.ntmps27
  all_goals go_wp2
  all_goals go_region
  all_goals go_wp2_with (first
    | (go_at_call 48; refine (isName_at t r _ ht (HR.out _ (below_two w _ _).drew)).mono ?_; rintro e w1 ⟨hs, hb⟩; obtain ⟨⟨k0, k1, k2, k3, k4, k5⟩, ⟨l0, l1, l2, l3, l4, l5⟩, hb⟩ := two_rows ((Below.refl _ _).drew.trans hb); have HB := hid hb; clear hb; rcases hs.get with ⟨rfl, hP⟩ | ⟨rfl, hP⟩; all_goals (have HP := hid hP; clear hP hs))
    | (go_at_call 50; refine (millIsType_nz ty hne _).mono ?_; rintro e w' ⟨rfl, hw⟩; have hw2 := hw.symm; clear hw; subst hw2))
  all_goals go_ret
  all_goals have hp := HP.out
  all_goals first
    | (refine ⟨says_t ?_, HB.out⟩; rw [plain_23]; simp [*]; done)
    | (refine ⟨says_f ?_, HB.out⟩; rw [plain_23]; simp [*]; done)
    | (refine ⟨says_t ?_, HB.out⟩; rw [plain_23]; (try simp [*]); omega)
    | (refine ⟨says_f ?_, HB.out⟩; rw [plain_23]; (try simp [*]); (try intros); omega)
end Go.Proofs.YtkngjbpbjjoneaaGreatDoor.Q
/-! Printed by gen_fld.py. -/
namespace Go.Proofs.YtkngjbpbjjoneaaGreatDoor.Q
open Go.RowKit Go.Shelf
set_option maxRecDepth 20000
set_option maxHeartbeats 8000000 in
theorem us_E (k : Int) (hk : k < 1 ∨ 24 < k) : UF k := by
  intro op ty n kids t r w ht hr
  have hn : ∀ x : Int, 1 ≤ x → x ≤ 24 → (k == x) = false := fun x h1 h2 => by rw [beq_eq_false_iff_ne]; omega
  have n1 := hn 1 (by decide) (by decide)
  have n2 := hn 2 (by decide) (by decide)
  have n3 := hn 3 (by decide) (by decide)
  have n4 := hn 4 (by decide) (by decide)
  have n5 := hn 5 (by decide) (by decide)
  have n6 := hn 6 (by decide) (by decide)
  have n7 := hn 7 (by decide) (by decide)
  have n8 := hn 8 (by decide) (by decide)
  have n9 := hn 9 (by decide) (by decide)
  have n10 := hn 10 (by decide) (by decide)
  have n11 := hn 11 (by decide) (by decide)
  have n12 := hn 12 (by decide) (by decide)
  have n13 := hn 13 (by decide) (by decide)
  have n14 := hn 14 (by decide) (by decide)
  have n15 := hn 15 (by decide) (by decide)
  have n16 := hn 16 (by decide) (by decide)
  have n17 := hn 17 (by decide) (by decide)
  have n18 := hn 18 (by decide) (by decide)
  have n19 := hn 19 (by decide) (by decide)
  have n20 := hn 20 (by decide) (by decide)
  have n21 := hn 21 (by decide) (by decide)
  have n22 := hn 22 (by decide) (by decide)
  have n23 := hn 23 (by decide) (by decide)
  have n24 := hn 24 (by decide) (by decide)
  clear hn
  have HPL := hid (plain_E k op ty n kids t hk)
  clear hk
  clear ht hr
  unfold ndV
  go_enter Tryz.func27, Tryz.ntmps27
  go_wp2
  all_goals go_ret
  all_goals first
    | (refine ⟨says_t ?_, below_two _ _ _⟩; rw [HPL.out]; simp [*]; done)
    | (refine ⟨says_f ?_, below_two _ _ _⟩; rw [HPL.out]; simp [*]; done)
    | (refine ⟨says_t ?_, below_two _ _ _⟩; rw [HPL.out]; (try simp [*]); omega)
    | (refine ⟨says_f ?_, below_two _ _ _⟩; rw [HPL.out]; (try simp [*]); (try intros); omega)
set_option maxHeartbeats 1000000 in
theorem hasLit_t (T : Nat) (h3 : 3 ≤ T) (h10 : T ≤ 10) (n : Int) (w : World) :
    Calls Tryz.prog 47 #[.int .i64 T, .int .i64 n] w fun e w' => e = .returned (.bool (decide (IntKind.u64.wrap n ≤ (mmax T : Int)))) ∧ w' = w := by
  have HI : Hid (∀ W, Calls Tryz.prog 49 #[.int .i64 T] W fun e w' => e = .returned (.bool true) ∧ w' = W) := fun W => (millIsInteger_int T W).mono fun e w' ⟨h1, h2⟩ => ⟨by rw [h1]; exact ret_bool (by simp; omega), h2⟩
  have HG := hid (millGreatest_any T h3 h10)
  go_enter Tryz.func47, Tryz.ntmps47
  go_wp2_with (first
    | (go_at_call 49; refine (HI.out _).mono ?_; rintro e w' ⟨rfl, hw⟩; have hw2 := hw.symm; clear hw; subst hw2)
    | (go_at_call 67; refine (HG.out _).mono ?_; rintro e w' ⟨rfl, hw⟩; have hw2 := hw.symm; clear hw; subst hw2)
    | fail)
  go_ret
  exact ⟨rfl, rfl⟩
set_option maxHeartbeats 1000000 in
theorem hasLit_f (ty : Int) (hT : ¬ (3 ≤ ty ∧ ty ≤ 10)) (n : Int) (w : World) :
    Calls Tryz.prog 47 #[.int .i64 ty, .int .i64 n] w fun e w' => e = .returned (.bool false) ∧ w' = w := by
  have HI : Hid (∀ W, Calls Tryz.prog 49 #[.int .i64 ty] W fun e w' => e = .returned (.bool false) ∧ w' = W) := fun W => (millIsInteger_int ty W).mono fun e w' ⟨h1, h2⟩ => ⟨by rw [h1]; exact ret_bool (by simp; omega), h2⟩
  clear hT
  go_enter Tryz.func47, Tryz.ntmps47
  go_wp2_with (first
    | (go_at_call 49; refine (HI.out _).mono ?_; rintro e w' ⟨rfl, hw⟩; have hw2 := hw.symm; clear hw; subst hw2)
    | fail)
  go_ret
  exact ⟨rfl, rfl⟩
set_option maxHeartbeats 4000000 in
theorem us_1 : UF 1 := by
  intro op ty n kids t r w ht hr
  clear ht hr
  unfold ndV
  have HP0 := hid (plain_1 op ty n kids t)
  obtain ⟨B, HL, HB0⟩ : ∃ B : Bool, Hid (∀ W, Calls Tryz.prog 47 #[.int .i64 ty, .int .i64 n] W fun e w' => e = .returned (.bool B) ∧ w' = W) ∧ Hid (NumOk ty n ↔ B = true) := by
    by_cases hT : 3 ≤ ty ∧ ty ≤ 10
    · obtain ⟨T, rfl⟩ := Int.eq_ofNat_of_zero_le (show 0 ≤ ty by omega)
      have h3 : 3 ≤ T := by omega
      have h10 : T ≤ 10 := by omega
      exact ⟨_, hasLit_t T h3 h10 n, by show _ ↔ _; rw [num_T T h3 h10 n]; simp⟩
    · refine ⟨false, hasLit_f ty hT n, ?_⟩
      show _ ↔ _
      constructor
      · rintro ⟨T, e, h3, h10, _⟩; omega
      · intro h; cases h
  rw [HB0.out] at HP0
  clear HB0
  cases B
  all_goals go_enter Tryz.func27, Tryz.ntmps27
  all_goals go_wp2
  all_goals go_region
  all_goals have hz := two_rows (Below.refl _ ((w.alloc (.cells #[.int .i64 1, .int .i64 op, .int .i64 ty, .int .i64 n, .string t, .int .i64 kids] 63)).alloc (.cells #[.int .i64 1, .int .i64 0, .int .i64 ty, .int .i64 n, .string ⟨#[]⟩, .int .i64 kids] 63))).drew
  all_goals generalize ((w.alloc (.cells #[.int .i64 1, .int .i64 op, .int .i64 ty, .int .i64 n, .string t, .int .i64 kids] 63)).alloc (.cells #[.int .i64 1, .int .i64 0, .int .i64 ty, .int .i64 n, .string ⟨#[]⟩, .int .i64 kids] 63)).drew = W at hz ⊢
  all_goals obtain ⟨⟨k0, k1, k2, k3, k4, k5⟩, ⟨l0, l1, l2, l3, l4, l5⟩, hb⟩ := hz
  all_goals have HB := hid hb
  all_goals clear hb
  all_goals go_wp2_with (first
    | (go_at_call 47; refine (HL.out _).mono ?_; rintro e w' ⟨rfl, hw⟩; have hw2 := hw.symm; clear hw; subst hw2)
    | fail)
  all_goals go_ret
  all_goals first
    | (refine ⟨says_t ?_, HB.out⟩; rw [HP0.out]; simp [*]; done)
    | (refine ⟨says_f ?_, HB.out⟩; rw [HP0.out]; simp [*]; done)
    | (refine ⟨says_t ?_, HB.out⟩; rw [HP0.out]; simp [*]; omega)
    | (refine ⟨says_f ?_, HB.out⟩; rw [HP0.out]; simp [*]; omega)
end Go.Proofs.YtkngjbpbjjoneaaGreatDoor.Q
/-! The model's decimals. -/
namespace Go.Proofs.YtkngjbpbjjoneaaGreatDoor.Q
open Go.RowKit Go.Shelf
set_option maxRecDepth 20000
theorem ba_append (a b : List UInt8) : (⟨a.toArray⟩ : ByteArray) ++ (⟨b.toArray⟩ : ByteArray) = ⟨(a ++ b).toArray⟩ := by
  apply ByteArray.ext
  simp
theorem conv_later {w w1 : World} {c : UInt8} {x : Int} (hx : x = c.toNat) (h : Below (w.alloc (.cells #[.int .u8 x] 5)).heap.size (w.alloc (.cells #[.int .u8 x] 5)) w1) :
    (convert 41 9 (.slice (some ⟨w.heap.size, 0, none⟩) 1 1)).run Tryz.prog w1 = .ok (.string ⟨#[c]⟩) w1 := by
  subst hx
  refine conv_row w1 w.heap.size _ [c] ⟨rfl, .inr ⟨w.heap.size, 1, #[.int .u8 c.toNat], rfl, Nat.le_refl _, ?_, Nat.le_refl _, by unfold maxLen; omega, rfl, rfl⟩⟩
  rw [h.block w.heap.size (by simp)]
  exact heap_alloc_new w _
set_option maxHeartbeats 2000000 in
theorem l10Decimal_any : ∀ (n : Nat) (w : World), n < 18446744073709551616 →
    Calls Tryz.prog 84 #[.int .u64 n] w fun e w' => e = .returned (.string ⟨(Lib.decDigits n).toArray⟩) ∧ Below w.heap.size w w' := by
  intro n
  induction n using Nat.strongRecOn with
  | _ n ih =>
    intro w hn
    by_cases h : n < 10
    · have HE : Hid (Lib.decDigits n = [UInt8.ofNat (48 + n)]) := Lib.decDigits_one h
      have hlt : (n : Int) < 10 := by omega
      have w1 : IntKind.u64.wrap (48 + (n : Int)) = 48 + n := by rw [IntKind.wrap_u64]; omega
      have w2 : IntKind.u8.wrap (48 + (n : Int)) = 48 + n := by rw [IntKind.wrap_u8]; omega
      have hdn := dig_nat n h
      generalize UInt8.ofNat (48 + n) = c at *
      have hcv := conv_one w c (48 + n) hdn
      clear ih hdn
      go_enter Tryz.func84, Tryz.ntmps84
      go_wp2
      go_ret
      exact ⟨by rw [HE.out]; rfl, (Below.refl _ _).alloc (Nat.le_refl _) _⟩
    · have HE : Hid (Lib.decDigits n = Lib.decDigits (n / 10) ++ [UInt8.ofNat (48 + n % 10)]) := by
        show _ = _
        rw [Lib.decDigits, dif_neg h]
      have hlt : ¬ (n : Int) < 10 := by omega
      have hD : (n : Int) / 10 = ((n / 10 : Nat) : Int) := by omega
      have hM : (n : Int).tmod 10 = ((n % 10 : Nat) : Int) := by rw [Int.tmod_eq_emod_of_nonneg (by omega)]; omega
      have hD2 : (n : Int).tdiv 10 = ((n / 10 : Nat) : Int) := by rw [Int.tdiv_eq_ediv_of_nonneg (by omega)]; omega
      have IH := hid (ih (n / 10) (by omega))
      have hl := decDigits_len (n / 10) (by omega)
      have hdn := dig_nat (n % 10) (by omega)
      obtain ⟨m, hm⟩ : ∃ m, n % 10 = m := ⟨_, rfl⟩
      obtain ⟨q, hq⟩ : ∃ q, n / 10 = q := ⟨_, rfl⟩
      rw [hm] at HE hM hdn
      rw [hq] at HE hD hD2 IH hl
      have hm10 : m < 10 := by omega
      have hq64 : q < 18446744073709551616 := by omega
      have w0 : IntKind.u64.wrap (q : Int) = q := by rw [IntKind.wrap_u64]; omega
      have w3 : IntKind.u64.wrap (m : Int) = m := by rw [IntKind.wrap_u64]; omega
      have w1 : IntKind.u64.wrap (48 + (m : Int)) = 48 + m := by rw [IntKind.wrap_u64]; omega
      have w2 : IntKind.u8.wrap (48 + (m : Int)) = 48 + m := by rw [IntKind.wrap_u8]; omega
      generalize UInt8.ofNat (48 + m) = c at *
      generalize hS : (⟨(Lib.decDigits q).toArray⟩ : ByteArray) = S at *
      have hsz : S.size ≤ 20 := by rw [← hS]; simpa [ByteArray.size] using hl
      have hcat : ¬ 9223372036854775807 < S.size + (⟨#[c]⟩ : ByteArray).size := by
        have : (⟨#[c]⟩ : ByteArray).size = 1 := rfl
        omega
      have HS := hid hS
      have HCV : Hid (∀ W : World, (convert 41 9 (.slice (some ⟨W.heap.size, 0, none⟩) 1 1)).run Tryz.prog (W.alloc (.cells #[.int .u8 (48 + (m : Int))] 5)) = .ok (.string ⟨#[c]⟩) (W.alloc (.cells #[.int .u8 (48 + (m : Int))] 5))) := fun W => conv_one W c (48 + m) hdn
      have HCW : Hid (∀ w1 : World, Below (w.alloc (.cells #[.int .u8 (48 + (m : Int))] 5)).heap.size (w.alloc (.cells #[.int .u8 (48 + (m : Int))] 5)) w1 → (convert 41 9 (.slice (some ⟨w.heap.size, 0, none⟩) 1 1)).run Tryz.prog w1 = .ok (.string ⟨#[c]⟩) w1) := fun w1 h => conv_later hdn h
      have hcv0 : (convert 41 9 (.slice (some ⟨w.heap.size, 0, none⟩) 1 1)).run Tryz.prog (w.alloc (.cells #[.int .u8 (48 + (m : Int))] 5)).drew = .ok (.string ⟨#[c]⟩) (w.alloc (.cells #[.int .u8 (48 + (m : Int))] 5)).drew := HCW.out _ (Below.refl _ _).drew
      have hcat2 : ¬ 9223372036854775807 < S.size + 1 := by omega
      clear ih hm hq hl hS hdn
      go_enter Tryz.func84, Tryz.ntmps84
      go_wp2_with fail
      go_region_with (first
        | (go_at_call 84; refine (IH.out _ hq64).mono ?_; rintro e w1 ⟨rfl, hb⟩; have hcv := HCW.out w1 ((Below.refl _ _).drew.trans hb); have HB := hid (((Below.refl w.heap.size w).alloc (Nat.le_refl _) (.cells #[.int .u8 (48 + (m : Int))] 5)).drew.trans (hb.mono (by simp))); clear hb)
        | (go_at_call 84; refine (IH.out _ hq64).mono ?_; rintro e w1 ⟨rfl, hb⟩; have hcv := HCV.out w1; have HB := hid ((((Below.refl w.heap.size w).drew.trans hb)).alloc (by have := hb.size; simpa using this) (.cells #[.int .u8 (48 + (m : Int))] 5)); clear hb))
      all_goals go_wp2
      all_goals go_ret
      all_goals refine ⟨?_, HB.out⟩
      all_goals rw [HE.out, ← HS.out]
      all_goals exact congrArg (fun x => Ending.returned (Value.string x)) (ba_append (Lib.decDigits q) [c])
end Go.Proofs.YtkngjbpbjjoneaaGreatDoor.Q
