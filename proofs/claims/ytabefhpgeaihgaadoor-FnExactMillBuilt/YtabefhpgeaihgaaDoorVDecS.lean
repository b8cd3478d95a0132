import Derived.Test.YtabefhpgeaihgaaDoorVRow
import Derived.Test.YtabefhpgeaihgaaDoorVAbs
import Derived.Deep.RegionWith
/-! The model's decimals: a cut of millprint's RDec. -/
namespace Go.Proofs.YtabefhpgeaihgaaDoor.V
open Go.RowKit Go.Shelf
set_option maxRecDepth 20000
theorem ba_append (a b : List UInt8) : (⟨a.toArray⟩ : ByteArray) ++ (⟨b.toArray⟩ : ByteArray) = ⟨(a ++ b).toArray⟩ := by
  apply ByteArray.ext
  simp
theorem conv_later {w w1 : World} {c : UInt8} {x : Int} (hx : x = c.toNat) (h : Below (w.alloc (.cells #[.int .u8 x] 5)).heap.size (w.alloc (.cells #[.int .u8 x] 5)) w1) :
    (convert 41 9 (.slice (some ⟨w.heap.size, 0, none⟩) 1 1)).run Tryd.prog w1 = .ok (.string ⟨#[c]⟩) w1 := by
  subst hx
  refine conv_row w1 w.heap.size _ [c] ⟨rfl, .inr ⟨w.heap.size, 1, #[.int .u8 c.toNat], rfl, Nat.le_refl _, ?_, Nat.le_refl _, by unfold maxLen; omega, rfl, rfl⟩⟩
  rw [h.block w.heap.size (by simp)]
  exact heap_alloc_new w _
set_option maxHeartbeats 2000000 in
theorem l10Decimal_any : ∀ (n : Nat) (w : World), n < 18446744073709551616 →
    Calls Tryd.prog 25 #[.int .u64 n] w fun e w' => e = .returned (.string ⟨(Lib.decDigits n).toArray⟩) ∧ Below w.heap.size w w' := by
  intro n
  induction n using Nat.strongRecOn with
  | _ n ih =>
    intro w hn
    by_cases h : n < 10
    · have HE : Hid (Lib.decDigits n = [UInt8.ofNat (48 + n)]) := Lib.decDigits_one h
      have hlt : (n : Int) < 10 := by omega
      have w1 : IntKind.u64.wrap (48 + (n : Int)) = 48 + n := by rw [IntKind.wrap_u64]; omega
      have w2 : IntKind.u8.wrap (48 + (n : Int)) = 48 + n := by rw [IntKind.wrap_u8]; omega
      have hdn := dig_nat n h
      generalize UInt8.ofNat (48 + n) = c at *
      have hcv := conv_one w c (48 + n) hdn
      clear ih hdn
      go_enter Tryd.func25, Tryd.ntmps25
      go_wp2
      go_ret
      exact ⟨by rw [HE.out]; rfl, (Below.refl _ _).alloc (Nat.le_refl _) _⟩
    · have HE : Hid (Lib.decDigits n = Lib.decDigits (n / 10) ++ [UInt8.ofNat (48 + n % 10)]) := by
        show _ = _
        rw [Lib.decDigits, dif_neg h]
      have hlt : ¬ (n : Int) < 10 := by omega
      have hD : (n : Int) / 10 = ((n / 10 : Nat) : Int) := by omega
      have hM : (n : Int).tmod 10 = ((n % 10 : Nat) : Int) := by rw [Int.tmod_eq_emod_of_nonneg (by omega)]; omega
      have hD2 : (n : Int).tdiv 10 = ((n / 10 : Nat) : Int) := by rw [Int.tdiv_eq_ediv_of_nonneg (by omega)]; omega
      have IH := hid (ih (n / 10) (by omega))
      have hl := decDigits_len (n / 10) (by omega)
      have hdn := dig_nat (n % 10) (by omega)
      obtain ⟨m, hm⟩ : ∃ m, n % 10 = m := ⟨_, rfl⟩
      obtain ⟨q, hq⟩ : ∃ q, n / 10 = q := ⟨_, rfl⟩
      rw [hm] at HE hM hdn
      rw [hq] at HE hD hD2 IH hl
      have hm10 : m < 10 := by omega
      have hq64 : q < 18446744073709551616 := by omega
      have w0 : IntKind.u64.wrap (q : Int) = q := by rw [IntKind.wrap_u64]; omega
      have w3 : IntKind.u64.wrap (m : Int) = m := by rw [IntKind.wrap_u64]; omega
      have w1 : IntKind.u64.wrap (48 + (m : Int)) = 48 + m := by rw [IntKind.wrap_u64]; omega
      have w2 : IntKind.u8.wrap (48 + (m : Int)) = 48 + m := by rw [IntKind.wrap_u8]; omega
      generalize UInt8.ofNat (48 + m) = c at *
      generalize hS : (⟨(Lib.decDigits q).toArray⟩ : ByteArray) = S at *
      have hsz : S.size ≤ 20 := by rw [← hS]; simpa [ByteArray.size] using hl
      have hcat : ¬ 9223372036854775807 < S.size + (⟨#[c]⟩ : ByteArray).size := by
        have : (⟨#[c]⟩ : ByteArray).size = 1 := rfl
        omega
      have HS := hid hS
      have HCV : Hid (∀ W : World, (convert 41 9 (.slice (some ⟨W.heap.size, 0, none⟩) 1 1)).run Tryd.prog (W.alloc (.cells #[.int .u8 (48 + (m : Int))] 5)) = .ok (.string ⟨#[c]⟩) (W.alloc (.cells #[.int .u8 (48 + (m : Int))] 5))) := fun W => conv_one W c (48 + m) hdn
      have HCW : Hid (∀ w1 : World, Below (w.alloc (.cells #[.int .u8 (48 + (m : Int))] 5)).heap.size (w.alloc (.cells #[.int .u8 (48 + (m : Int))] 5)) w1 → (convert 41 9 (.slice (some ⟨w.heap.size, 0, none⟩) 1 1)).run Tryd.prog w1 = .ok (.string ⟨#[c]⟩) w1) := fun w1 h => conv_later hdn h
      have hcv0 : (convert 41 9 (.slice (some ⟨w.heap.size, 0, none⟩) 1 1)).run Tryd.prog (w.alloc (.cells #[.int .u8 (48 + (m : Int))] 5)).drew = .ok (.string ⟨#[c]⟩) (w.alloc (.cells #[.int .u8 (48 + (m : Int))] 5)).drew := HCW.out _ (Below.refl _ _).drew
      have hcat2 : ¬ 9223372036854775807 < S.size + 1 := by omega
      clear ih hm hq hl hS hdn
      go_enter Tryd.func25, Tryd.ntmps25
      go_wp2_with fail
      go_region_with (first
        | (go_at_call 25; refine (IH.out _ hq64).mono ?_; rintro e w1 ⟨rfl, hb⟩; have hcv := HCW.out w1 ((Below.refl _ _).drew.trans hb); have HB := hid (((Below.refl w.heap.size w).alloc (Nat.le_refl _) (.cells #[.int .u8 (48 + (m : Int))] 5)).drew.trans (hb.mono (by simp))); clear hb)
        | (go_at_call 25; refine (IH.out _ hq64).mono ?_; rintro e w1 ⟨rfl, hb⟩; have hcv := HCV.out w1; have HB := hid ((((Below.refl w.heap.size w).drew.trans hb)).alloc (by have := hb.size; simpa using this) (.cells #[.int .u8 (48 + (m : Int))] 5)); clear hb))
      all_goals go_wp2
      all_goals go_ret
      all_goals refine ⟨?_, HB.out⟩
      all_goals rw [HE.out, ← HS.out]
      all_goals exact congrArg (fun x => Ending.returned (Value.string x)) (ba_append (Lib.decDigits q) [c])
/-- The decimal of a number of a type. -/
def decT (t n : Int) : List UInt8 := if negT t n then 45 :: Lib.decDigits (absT t n).toNat else Lib.decDigits (absT t n).toNat
theorem absT_bd (t n : Int) (h1 : -9223372036854775808 ≤ n) (h2 : n ≤ 9223372036854775807) : 0 ≤ absT t n ∧ absT t n ≤ 18446744073709551615 := by
  unfold absT
  split
  · rename_i h
    simp [negT] at h
    omega
  · exact u64_bd n
set_option maxHeartbeats 2000000 in
theorem l13Dec_any (t n : Int) (h3 : 3 ≤ t) (h10 : t ≤ 10) (h1 : -9223372036854775808 ≤ n) (h2 : n ≤ 9223372036854775807) (w : World) :
    Calls Tryd.prog 16 #[.int .i64 t, .int .i64 n] w fun e w' => e = .returned (.string ⟨(decT t n).toArray⟩) ∧ Below w.heap.size w w' := by
  have HA := hid (l13Abs_any t n h3 h10 h1 h2)
  obtain ⟨b1, b2⟩ := absT_bd t n h1 h2
  obtain ⟨u, hu⟩ := Int.eq_ofNat_of_zero_le b1
  have HD := hid (fun W => l10Decimal_any u W (by omega))
  have HT : Hid (decT t n = if negT t n then 45 :: Lib.decDigits u else Lib.decDigits u) := by
    show _ = _
    unfold decT
    rw [hu]
    simp
  have hl := decDigits_len u (by omega)
  rw [hu] at HA b2
  clear hu b1
  cases hN : negT t n
  · rw [hN] at HA HT
    have HTT : Hid (decT t n = Lib.decDigits u) := by show _ = _; rw [HT.out, if_neg (by decide)]
    clear HT hN
    go_enter Tryd.func16, Tryd.ntmps16
    go_wp2_with fail
    refine (HA.out _).mono ?_
    rintro e w1 ⟨rfl, hb1⟩
    have HB1 := hid hb1
    clear hb1
    go_wp2_with fail
    refine (HD.out _).mono ?_
    rintro e w2 ⟨rfl, hb2⟩
    have HB2 := hid (HB1.out.trans (hb2.mono HB1.out.size))
    clear hb2
    go_wp2
    go_ret
    exact ⟨by rw [HTT.out]; rfl, HB2.out⟩
  · rw [hN] at HA HT
    have HTT : Hid (decT t n = 45 :: Lib.decDigits u) := by show _ = _; rw [HT.out, if_pos rfl]
    clear HT hN
    obtain ⟨S, hS⟩ : ∃ S : ByteArray, ⟨(Lib.decDigits u).toArray⟩ = S := ⟨_, rfl⟩
    have hsz : S.size ≤ 20 := by rw [← hS]; simpa [ByteArray.size] using hl
    rw [hS] at HD
    have HS := hid hS
    clear hS hl
    go_enter Tryd.func16, Tryd.ntmps16
    go_wp2_with fail
    refine (HA.out _).mono ?_
    rintro e w1 ⟨rfl, hb1⟩
    have HB1 := hid hb1
    clear hb1
    go_wp2_with fail
    refine (HD.out _).mono ?_
    rintro e w2 ⟨rfl, hb2⟩
    have HB2 := hid (HB1.out.trans (hb2.mono HB1.out.size))
    clear hb2
    go_wp2
    go_ret
    exact ⟨by rw [HTT.out, ← HS.out]; exact congrArg (fun x => Ending.returned (Value.string x)) (ba_append [45] (Lib.decDigits u)), HB2.out⟩
end Go.Proofs.YtabefhpgeaihgaaDoor.V
