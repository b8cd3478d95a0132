import Derived.Test.YtdhcjmlcpnljiaaDoorMSInt
import Derived.Test.YtdhcjmlcpnljiaaDoorMSWord
import Derived.Test.YtdhcjmlcpnljiaaDoorSOne
/-! Printed by gen_one.py. -/
namespace Go.Proofs.YtdhcjmlcpnljiaaDoor
open Go.RowKit
set_option maxRecDepth 20000
/-- What reading one token hands back: the token at place a, the place behind it, 0; or nothing, the place and a code. -/
def moneV (o : MOne) (a : Int) : Value :=
  if o.code = 0 then .tuple #[.agg #[.int .i64 o.kind, .string ⟨o.text.toArray⟩, .int .i64 o.ty, .int .i64 o.n, .int .i64 a], .int .i64 (a + o.size), .int .i64 0]
  else .tuple #[.agg #[.int .i64 0, .string ⟨#[]⟩, .int .i64 0, .int .i64 0, .int .i64 0], .int .i64 a, .int .i64 o.code]
theorem moneV_bad {o : MOne} {c : Nat} (h : o = MOne.bad c) (hc : c ≠ 0) (a : Int) : moneV o a = .tuple #[.agg #[.int .i64 0, .string ⟨#[]⟩, .int .i64 0, .int .i64 0, .int .i64 0], .int .i64 a, .int .i64 c] := by
  subst h; exact if_neg hc
theorem moneV_good {o : MOne} {k : Nat} {t : List UInt8} {y : Nat} {n : Int} {z : Nat} (h : o = ⟨k, t, y, n, z, 0⟩) (a : Int) : moneV o a = .tuple #[.agg #[.int .i64 k, .string ⟨t.toArray⟩, .int .i64 y, .int .i64 n, .int .i64 a], .int .i64 (a + z), .int .i64 0] := by
  subst h; unfold moneV; rw [if_pos rfl]
theorem below_set5 {w w1 : World} {a b c d e : Value} (h : Below w.heap.size w w1) : Below w.heap.size w (((((w1.setCell ⟨w.heap.size, 0, none⟩ a).setCell ⟨w.heap.size, 1, none⟩ b).setCell ⟨w.heap.size, 2, none⟩ c).setCell ⟨w.heap.size, 3, none⟩ d).setCell ⟨w.heap.size, 4, none⟩ e) :=
  ((((h.setCell (p := ⟨w.heap.size, 0, none⟩) (Nat.le_refl _) _).setCell (p := ⟨w.heap.size, 1, none⟩) (Nat.le_refl _) _).setCell (p := ⟨w.heap.size, 2, none⟩) (Nat.le_refl _) _).setCell (p := ⟨w.heap.size, 3, none⟩) (Nat.le_refl _) _).setCell (p := ⟨w.heap.size, 4, none⟩) (Nat.le_refl _) _
set_option maxHeartbeats 2000000 in
theorem l10One_name (s : ByteArray) (n : Nat) (w : World) (hs : s.size ≤ 12000) (hn : n < s.size) (hlt0 : mlt (s[n].toNat : Int) = true) :
    Calls Tryd.prog 17 #[.string s, .int .i64 n] w fun e w' => e = .returned (moneV (mname (s.data.toList.drop n)) n) ∧ Below w.heap.size w w' := by
  obtain ⟨L, hL⟩ : ∃ L, s.data.toList.drop n = L := ⟨_, rfl⟩
  rw [hL]
  have HL : Hid (s.data.toList.drop n = L) := hL
  clear hL
  have HLEN : Hid (L.length = s.size - n) := by show _ = _; rw [← HL.out, List.length_drop, len_size]
  have HRL := hid (run_le letB L)
  go_enter Tryd.func17, Tryd.ntmps17
  go_wp2_with (first
    | (go_at_call 25; refine (l10Letter_any _ _).mono ?_; rintro e w' ⟨rfl, hw⟩; have hw2 := hw.symm; clear hw; subst hw2)
    | (go_at_call 26; refine (l10Digit_any _ _).mono ?_; rintro e w' ⟨rfl, hw⟩; have hw2 := hw.symm; clear hw; subst hw2))
  go_loop [8] (fun e => ∃ k : Nat, k ≤ run letB L ∧ n + k ≤ s.size ∧ e = .int .i64 ((n + k : Nat) : Int)) (fun e => s.size - (intOf e).toNat)
  case atStart => exact ⟨0, Nat.zero_le _, by omega, rfl⟩
  case round =>
    obtain ⟨k, hk, hks, rfl⟩ := hrel
    by_cases hq : k < run letB L
    · have hlt : n + k < s.size := by have := HLEN.out; have := HRL.out; omega
      have hp : let_ (s[n + k].toNat : Int) = true := by
        have h1 := run_all letB L (run letB L) (Nat.le_refl _) k hq (by have := HLEN.out; omega)
        rw [drop_get _ L n k HL.out (by rw [len_size]; exact hlt)] at h1
        exact h1
      go_wp2_with (go_at_call 27; refine (l10Tail_any _ _).mono ?_; rintro e w' ⟨rfl, hw⟩; have hw2 := hw.symm; clear hw; subst hw2)
      go_round
      case rel => exact ⟨k + 1, by omega, by omega, by go_num⟩
      case measure => simp [intOf]; omega
    · have hke : k = run letB L := by omega
      have HTL : Hid ((s.extract n (n + k)).data.toList = L.take k) := by show _ = _; rw [extract_list s n k, HL.out]
      have HTX : Hid ((⟨(L.take k).toArray⟩ : ByteArray) = s.extract n (n + k)) := by show _ = _; rw [← HTL.out]
      have hsz : (s.extract n (n + k)).size = k := by simp; omega
      have HKE := hid hke
      clear hke
      by_cases hlt : n + k < s.size
      · have hp : let_ (s[n + k].toNat : Int) = false := by
          cases h : let_ (s[n + k].toNat : Int)
          · rfl
          · have h1 := run_step letB L k hk (by have := HLEN.out; omega) (by rw [drop_get _ L n k HL.out (by rw [len_size]; exact hlt)]; exact h)
            have := HKE.out; omega
        by_cases hw : L.take k ∈ mws
        · have HDEC : Hid (decide ((s.extract n (n + k)).data.toList ∈ mws) = true) := by show _ = _; rw [HTL.out]; simpa using hw
          have HE : Hid (moneV (mname L) n = .tuple #[.agg #[.int .i64 2, .string (s.extract n (n + k)), .int .i64 0, .int .i64 0, .int .i64 n], .int .i64 ((n + k : Nat) : Int), .int .i64 0]) := by
            show _ = _; rw [moneV_good (k := 2) (t := L.take k) (y := 0) (n := 0) (z := k) (by unfold mname; rw [← HKE.out, if_pos hw])]
            rw [HTX.out]; rfl
          clear hw HKE hk hq
          go_wp2_with (first
            | (go_at_call 25; refine (l10Letter_any _ _).mono ?_; rintro e w' ⟨rfl, hw⟩; have hw2 := hw.symm; clear hw; subst hw2)
            | (go_at_call 26; refine (l10Digit_any _ _).mono ?_; rintro e w' ⟨rfl, hw⟩; have hw2 := hw.symm; clear hw; subst hw2)
            | (go_at_call 27; refine (l10Tail_any _ _).mono ?_; rintro e w' ⟨rfl, hw⟩; have hw2 := hw.symm; clear hw; subst hw2)
            | (go_at_call 28; refine (l10Taken_any _ _).mono ?_; rintro e w1 ⟨rfl, hb⟩; rw [HDEC.out]; obtain ⟨hc, hf⟩ := bcell hb; have hz : w.heap.size + 1 ≤ w1.heap.size := by (have := hb.size; simp at this; omega)))
          have HBB := hid hb
          refine bodyPost_ret (v := .tuple #[.agg #[.int .i64 2, .string (s.extract n (n + k)), .int .i64 0, .int .i64 0, .int .i64 n], .int .i64 ((n + k : Nat) : Int), .int .i64 0]) (by simp [results, Tryd.results17, go_sem, hc]) rfl ⟨by rw [HE.out], ?_⟩
          exact below_set5 (Below.trans ((Below.refl w.heap.size w).alloc (Nat.le_refl _) _) (HBB.out.mono (B' := w.heap.size) (by simp)))
        · have HDEC : Hid (decide ((s.extract n (n + k)).data.toList ∈ mws) = false) := by show _ = _; rw [HTL.out]; simpa using hw
          by_cases h30 : 30 < k
          · have HE : Hid (moneV (mname L) n = .tuple #[.agg #[.int .i64 0, .string ⟨#[]⟩, .int .i64 0, .int .i64 0, .int .i64 0], .int .i64 n, .int .i64 5]) := by
              show _ = _; rw [moneV_bad (c := 5) (by unfold mname; rw [← HKE.out, if_neg hw, if_pos h30]) (by decide)]; rfl
            clear hw HKE hk hq
            go_wp2_with (first
              | (go_at_call 25; refine (l10Letter_any _ _).mono ?_; rintro e w' ⟨rfl, hw⟩; have hw2 := hw.symm; clear hw; subst hw2)
              | (go_at_call 26; refine (l10Digit_any _ _).mono ?_; rintro e w' ⟨rfl, hw⟩; have hw2 := hw.symm; clear hw; subst hw2)
              | (go_at_call 27; refine (l10Tail_any _ _).mono ?_; rintro e w' ⟨rfl, hw⟩; have hw2 := hw.symm; clear hw; subst hw2)
              | (go_at_call 28; refine (l10Taken_any _ _).mono ?_; rintro e w1 ⟨rfl, hb⟩; rw [HDEC.out]; obtain ⟨hc, hf⟩ := bcell hb; have hz : w.heap.size + 1 ≤ w1.heap.size := by (have := hb.size; simp at this; omega)))
            have HBB := hid hb
            refine bodyPost_ret (v := .tuple #[.agg #[.int .i64 0, .string ⟨#[]⟩, .int .i64 0, .int .i64 0, .int .i64 0], .int .i64 n, .int .i64 5]) (by simp [results, Tryd.results17, go_sem, hc]) rfl ⟨by rw [HE.out], ?_⟩
            exact below_set5 (Below.trans ((Below.refl w.heap.size w).alloc (Nat.le_refl _) _) (HBB.out.mono (B' := w.heap.size) (by simp)))
          · have HE : Hid (moneV (mname L) n = .tuple #[.agg #[.int .i64 1, .string (s.extract n (n + k)), .int .i64 0, .int .i64 0, .int .i64 n], .int .i64 ((n + k : Nat) : Int), .int .i64 0]) := by
              show _ = _; rw [moneV_good (k := 1) (t := L.take k) (y := 0) (n := 0) (z := k) (by unfold mname; rw [← HKE.out, if_neg hw, if_neg h30])]
              rw [HTX.out]; rfl
            clear hw HKE hk hq
            go_wp2_with (first
              | (go_at_call 25; refine (l10Letter_any _ _).mono ?_; rintro e w' ⟨rfl, hw⟩; have hw2 := hw.symm; clear hw; subst hw2)
              | (go_at_call 26; refine (l10Digit_any _ _).mono ?_; rintro e w' ⟨rfl, hw⟩; have hw2 := hw.symm; clear hw; subst hw2)
              | (go_at_call 27; refine (l10Tail_any _ _).mono ?_; rintro e w' ⟨rfl, hw⟩; have hw2 := hw.symm; clear hw; subst hw2)
              | (go_at_call 28; refine (l10Taken_any _ _).mono ?_; rintro e w1 ⟨rfl, hb⟩; rw [HDEC.out]; obtain ⟨hc, hf⟩ := bcell hb; have hz : w.heap.size + 1 ≤ w1.heap.size := by (have := hb.size; simp at this; omega)))
            have HBB := hid hb
            refine bodyPost_ret (v := .tuple #[.agg #[.int .i64 1, .string (s.extract n (n + k)), .int .i64 0, .int .i64 0, .int .i64 n], .int .i64 ((n + k : Nat) : Int), .int .i64 0]) (by simp [results, Tryd.results17, go_sem, hc]) rfl ⟨by rw [HE.out], ?_⟩
            exact below_set5 (Below.trans ((Below.refl w.heap.size w).alloc (Nat.le_refl _) _) (HBB.out.mono (B' := w.heap.size) (by simp)))
      · skip
        by_cases hw : L.take k ∈ mws
        · have HDEC : Hid (decide ((s.extract n (n + k)).data.toList ∈ mws) = true) := by show _ = _; rw [HTL.out]; simpa using hw
          have HE : Hid (moneV (mname L) n = .tuple #[.agg #[.int .i64 2, .string (s.extract n (n + k)), .int .i64 0, .int .i64 0, .int .i64 n], .int .i64 ((n + k : Nat) : Int), .int .i64 0]) := by
            show _ = _; rw [moneV_good (k := 2) (t := L.take k) (y := 0) (n := 0) (z := k) (by unfold mname; rw [← HKE.out, if_pos hw])]
            rw [HTX.out]; rfl
          clear hw HKE hk hq
          go_wp2_with (first
            | (go_at_call 25; refine (l10Letter_any _ _).mono ?_; rintro e w' ⟨rfl, hw⟩; have hw2 := hw.symm; clear hw; subst hw2)
            | (go_at_call 26; refine (l10Digit_any _ _).mono ?_; rintro e w' ⟨rfl, hw⟩; have hw2 := hw.symm; clear hw; subst hw2)
            | (go_at_call 27; refine (l10Tail_any _ _).mono ?_; rintro e w' ⟨rfl, hw⟩; have hw2 := hw.symm; clear hw; subst hw2)
            | (go_at_call 28; refine (l10Taken_any _ _).mono ?_; rintro e w1 ⟨rfl, hb⟩; rw [HDEC.out]; obtain ⟨hc, hf⟩ := bcell hb; have hz : w.heap.size + 1 ≤ w1.heap.size := by (have := hb.size; simp at this; omega)))
          have HBB := hid hb
          refine bodyPost_ret (v := .tuple #[.agg #[.int .i64 2, .string (s.extract n (n + k)), .int .i64 0, .int .i64 0, .int .i64 n], .int .i64 ((n + k : Nat) : Int), .int .i64 0]) (by simp [results, Tryd.results17, go_sem, hc]) rfl ⟨by rw [HE.out], ?_⟩
          exact below_set5 (Below.trans ((Below.refl w.heap.size w).alloc (Nat.le_refl _) _) (HBB.out.mono (B' := w.heap.size) (by simp)))
        · have HDEC : Hid (decide ((s.extract n (n + k)).data.toList ∈ mws) = false) := by show _ = _; rw [HTL.out]; simpa using hw
          by_cases h30 : 30 < k
          · have HE : Hid (moneV (mname L) n = .tuple #[.agg #[.int .i64 0, .string ⟨#[]⟩, .int .i64 0, .int .i64 0, .int .i64 0], .int .i64 n, .int .i64 5]) := by
              show _ = _; rw [moneV_bad (c := 5) (by unfold mname; rw [← HKE.out, if_neg hw, if_pos h30]) (by decide)]; rfl
            clear hw HKE hk hq
            go_wp2_with (first
              | (go_at_call 25; refine (l10Letter_any _ _).mono ?_; rintro e w' ⟨rfl, hw⟩; have hw2 := hw.symm; clear hw; subst hw2)
              | (go_at_call 26; refine (l10Digit_any _ _).mono ?_; rintro e w' ⟨rfl, hw⟩; have hw2 := hw.symm; clear hw; subst hw2)
              | (go_at_call 27; refine (l10Tail_any _ _).mono ?_; rintro e w' ⟨rfl, hw⟩; have hw2 := hw.symm; clear hw; subst hw2)
              | (go_at_call 28; refine (l10Taken_any _ _).mono ?_; rintro e w1 ⟨rfl, hb⟩; rw [HDEC.out]; obtain ⟨hc, hf⟩ := bcell hb; have hz : w.heap.size + 1 ≤ w1.heap.size := by (have := hb.size; simp at this; omega)))
            have HBB := hid hb
            refine bodyPost_ret (v := .tuple #[.agg #[.int .i64 0, .string ⟨#[]⟩, .int .i64 0, .int .i64 0, .int .i64 0], .int .i64 n, .int .i64 5]) (by simp [results, Tryd.results17, go_sem, hc]) rfl ⟨by rw [HE.out], ?_⟩
            exact below_set5 (Below.trans ((Below.refl w.heap.size w).alloc (Nat.le_refl _) _) (HBB.out.mono (B' := w.heap.size) (by simp)))
          · have HE : Hid (moneV (mname L) n = .tuple #[.agg #[.int .i64 1, .string (s.extract n (n + k)), .int .i64 0, .int .i64 0, .int .i64 n], .int .i64 ((n + k : Nat) : Int), .int .i64 0]) := by
              show _ = _; rw [moneV_good (k := 1) (t := L.take k) (y := 0) (n := 0) (z := k) (by unfold mname; rw [← HKE.out, if_neg hw, if_neg h30])]
              rw [HTX.out]; rfl
            clear hw HKE hk hq
            go_wp2_with (first
              | (go_at_call 25; refine (l10Letter_any _ _).mono ?_; rintro e w' ⟨rfl, hw⟩; have hw2 := hw.symm; clear hw; subst hw2)
              | (go_at_call 26; refine (l10Digit_any _ _).mono ?_; rintro e w' ⟨rfl, hw⟩; have hw2 := hw.symm; clear hw; subst hw2)
              | (go_at_call 27; refine (l10Tail_any _ _).mono ?_; rintro e w' ⟨rfl, hw⟩; have hw2 := hw.symm; clear hw; subst hw2)
              | (go_at_call 28; refine (l10Taken_any _ _).mono ?_; rintro e w1 ⟨rfl, hb⟩; rw [HDEC.out]; obtain ⟨hc, hf⟩ := bcell hb; have hz : w.heap.size + 1 ≤ w1.heap.size := by (have := hb.size; simp at this; omega)))
            have HBB := hid hb
            refine bodyPost_ret (v := .tuple #[.agg #[.int .i64 1, .string (s.extract n (n + k)), .int .i64 0, .int .i64 0, .int .i64 n], .int .i64 ((n + k : Nat) : Int), .int .i64 0]) (by simp [results, Tryd.results17, go_sem, hc]) rfl ⟨by rw [HE.out], ?_⟩
            exact below_set5 (Below.trans ((Below.refl w.heap.size w).alloc (Nat.le_refl _) _) (HBB.out.mono (B' := w.heap.size) (by simp)))
set_option maxHeartbeats 2000000 in
theorem l10One_num (s : ByteArray) (n : Nat) (w : World) (hs : s.size ≤ 12000) (hn : n < s.size) (hlt0 : mlt (s[n].toNat : Int) = false) (hd0 : dig (s[n].toNat : Int) = true) :
    Calls Tryd.prog 17 #[.string s, .int .i64 n] w fun e w' => e = .returned (moneV (mnum (s.data.toList.drop n)) n) ∧ Below w.heap.size w w' := by
  obtain ⟨L, hL⟩ : ∃ L, s.data.toList.drop n = L := ⟨_, rfl⟩
  rw [hL]
  have HL : Hid (s.data.toList.drop n = L) := hL
  clear hL
  have HLEN : Hid (L.length = s.size - n) := by show _ = _; rw [← HL.out, List.length_drop, len_size]
  have HRL := hid (run_le letB L)
  have hk0 : 1 ≤ run letB L := by
    have h := run_step letB L 0 (Nat.zero_le _) (by have := HLEN.out; omega) (by rw [drop_get _ L n 0 HL.out (by rw [len_size]; exact hn)]; exact dig_let hd0)
    omega
  have HD0 := hid hd0
  go_enter Tryd.func17, Tryd.ntmps17
  go_wp2_with (first
    | (go_at_call 25; refine (l10Letter_any _ _).mono ?_; rintro e w' ⟨rfl, hw⟩; have hw2 := hw.symm; clear hw; subst hw2)
    | (go_at_call 26; refine (l10Digit_any _ _).mono ?_; rintro e w' ⟨rfl, hw⟩; have hw2 := hw.symm; clear hw; subst hw2))
  go_loop [8] (fun e => ∃ k : Nat, k ≤ run letB L ∧ n + k ≤ s.size ∧ e = .int .i64 ((n + k : Nat) : Int)) (fun e => s.size - (intOf e).toNat)
  case atStart => exact ⟨0, Nat.zero_le _, by omega, rfl⟩
  case round =>
    obtain ⟨k, hk, hks, rfl⟩ := hrel
    by_cases hq : k < run letB L
    · have hlt : n + k < s.size := by have := HLEN.out; have := HRL.out; omega
      have hp : let_ (s[n + k].toNat : Int) = true := by
        have h1 := run_all letB L (run letB L) (Nat.le_refl _) k hq (by have := HLEN.out; omega)
        rw [drop_get _ L n k HL.out (by rw [len_size]; exact hlt)] at h1
        exact h1
      go_wp2_with (go_at_call 27; refine (l10Tail_any _ _).mono ?_; rintro e w' ⟨rfl, hw⟩; have hw2 := hw.symm; clear hw; subst hw2)
      go_round
      case rel => exact ⟨k + 1, by omega, by omega, by go_num⟩
      case measure => simp [intOf]; omega
    · have hke : k = run letB L := by omega
      have HTL : Hid ((s.extract n (n + k)).data.toList = L.take k) := by show _ = _; rw [extract_list s n k, HL.out]
      have HTX : Hid ((⟨(L.take k).toArray⟩ : ByteArray) = s.extract n (n + k)) := by show _ = _; rw [← HTL.out]
      have hsz : (s.extract n (n + k)).size = k := by simp; omega
      have HKE := hid hke
      clear hke
      by_cases hlt : n + k < s.size
      · have hp : let_ (s[n + k].toNat : Int) = false := by
          cases h : let_ (s[n + k].toNat : Int)
          · rfl
          · have h1 := run_step letB L k hk (by have := HLEN.out; omega) (by rw [drop_get _ L n k HL.out (by rw [len_size]; exact hlt)]; exact h)
            have := HKE.out; omega
        have HINT : Hid (∀ W : World, Calls Tryd.prog 29 #[.string (s.extract n (n + k))] W fun e w' => e = .returned (intV (mnum L)) ∧ w' = W) := fun W => by
          have h := l10Int_any (s.extract n (n + k)) W (by rw [hsz]; omega) (by rw [hsz, HKE.out]; exact hk0) (by have e : (s.extract n (n + k))[0]'(by rw [hsz, HKE.out]; exact hk0) = s[n] := (by simp [ByteArray.getElem_extract]); rw [e]; exact HD0.out)
          rw [HTL.out, HKE.out] at h
          rw [HKE.out]; exact h
        have HSZ : Hid ((mnum L).code = 0 → (mnum L).size = k ∧ (mnum L).kind = 3 ∧ (mnum L).text = []) := fun h => by
          unfold mnum mnumP at h ⊢
          split at h
          · simp [MOne.bad] at h
          · rename_i hx
            rw [if_neg hx]
            refine ⟨?_, rfl, rfl⟩
            show (L.take (run letB L)).length = k
            rw [List.length_take, HKE.out]; have := HRL.out; omega
        have HSB : Hid ((mnum L).code ≠ 0 → (mnum L).code = 3) := fun h => by
          unfold mnum mnumP at h ⊢
          split at h
          · rename_i hx; rw [if_pos hx]; rfl
          · exact absurd rfl h
        by_cases hc0 : (mnum L).code = 0
        · obtain ⟨z1, z2, z3⟩ := HSZ.out hc0
          have HIV : Hid (intV (mnum L) = .tuple #[.int .i64 (mnum L).ty, .int .i64 (mnum L).n, .bool true]) := if_pos hc0
          have HE : Hid (moneV (mnum L) n = .tuple #[.agg #[.int .i64 3, .string ⟨#[]⟩, .int .i64 (mnum L).ty, .int .i64 (mnum L).n, .int .i64 n], .int .i64 ((n + k : Nat) : Int), .int .i64 0]) := by
            show _ = _; unfold moneV; rw [if_pos hc0, z1, z2, z3]; rfl
          clear hc0 HSZ HSB z1 z2 z3 HKE hk hq
          go_wp2_with (first
            | (go_at_call 25; refine (l10Letter_any _ _).mono ?_; rintro e w' ⟨rfl, hw⟩; have hw2 := hw.symm; clear hw; subst hw2)
            | (go_at_call 26; refine (l10Digit_any _ _).mono ?_; rintro e w' ⟨rfl, hw⟩; have hw2 := hw.symm; clear hw; subst hw2)
            | (go_at_call 27; refine (l10Tail_any _ _).mono ?_; rintro e w' ⟨rfl, hw⟩; have hw2 := hw.symm; clear hw; subst hw2)
            | (go_at_call 29; refine (HINT.out _).mono ?_; rintro e w' ⟨rfl, hw⟩; have hw2 := hw.symm; clear hw; subst hw2; rw [HIV.out]))
          refine bodyPost_ret (v := .tuple #[.agg #[.int .i64 3, .string ⟨#[]⟩, .int .i64 (mnum L).ty, .int .i64 (mnum L).n, .int .i64 n], .int .i64 ((n + k : Nat) : Int), .int .i64 0]) (by simp [results, Tryd.results17, go_sem]) rfl ⟨by rw [HE.out], ?_⟩
          exact (Below.refl w.heap.size w).alloc (Nat.le_refl _) _
        · have z1 := HSB.out hc0
          have HIV : Hid (intV (mnum L) = .tuple #[.int .i64 0, .int .i64 0, .bool false]) := if_neg hc0
          have HE : Hid (moneV (mnum L) n = .tuple #[.agg #[.int .i64 0, .string ⟨#[]⟩, .int .i64 0, .int .i64 0, .int .i64 0], .int .i64 n, .int .i64 3]) := by
            show _ = _; unfold moneV; rw [if_neg hc0, z1]; rfl
          clear hc0 HSZ HSB z1 HKE hk hq
          go_wp2_with (first
            | (go_at_call 25; refine (l10Letter_any _ _).mono ?_; rintro e w' ⟨rfl, hw⟩; have hw2 := hw.symm; clear hw; subst hw2)
            | (go_at_call 26; refine (l10Digit_any _ _).mono ?_; rintro e w' ⟨rfl, hw⟩; have hw2 := hw.symm; clear hw; subst hw2)
            | (go_at_call 27; refine (l10Tail_any _ _).mono ?_; rintro e w' ⟨rfl, hw⟩; have hw2 := hw.symm; clear hw; subst hw2)
            | (go_at_call 29; refine (HINT.out _).mono ?_; rintro e w' ⟨rfl, hw⟩; have hw2 := hw.symm; clear hw; subst hw2; rw [HIV.out]))
          refine bodyPost_ret (v := .tuple #[.agg #[.int .i64 0, .string ⟨#[]⟩, .int .i64 0, .int .i64 0, .int .i64 0], .int .i64 n, .int .i64 3]) (by simp [results, Tryd.results17, go_sem]) rfl ⟨by rw [HE.out], ?_⟩
          exact (Below.refl w.heap.size w).alloc (Nat.le_refl _) _
      · skip
        have HINT : Hid (∀ W : World, Calls Tryd.prog 29 #[.string (s.extract n (n + k))] W fun e w' => e = .returned (intV (mnum L)) ∧ w' = W) := fun W => by
          have h := l10Int_any (s.extract n (n + k)) W (by rw [hsz]; omega) (by rw [hsz, HKE.out]; exact hk0) (by have e : (s.extract n (n + k))[0]'(by rw [hsz, HKE.out]; exact hk0) = s[n] := (by simp [ByteArray.getElem_extract]); rw [e]; exact HD0.out)
          rw [HTL.out, HKE.out] at h
          rw [HKE.out]; exact h
        have HSZ : Hid ((mnum L).code = 0 → (mnum L).size = k ∧ (mnum L).kind = 3 ∧ (mnum L).text = []) := fun h => by
          unfold mnum mnumP at h ⊢
          split at h
          · simp [MOne.bad] at h
          · rename_i hx
            rw [if_neg hx]
            refine ⟨?_, rfl, rfl⟩
            show (L.take (run letB L)).length = k
            rw [List.length_take, HKE.out]; have := HRL.out; omega
        have HSB : Hid ((mnum L).code ≠ 0 → (mnum L).code = 3) := fun h => by
          unfold mnum mnumP at h ⊢
          split at h
          · rename_i hx; rw [if_pos hx]; rfl
          · exact absurd rfl h
        by_cases hc0 : (mnum L).code = 0
        · obtain ⟨z1, z2, z3⟩ := HSZ.out hc0
          have HIV : Hid (intV (mnum L) = .tuple #[.int .i64 (mnum L).ty, .int .i64 (mnum L).n, .bool true]) := if_pos hc0
          have HE : Hid (moneV (mnum L) n = .tuple #[.agg #[.int .i64 3, .string ⟨#[]⟩, .int .i64 (mnum L).ty, .int .i64 (mnum L).n, .int .i64 n], .int .i64 ((n + k : Nat) : Int), .int .i64 0]) := by
            show _ = _; unfold moneV; rw [if_pos hc0, z1, z2, z3]; rfl
          clear hc0 HSZ HSB z1 z2 z3 HKE hk hq
          go_wp2_with (first
            | (go_at_call 25; refine (l10Letter_any _ _).mono ?_; rintro e w' ⟨rfl, hw⟩; have hw2 := hw.symm; clear hw; subst hw2)
            | (go_at_call 26; refine (l10Digit_any _ _).mono ?_; rintro e w' ⟨rfl, hw⟩; have hw2 := hw.symm; clear hw; subst hw2)
            | (go_at_call 27; refine (l10Tail_any _ _).mono ?_; rintro e w' ⟨rfl, hw⟩; have hw2 := hw.symm; clear hw; subst hw2)
            | (go_at_call 29; refine (HINT.out _).mono ?_; rintro e w' ⟨rfl, hw⟩; have hw2 := hw.symm; clear hw; subst hw2; rw [HIV.out]))
          refine bodyPost_ret (v := .tuple #[.agg #[.int .i64 3, .string ⟨#[]⟩, .int .i64 (mnum L).ty, .int .i64 (mnum L).n, .int .i64 n], .int .i64 ((n + k : Nat) : Int), .int .i64 0]) (by simp [results, Tryd.results17, go_sem]) rfl ⟨by rw [HE.out], ?_⟩
          exact (Below.refl w.heap.size w).alloc (Nat.le_refl _) _
        · have z1 := HSB.out hc0
          have HIV : Hid (intV (mnum L) = .tuple #[.int .i64 0, .int .i64 0, .bool false]) := if_neg hc0
          have HE : Hid (moneV (mnum L) n = .tuple #[.agg #[.int .i64 0, .string ⟨#[]⟩, .int .i64 0, .int .i64 0, .int .i64 0], .int .i64 n, .int .i64 3]) := by
            show _ = _; unfold moneV; rw [if_neg hc0, z1]; rfl
          clear hc0 HSZ HSB z1 HKE hk hq
          go_wp2_with (first
            | (go_at_call 25; refine (l10Letter_any _ _).mono ?_; rintro e w' ⟨rfl, hw⟩; have hw2 := hw.symm; clear hw; subst hw2)
            | (go_at_call 26; refine (l10Digit_any _ _).mono ?_; rintro e w' ⟨rfl, hw⟩; have hw2 := hw.symm; clear hw; subst hw2)
            | (go_at_call 27; refine (l10Tail_any _ _).mono ?_; rintro e w' ⟨rfl, hw⟩; have hw2 := hw.symm; clear hw; subst hw2)
            | (go_at_call 29; refine (HINT.out _).mono ?_; rintro e w' ⟨rfl, hw⟩; have hw2 := hw.symm; clear hw; subst hw2; rw [HIV.out]))
          refine bodyPost_ret (v := .tuple #[.agg #[.int .i64 0, .string ⟨#[]⟩, .int .i64 0, .int .i64 0, .int .i64 0], .int .i64 n, .int .i64 3]) (by simp [results, Tryd.results17, go_sem]) rfl ⟨by rw [HE.out], ?_⟩
          exact (Below.refl w.heap.size w).alloc (Nat.le_refl _) _
end Go.Proofs.YtdhcjmlcpnljiaaDoor
