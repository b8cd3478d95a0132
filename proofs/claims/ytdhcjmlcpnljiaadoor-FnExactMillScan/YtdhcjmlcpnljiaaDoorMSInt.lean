import Derived.Test.YtdhcjmlcpnljiaaDoorMNum
/-! Printed by gen_int.py. -/
namespace Go.Proofs.YtdhcjmlcpnljiaaDoor
open Go.RowKit
set_option maxRecDepth 20000
set_option maxHeartbeats 4000000 in
theorem l10Int_any (s : ByteArray) (w : World) (hs : s.size ≤ 12000) (hp : 0 < s.size) (hd0 : digB s[0] = true) :
    Calls Tryd.prog 29 #[.string s] w fun e w' => e = .returned (intV (mnumP s.data.toList)) ∧ w' = w := by
  obtain ⟨P, hP⟩ : ∃ P, s.data.toList = P := ⟨_, rfl⟩
  have hPl : P.length = s.size := by rw [← hP, len_size]
  have hget : ∀ j (h : j < s.size) (h2 : j < P.length), P[j] = s[j] := by subst hP; exact fun j h h2 => rfl
  obtain ⟨k, hk⟩ : ∃ k, run digB P = k := ⟨_, rfl⟩
  obtain ⟨T, hTe⟩ : ∃ T, numTy P = T := ⟨_, rfl⟩
  obtain ⟨M, hM⟩ : ∃ M, mmax T = M := ⟨_, rfl⟩
  have hT : T ≤ 10 := by rw [← hTe]; exact numTy_le P
  have hMb := mmax_le T
  rw [hM] at hMb
  obtain ⟨hM1, hM2⟩ := hMb
  have hkl : k ≤ s.size := by rw [← hPl, ← hk]; exact run_le _ _
  have hk1 : 1 ≤ k := by
    rw [← hk]
    have h1 := hget 0 hp (by omega)
    exact run_step digB P 0 (Nat.zero_le _) (by omega) (by rw [h1]; exact hd0)
  have hz : P.take 1 = [48] ↔ s[0].toNat = 48 := by
    have h2 : P.take 1 = [s[0]] := take1 s.data.toList P 0 (by rw [List.drop_zero]; exact hP) (by rw [len_size]; exact hp)
    rw [h2]; exact sing48 _
  have HTYD : Hid (k < s.size → mtype (s.extract k s.size).data.toList = T) := fun h => by
    rw [extract_end, hP, ← hTe]; unfold numTy; rw [hk, if_pos (by omega)]
  have HTYE : Hid (¬ k < s.size → T = 10) := fun h => by
    rw [← hTe]; unfold numTy; rw [hk, if_neg (by omega)]
  have HBADA : Hid (T < 3 → intV (mnumP P) = .tuple #[.int .i64 0, .int .i64 0, .bool false]) := fun h => intV_bad (mnumP_bad (.inl (by rw [hTe]; exact h)))
  have HBADB : Hid (20 < k → intV (mnumP P) = .tuple #[.int .i64 0, .int .i64 0, .bool false]) := fun h => intV_bad (mnumP_long P (by omega) (by omega) (by omega))
  have HBADC : Hid (s[0].toNat = 48 → 1 < k → intV (mnumP P) = .tuple #[.int .i64 0, .int .i64 0, .bool false]) := fun h h2 => intV_bad (mnumP_bad (.inr (.inl ⟨hz.2 h, by omega⟩)))
  have HBAD : Hid (∀ j, j < k → M < dval (P.take (j + 1)) → intV (mnumP P) = .tuple #[.int .i64 0, .int .i64 0, .bool false]) := fun j hj h => by
    refine intV_bad (mnumP_bad (.inr (.inr ?_)))
    rw [hTe, hM, hk]
    exact Nat.lt_of_lt_of_le h (dval_take_mono P (j + 1) k (by omega))
  have HGD : Hid (3 ≤ T → ¬ (s[0].toNat = 48 ∧ 1 < k) → dval (P.take k) ≤ M → intV (mnumP P) = .tuple #[.int .i64 T, .int .i64 (s64 (dval (P.take k))), .bool true]) := fun h1 h2 h3 => by
    have h := mnumP_good (p := P) (by omega) (by rw [hz, hk]; exact h2) (by rw [hTe, hM, hk]; exact h3)
    rw [hTe, hk] at h
    exact intV_good h
  have HDG : Hid (∀ j, j < k → 48 ≤ (s[j]!.toNat : Int) ∧ (s[j]!.toNat : Int) ≤ 57 ∧ dval (P.take (j + 1)) = dval (P.take j) * 10 + (s[j]!.toNat - 48)) := fun j hj => by
    have hjs : j < s.size := by omega
    have e : s[j]! = s[j] := getElem!_pos s j hjs
    have h1 := run_all digB P k (by omega) j hj (by omega)
    rw [hget j hjs (by omega)] at h1
    have h2 := (digB_iff _).1 h1
    have h3 := dval_step P j (by omega)
    rw [hget j hjs (by omega)] at h3
    rw [e]
    exact ⟨by omega, by omega, h3⟩
  have HSTOP : Hid (∀ h : k < s.size, dig (s[k].toNat : Int) = false) := fun h => by
    cases hb : dig (s[k].toNat : Int)
    · rfl
    · have h1 := hget k h (by omega)
      have := run_step digB P k (by omega) (by omega) (by rw [h1]; exact hb)
      omega
  have HMX : Hid (3 ≤ T → ∀ W, Calls Tryd.prog 52 #[.int .i64 T] W fun e w' => e = .returned (.int .u64 M) ∧ w' = W) := fun h W => by rw [← hM]; exact l10Max_any T h hT W
  rw [hP]
  have HP := hid hP
  clear hP hPl hget hk hTe hM hz hd0
  go_enter Tryd.func29, Tryd.ntmps29
  go_wp2
  go_loop [5] (fun i => ∃ j : Nat, j ≤ k ∧ i = .int .i64 j) (fun i => k - (intOf i).toNat)
  case atStart => exact ⟨0, Nat.zero_le _, rfl⟩
  case round =>
    obtain ⟨j, hj, rfl⟩ := hrel
    by_cases hlt : j < k
    · have hjs : j < s.size := by omega
      have hdj : dig (s[j].toNat : Int) = true := by
        have h := HDG.out j hlt
        rw [getElem!_pos s j hjs] at h
        unfold dig; simp; omega
      go_wp2_with (go_at_call 26; refine (l10Digit_any _ _).mono ?_; rintro e w' ⟨rfl, hw⟩; have hw2 := hw.symm; clear hw; subst hw2)
      go_round
      case rel => exact ⟨j + 1, by omega, by go_num⟩
      case measure => simp [intOf]; omega
    · have hje : j = k := by omega
      subst hje
      clear hlt hj
      by_cases hks : j < s.size
      · have hdk := HSTOP.out hks
        have HTY : Hid (mtype (s.extract j s.size).data.toList = T) := HTYD.out hks
        have hks' : (j : Int) < s.size := by omega
        clear HTYD HTYE HSTOP
        by_cases h3 : T < 3
        · have HE := hid (HBADA.out h3)
          clear HBADA HBADB HBADC HBAD HGD HDG HMX
          have HI : Hid (decide (3 ≤ T) = false) := decide_eq_false (by omega)
          go_wp2_with (first
            | (go_at_call 26; refine (l10Digit_any _ _).mono ?_; rintro e w' ⟨rfl, hw⟩; have hw2 := hw.symm; clear hw; subst hw2)
            | (go_at_call 48; refine (l10Type_any _ _).mono ?_; rintro e w' ⟨rfl, hw⟩; have hw2 := hw.symm; clear hw; subst hw2; rw [HTY.out])
            | (go_at_call 51; refine (l10Integer_any T hT _).mono ?_; rintro e w' ⟨rfl, hw⟩; have hw2 := hw.symm; clear hw; subst hw2; rw [HI.out]))
          go_ret3
          exact ⟨by rw [HE.out]; rfl, rfl⟩
        · have h3 : 3 ≤ T := by omega
          by_cases h20 : 20 < j
          · have HE := hid (HBADB.out h20)
            have h20' : 20 < (j : Int) := by omega
            clear HBADA HBADB HBADC HBAD HGD HDG HMX
            have HI : Hid (decide (3 ≤ T) = true) := decide_eq_true h3
            go_wp2_with (first
              | (go_at_call 26; refine (l10Digit_any _ _).mono ?_; rintro e w' ⟨rfl, hw⟩; have hw2 := hw.symm; clear hw; subst hw2)
              | (go_at_call 48; refine (l10Type_any _ _).mono ?_; rintro e w' ⟨rfl, hw⟩; have hw2 := hw.symm; clear hw; subst hw2; rw [HTY.out])
              | (go_at_call 51; refine (l10Integer_any T hT _).mono ?_; rintro e w' ⟨rfl, hw⟩; have hw2 := hw.symm; clear hw; subst hw2; rw [HI.out]))
            go_ret3
            exact ⟨by rw [HE.out]; rfl, rfl⟩
          · have h20' : (j : Int) ≤ 20 := by omega
            have HMX := hid (HMX.out h3)
            by_cases h1 : 1 < j
            · have h1' : 1 < (j : Int) := by omega
              by_cases h48 : s[0].toNat = 48
              · have h48' : ((s[0].toNat : Int) == 48) = true := by rw [beq_iff_eq]; omega
                have HE := hid (HBADC.out h48 h1)
                clear HBADA HBADB HBADC HBAD HGD HDG HMX h48
                have HI : Hid (decide (3 ≤ T) = true) := decide_eq_true h3
                go_wp2_with (first
                  | (go_at_call 26; refine (l10Digit_any _ _).mono ?_; rintro e w' ⟨rfl, hw⟩; have hw2 := hw.symm; clear hw; subst hw2)
                  | (go_at_call 48; refine (l10Type_any _ _).mono ?_; rintro e w' ⟨rfl, hw⟩; have hw2 := hw.symm; clear hw; subst hw2; rw [HTY.out])
                  | (go_at_call 51; refine (l10Integer_any T hT _).mono ?_; rintro e w' ⟨rfl, hw⟩; have hw2 := hw.symm; clear hw; subst hw2; rw [HI.out]))
                go_ret3
                exact ⟨by rw [HE.out]; rfl, rfl⟩
              · have h48' : ((s[0].toNat : Int) == 48) = false := by rw [beq_eq_false_iff_ne]; omega
                have HGOOD : Hid (dval (P.take j) ≤ M → intV (mnumP P) = .tuple #[.int .i64 T, .int .i64 (s64 (dval (P.take j))), .bool true]) := fun h => HGD.out h3 (by omega) h
                have HDG : Hid (∀ i, i < j → ∃ (h : i < s.size), 48 ≤ (s[i].toNat : Int) ∧ (s[i].toNat : Int) ≤ 57 ∧ dval (P.take (i + 1)) = dval (P.take i) * 10 + (s[i].toNat - 48)) := fun i hi => ⟨by omega, by have h := HDG.out i hi; rw [getElem!_pos s i (by omega)] at h; exact h⟩
                clear HBADA HBADB HBADC HGD
                clear h48
                have HI : Hid (decide (3 ≤ T) = true) := decide_eq_true h3
                go_wp2_with (first
                  | (go_at_call 26; refine (l10Digit_any _ _).mono ?_; rintro e w' ⟨rfl, hw⟩; have hw2 := hw.symm; clear hw; subst hw2)
                  | (go_at_call 48; refine (l10Type_any _ _).mono ?_; rintro e w' ⟨rfl, hw⟩; have hw2 := hw.symm; clear hw; subst hw2; rw [HTY.out])
                  | (go_at_call 51; refine (l10Integer_any T hT _).mono ?_; rintro e w' ⟨rfl, hw⟩; have hw2 := hw.symm; clear hw; subst hw2; rw [HI.out]))
                go_loop [7, 8] (fun n i => ∃ m : Nat, m ≤ j ∧ i = .int .i64 m ∧ n = .int .u64 (dval (P.take m)) ∧ dval (P.take m) ≤ M) (fun _ i => j - (intOf i).toNat)
                case atStart => exact ⟨0, Nat.zero_le _, rfl, rfl, Nat.zero_le _⟩
                case round =>
                  obtain ⟨m, hj, rfl, rfl, hjm⟩ := hrel
                  by_cases hjl : m < j
                  · obtain ⟨hjs, hd1, hd2, hdv⟩ := HDG.out m hjl
                    have HDV := hid hdv
                    have hq0 : (10 : Int) ≠ 0 := by omega
                    clear hdv
                    generalize hv : dval (P.take m) = v at *
                    by_cases hov : (M - (s[m].toNat - 48)) / 10 < v
                    · have hov' : ((M : Int) - ((s[m].toNat : Int) - 48)) / 10 < (v : Int) := by omega
                      have HE := hid (HBAD.out m hjl (by rw [HDV.out]; omega))
                      clear hov hv
                      go_wp2_with (go_at_call 52; refine (HMX.out _).mono ?_; rintro e w' ⟨rfl, hw⟩; have hw2 := hw.symm; clear hw; subst hw2)
                      go_ret3
                      exact ⟨by rw [HE.out]; rfl, rfl⟩
                    · have hov' : (v : Int) ≤ ((M : Int) - ((s[m].toNat : Int) - 48)) / 10 := by omega
                      have hov2 : (v : Int) * 10 + ((s[m].toNat : Int) - 48) ≤ M := by omega
                      clear hov hv
                      go_wp2_with (go_at_call 52; refine (HMX.out _).mono ?_; rintro e w' ⟨rfl, hw⟩; have hw2 := hw.symm; clear hw; subst hw2)
                      go_round
                      case rel => exact ⟨m + 1, by omega, by go_num, by rw [HDV.out]; go_num, by rw [HDV.out]; omega⟩
                      case measure => simp [intOf]; omega
                  · have hje : m = j := by omega
                    subst hje
                    have HE := hid (HGOOD.out hjm)
                    have hw64 := s64_wrap (dval (P.take m)) (by omega)
                    go_wp2
                    go_ret3
                    exact ⟨by rw [HE.out]; rfl, rfl⟩
            · have h1' : (j : Int) ≤ 1 := by omega
              have HGOOD : Hid (dval (P.take j) ≤ M → intV (mnumP P) = .tuple #[.int .i64 T, .int .i64 (s64 (dval (P.take j))), .bool true]) := fun h => HGD.out h3 (by omega) h
              have HDG : Hid (∀ i, i < j → ∃ (h : i < s.size), 48 ≤ (s[i].toNat : Int) ∧ (s[i].toNat : Int) ≤ 57 ∧ dval (P.take (i + 1)) = dval (P.take i) * 10 + (s[i].toNat - 48)) := fun i hi => ⟨by omega, by have h := HDG.out i hi; rw [getElem!_pos s i (by omega)] at h; exact h⟩
              clear HBADA HBADB HBADC HGD
              have HI : Hid (decide (3 ≤ T) = true) := decide_eq_true h3
              go_wp2_with (first
                | (go_at_call 26; refine (l10Digit_any _ _).mono ?_; rintro e w' ⟨rfl, hw⟩; have hw2 := hw.symm; clear hw; subst hw2)
                | (go_at_call 48; refine (l10Type_any _ _).mono ?_; rintro e w' ⟨rfl, hw⟩; have hw2 := hw.symm; clear hw; subst hw2; rw [HTY.out])
                | (go_at_call 51; refine (l10Integer_any T hT _).mono ?_; rintro e w' ⟨rfl, hw⟩; have hw2 := hw.symm; clear hw; subst hw2; rw [HI.out]))
              go_loop [7, 8] (fun n i => ∃ m : Nat, m ≤ j ∧ i = .int .i64 m ∧ n = .int .u64 (dval (P.take m)) ∧ dval (P.take m) ≤ M) (fun _ i => j - (intOf i).toNat)
              case atStart => exact ⟨0, Nat.zero_le _, rfl, rfl, Nat.zero_le _⟩
              case round =>
                obtain ⟨m, hj, rfl, rfl, hjm⟩ := hrel
                by_cases hjl : m < j
                · obtain ⟨hjs, hd1, hd2, hdv⟩ := HDG.out m hjl
                  have HDV := hid hdv
                  have hq0 : (10 : Int) ≠ 0 := by omega
                  clear hdv
                  generalize hv : dval (P.take m) = v at *
                  by_cases hov : (M - (s[m].toNat - 48)) / 10 < v
                  · have hov' : ((M : Int) - ((s[m].toNat : Int) - 48)) / 10 < (v : Int) := by omega
                    have HE := hid (HBAD.out m hjl (by rw [HDV.out]; omega))
                    clear hov hv
                    go_wp2_with (go_at_call 52; refine (HMX.out _).mono ?_; rintro e w' ⟨rfl, hw⟩; have hw2 := hw.symm; clear hw; subst hw2)
                    go_ret3
                    exact ⟨by rw [HE.out]; rfl, rfl⟩
                  · have hov' : (v : Int) ≤ ((M : Int) - ((s[m].toNat : Int) - 48)) / 10 := by omega
                    have hov2 : (v : Int) * 10 + ((s[m].toNat : Int) - 48) ≤ M := by omega
                    clear hov hv
                    go_wp2_with (go_at_call 52; refine (HMX.out _).mono ?_; rintro e w' ⟨rfl, hw⟩; have hw2 := hw.symm; clear hw; subst hw2)
                    go_round
                    case rel => exact ⟨m + 1, by omega, by go_num, by rw [HDV.out]; go_num, by rw [HDV.out]; omega⟩
                    case measure => simp [intOf]; omega
                · have hje : m = j := by omega
                  subst hje
                  have HE := hid (HGOOD.out hjm)
                  have hw64 := s64_wrap (dval (P.take m)) (by omega)
                  go_wp2
                  go_ret3
                  exact ⟨by rw [HE.out]; rfl, rfl⟩
      · have hT10 : T = 10 := HTYE.out hks
        have hks' : ¬ (j : Int) < s.size := by omega
        have HTY : Hid (mtype [] = mtype []) := rfl
        subst hT10
        clear HTYD HTYE HSTOP
        have h3 : 3 ≤ 10 := by omega
        by_cases h20 : 20 < j
        · have HE := hid (HBADB.out h20)
          have h20' : 20 < (j : Int) := by omega
          clear HBADA HBADB HBADC HBAD HGD HDG HMX
          have HI : Hid (decide (3 ≤ 10) = true) := decide_eq_true h3
          go_wp2_with (first
            | (go_at_call 26; refine (l10Digit_any _ _).mono ?_; rintro e w' ⟨rfl, hw⟩; have hw2 := hw.symm; clear hw; subst hw2)
            | (go_at_call 48; refine (l10Type_any _ _).mono ?_; rintro e w' ⟨rfl, hw⟩; have hw2 := hw.symm; clear hw; subst hw2; rw [HTY.out])
            | (go_at_call 51; refine (l10Integer_any 10 (by omega) _).mono ?_; rintro e w' ⟨rfl, hw⟩; have hw2 := hw.symm; clear hw; subst hw2; rw [HI.out]))
          go_ret3
          exact ⟨by rw [HE.out]; rfl, rfl⟩
        · have h20' : (j : Int) ≤ 20 := by omega
          have HMX := hid (HMX.out h3)
          by_cases h1 : 1 < j
          · have h1' : 1 < (j : Int) := by omega
            by_cases h48 : s[0].toNat = 48
            · have h48' : ((s[0].toNat : Int) == 48) = true := by rw [beq_iff_eq]; omega
              have HE := hid (HBADC.out h48 h1)
              clear HBADA HBADB HBADC HBAD HGD HDG HMX h48
              have HI : Hid (decide (3 ≤ 10) = true) := decide_eq_true h3
              go_wp2_with (first
                | (go_at_call 26; refine (l10Digit_any _ _).mono ?_; rintro e w' ⟨rfl, hw⟩; have hw2 := hw.symm; clear hw; subst hw2)
                | (go_at_call 48; refine (l10Type_any _ _).mono ?_; rintro e w' ⟨rfl, hw⟩; have hw2 := hw.symm; clear hw; subst hw2; rw [HTY.out])
                | (go_at_call 51; refine (l10Integer_any 10 (by omega) _).mono ?_; rintro e w' ⟨rfl, hw⟩; have hw2 := hw.symm; clear hw; subst hw2; rw [HI.out]))
              go_ret3
              exact ⟨by rw [HE.out]; rfl, rfl⟩
            · have h48' : ((s[0].toNat : Int) == 48) = false := by rw [beq_eq_false_iff_ne]; omega
              have HGOOD : Hid (dval (P.take j) ≤ M → intV (mnumP P) = .tuple #[.int .i64 (10 : Nat), .int .i64 (s64 (dval (P.take j))), .bool true]) := fun h => HGD.out h3 (by omega) h
              have HDG : Hid (∀ i, i < j → ∃ (h : i < s.size), 48 ≤ (s[i].toNat : Int) ∧ (s[i].toNat : Int) ≤ 57 ∧ dval (P.take (i + 1)) = dval (P.take i) * 10 + (s[i].toNat - 48)) := fun i hi => ⟨by omega, by have h := HDG.out i hi; rw [getElem!_pos s i (by omega)] at h; exact h⟩
              clear HBADA HBADB HBADC HGD
              clear h48
              have HI : Hid (decide (3 ≤ 10) = true) := decide_eq_true h3
              go_wp2_with (first
                | (go_at_call 26; refine (l10Digit_any _ _).mono ?_; rintro e w' ⟨rfl, hw⟩; have hw2 := hw.symm; clear hw; subst hw2)
                | (go_at_call 48; refine (l10Type_any _ _).mono ?_; rintro e w' ⟨rfl, hw⟩; have hw2 := hw.symm; clear hw; subst hw2; rw [HTY.out])
                | (go_at_call 51; refine (l10Integer_any 10 (by omega) _).mono ?_; rintro e w' ⟨rfl, hw⟩; have hw2 := hw.symm; clear hw; subst hw2; rw [HI.out]))
              go_loop [7, 8] (fun n i => ∃ m : Nat, m ≤ j ∧ i = .int .i64 m ∧ n = .int .u64 (dval (P.take m)) ∧ dval (P.take m) ≤ M) (fun _ i => j - (intOf i).toNat)
              case atStart => exact ⟨0, Nat.zero_le _, rfl, rfl, Nat.zero_le _⟩
              case round =>
                obtain ⟨m, hj, rfl, rfl, hjm⟩ := hrel
                by_cases hjl : m < j
                · obtain ⟨hjs, hd1, hd2, hdv⟩ := HDG.out m hjl
                  have HDV := hid hdv
                  have hq0 : (10 : Int) ≠ 0 := by omega
                  clear hdv
                  generalize hv : dval (P.take m) = v at *
                  by_cases hov : (M - (s[m].toNat - 48)) / 10 < v
                  · have hov' : ((M : Int) - ((s[m].toNat : Int) - 48)) / 10 < (v : Int) := by omega
                    have HE := hid (HBAD.out m hjl (by rw [HDV.out]; omega))
                    clear hov hv
                    go_wp2_with (go_at_call 52; refine (HMX.out _).mono ?_; rintro e w' ⟨rfl, hw⟩; have hw2 := hw.symm; clear hw; subst hw2)
                    go_ret3
                    exact ⟨by rw [HE.out]; rfl, rfl⟩
                  · have hov' : (v : Int) ≤ ((M : Int) - ((s[m].toNat : Int) - 48)) / 10 := by omega
                    have hov2 : (v : Int) * 10 + ((s[m].toNat : Int) - 48) ≤ M := by omega
                    clear hov hv
                    go_wp2_with (go_at_call 52; refine (HMX.out _).mono ?_; rintro e w' ⟨rfl, hw⟩; have hw2 := hw.symm; clear hw; subst hw2)
                    go_round
                    case rel => exact ⟨m + 1, by omega, by go_num, by rw [HDV.out]; go_num, by rw [HDV.out]; omega⟩
                    case measure => simp [intOf]; omega
                · have hje : m = j := by omega
                  subst hje
                  have HE := hid (HGOOD.out hjm)
                  have hw64 := s64_wrap (dval (P.take m)) (by omega)
                  go_wp2
                  go_ret3
                  exact ⟨by rw [HE.out]; rfl, rfl⟩
          · have h1' : (j : Int) ≤ 1 := by omega
            have HGOOD : Hid (dval (P.take j) ≤ M → intV (mnumP P) = .tuple #[.int .i64 (10 : Nat), .int .i64 (s64 (dval (P.take j))), .bool true]) := fun h => HGD.out h3 (by omega) h
            have HDG : Hid (∀ i, i < j → ∃ (h : i < s.size), 48 ≤ (s[i].toNat : Int) ∧ (s[i].toNat : Int) ≤ 57 ∧ dval (P.take (i + 1)) = dval (P.take i) * 10 + (s[i].toNat - 48)) := fun i hi => ⟨by omega, by have h := HDG.out i hi; rw [getElem!_pos s i (by omega)] at h; exact h⟩
            clear HBADA HBADB HBADC HGD
            have HI : Hid (decide (3 ≤ 10) = true) := decide_eq_true h3
            go_wp2_with (first
              | (go_at_call 26; refine (l10Digit_any _ _).mono ?_; rintro e w' ⟨rfl, hw⟩; have hw2 := hw.symm; clear hw; subst hw2)
              | (go_at_call 48; refine (l10Type_any _ _).mono ?_; rintro e w' ⟨rfl, hw⟩; have hw2 := hw.symm; clear hw; subst hw2; rw [HTY.out])
              | (go_at_call 51; refine (l10Integer_any 10 (by omega) _).mono ?_; rintro e w' ⟨rfl, hw⟩; have hw2 := hw.symm; clear hw; subst hw2; rw [HI.out]))
            go_loop [7, 8] (fun n i => ∃ m : Nat, m ≤ j ∧ i = .int .i64 m ∧ n = .int .u64 (dval (P.take m)) ∧ dval (P.take m) ≤ M) (fun _ i => j - (intOf i).toNat)
            case atStart => exact ⟨0, Nat.zero_le _, rfl, rfl, Nat.zero_le _⟩
            case round =>
              obtain ⟨m, hj, rfl, rfl, hjm⟩ := hrel
              by_cases hjl : m < j
              · obtain ⟨hjs, hd1, hd2, hdv⟩ := HDG.out m hjl
                have HDV := hid hdv
                have hq0 : (10 : Int) ≠ 0 := by omega
                clear hdv
                generalize hv : dval (P.take m) = v at *
                by_cases hov : (M - (s[m].toNat - 48)) / 10 < v
                · have hov' : ((M : Int) - ((s[m].toNat : Int) - 48)) / 10 < (v : Int) := by omega
                  have HE := hid (HBAD.out m hjl (by rw [HDV.out]; omega))
                  clear hov hv
                  go_wp2_with (go_at_call 52; refine (HMX.out _).mono ?_; rintro e w' ⟨rfl, hw⟩; have hw2 := hw.symm; clear hw; subst hw2)
                  go_ret3
                  exact ⟨by rw [HE.out]; rfl, rfl⟩
                · have hov' : (v : Int) ≤ ((M : Int) - ((s[m].toNat : Int) - 48)) / 10 := by omega
                  have hov2 : (v : Int) * 10 + ((s[m].toNat : Int) - 48) ≤ M := by omega
                  clear hov hv
                  go_wp2_with (go_at_call 52; refine (HMX.out _).mono ?_; rintro e w' ⟨rfl, hw⟩; have hw2 := hw.symm; clear hw; subst hw2)
                  go_round
                  case rel => exact ⟨m + 1, by omega, by go_num, by rw [HDV.out]; go_num, by rw [HDV.out]; omega⟩
                  case measure => simp [intOf]; omega
              · have hje : m = j := by omega
                subst hje
                have HE := hid (HGOOD.out hjm)
                have hw64 := s64_wrap (dval (P.take m)) (by omega)
                go_wp2
                go_ret3
                exact ⟨by rw [HE.out]; rfl, rfl⟩
end Go.Proofs.YtdhcjmlcpnljiaaDoor
