import Derived.Test.YtdhcjmlcpnljiaaDoorMIRead
/-! Printed by gen_num.py. -/
namespace Go.Proofs.YtdhcjmlcpnljiaaDoor
open Go.RowKit Go.Shelf
theorem take_digits (P : List UInt8) : ∀ c ∈ P.take (run digB P), digB c = true := fun c hc => by
  rw [List.mem_take_iff_getElem] at hc
  obtain ⟨i, hi, rfl⟩ := hc
  exact run_all digB P (run digB P) (Nat.le_refl _) i (by omega) (by omega)
theorem moneV_num {P : List UInt8} (h : mnumP P = MOne.bad 3) : moneV (mnumP P) 0 = .tuple #[.agg #[.int .i64 0, .string ⟨#[]⟩, .int .i64 0, .int .i64 0, .int .i64 0], .int .i64 0, .int .i64 3] := by
  rw [moneV_bad h (by decide)]; rfl
set_option maxRecDepth 20000 in
set_option maxHeartbeats 4000000 in
theorem mReadNumber_any (s : ByteArray) (r : Nat) (w : World) (hs : s.size ≤ 12000) (hp : 0 < s.size) (hd : digB s[0] = true) (hr : w.heap[r]? = some (.map (mwE 35) 35)) (hE : EnvM w) :
    Calls Tryd.prog 58 #[.string s, .map (some r)] w fun e w' => e = .returned (moneV (mnum s.data.toList) 0) ∧ Below w.heap.size w w' := by
  have hk2 := run_le letB s.data.toList
  rw [len_size] at hk2
  have hk1 : 1 ≤ run letB s.data.toList := by rw [head_eq s hp]; exact run_pos _ _ _ (dig_let hd)
  have HX := hid (extract_take s (run letB s.data.toList))
  have HNS : Hid (∀ W : World, Calls Tryd.prog 74 #[.string s] W fun e w' => e = .returned (.int .i64 (run letB s.data.toList)) ∧ Below W.heap.size W w') := fun W => millNameSize_any s W hs
  have hMN : mnum s.data.toList = mnumP (s.data.toList.take (run letB s.data.toList)) := rfl
  rw [hMN]
  clear hMN
  generalize hK : run letB s.data.toList = k at *
  clear hK
  obtain ⟨P, hP⟩ : ∃ P, s.data.toList.take k = P := ⟨_, rfl⟩
  rw [hP] at HX ⊢
  have hPl : P.length = k := by rw [← hP, List.length_take, len_size]; omega
  obtain ⟨j, hj⟩ : ∃ j, run digB P = j := ⟨_, rfl⟩
  have hjk : j ≤ k := by rw [← hPl, ← hj]; exact run_le _ _
  obtain ⟨m, rfl⟩ : ∃ m, k = j + m := ⟨k - j, by omega⟩
  have hP0 : P.take 1 = [s[0]] := by
    rw [← hP, List.take_take, Nat.min_eq_left (by omega), head_eq s hp]; rfl
  have hj1 : 1 ≤ j := by
    rw [← hj]
    cases hPP : P with
    | nil => rw [hPP] at hPl; simp at hPl; omega
    | cons c q =>
      rw [hPP] at hP0
      simp at hP0
      exact run_pos _ _ _ (by rw [hP0]; exact hd)
  have HTJ : Hid ((s.extract 0 j).data.toList = P.take j) := by show _ = _; rw [extract_take, ← hP, List.take_take, Nat.min_eq_left (by omega)]
  have HTL : Hid (∀ W : World, Calls Tryd.prog 75 #[.string (s.extract 0 (j + m)), .string ⟨#[48, 49, 50, 51, 52, 53, 54, 55, 56, 57]⟩] W fun e w' => e = .returned (.string ⟨(P.drop j).toArray⟩) ∧ Below W.heap.size W w') := fun W => by
    have h := trimLeft_any (s.extract 0 (j + m)) W
    rw [HX.out, hj] at h
    exact h
  have HWS : Hid ((⟨(P.drop j).toArray⟩ : ByteArray).size = m) := by show _ = _; simp [ByteArray.size]; omega
  have HTY : Hid (numTy P = if 0 < m then mtype (P.drop j) else 10) := by
    show _ = _; unfold numTy; rw [hj, hPl]
    by_cases h : 0 < m
    · rw [if_pos h, if_pos (by omega)]
    · rw [if_neg h, if_neg (by omega)]
  have HLK : Hid (∀ W : World, W.heap[r]? = some (.map (mwE 35) 35) → (Instr.lookup 64 (.map (some r)) (.string ⟨(P.drop j).toArray⟩) false).run Tryd.prog W = .ok (.int .i64 (mtype (P.drop j))) W) := fun W h => mlookup1 W r h _
  obtain ⟨T, hT⟩ : ∃ T, numTy P = T := ⟨_, rfl⟩
  have hT10 : T ≤ 10 := by rw [← hT]; exact numTy_le P
  obtain ⟨M, hM⟩ : ∃ M, mmax T = M := ⟨_, rfl⟩
  have hMb := (mmax_le T).1
  rw [hM] at hMb
  obtain ⟨D, hD⟩ : ∃ D, dval (P.take j) = D := ⟨_, rfl⟩
  have hxj : (s.extract 0 j).size = j := by simp; omega
  have HPO : Hid (D ≤ 18446744073709551615 → ∀ W : World, Calls Tryd.prog 76 #[.string (s.extract 0 j), .int .i64 10, .int .i64 64] W fun e w' => e = .returned (.tuple #[.int .u64 D, .nilIface]) ∧ Below W.heap.size W w') := fun h W => by
    have h2 := parseUint_ok (s.extract 0 j) W (by rw [hxj]; omega) (by rw [hxj]; omega) (by rw [HTJ.out, ← hj]; exact take_digits P) (by rw [HTJ.out, hD]; exact h)
    rw [HTJ.out, hD] at h2
    exact h2
  have HPB : Hid (18446744073709551615 < D → ∀ W : World, EnvM W → Calls Tryd.prog 76 #[.string (s.extract 0 j), .int .i64 10, .int .i64 64] W fun e w' => ∃ N, e = .returned (.tuple #[.int .u64 18446744073709551615, .iface 114 (.pointer (some ⟨N, 0, none⟩))]) ∧ Below W.heap.size W w') := fun h W hW =>
    parseUint_big (s.extract 0 j) W (by rw [hxj]; omega) (by rw [hxj]; omega) hW.big (by rw [HTJ.out, ← hj]; exact take_digits P) (by rw [HTJ.out, hD]; exact h)
  have HBA : Hid (18446744073709551615 < D → moneV (mnumP P) 0 = .tuple #[.agg #[.int .i64 0, .string ⟨#[]⟩, .int .i64 0, .int .i64 0, .int .i64 0], .int .i64 0, .int .i64 3]) := fun h => moneV_num (mnumP_bad (.inr (.inr (by rw [hT, hM, hj, hD]; omega))))
  have HBB : Hid (s[0].toNat = 48 → 1 < j → moneV (mnumP P) 0 = .tuple #[.agg #[.int .i64 0, .string ⟨#[]⟩, .int .i64 0, .int .i64 0, .int .i64 0], .int .i64 0, .int .i64 3]) := fun h h2 => moneV_num (mnumP_bad (.inr (.inl ⟨by rw [hP0]; exact (sing48 _).2 h, by rw [hj]; exact h2⟩)))
  have HBC : Hid (T < 3 → moneV (mnumP P) 0 = .tuple #[.agg #[.int .i64 0, .string ⟨#[]⟩, .int .i64 0, .int .i64 0, .int .i64 0], .int .i64 0, .int .i64 3]) := fun h => moneV_num (mnumP_bad (.inl (by rw [hT]; exact h)))
  have HBD : Hid (M < D → moneV (mnumP P) 0 = .tuple #[.agg #[.int .i64 0, .string ⟨#[]⟩, .int .i64 0, .int .i64 0, .int .i64 0], .int .i64 0, .int .i64 3]) := fun h => moneV_num (mnumP_bad (.inr (.inr (by rw [hT, hM, hj, hD]; exact h))))
  have HGD : Hid (3 ≤ T → ¬ (s[0].toNat = 48 ∧ 1 < j) → D ≤ M → moneV (mnumP P) 0 = .tuple #[.agg #[.int .i64 3, .string ⟨#[]⟩, .int .i64 T, .int .i64 (s64 D), .int .i64 0], .int .i64 ((j + m : Nat) : Int), .int .i64 0]) := fun h1 h2 h3 => by
    have h := mnumP_good (p := P) (by omega) (by rw [hP0, sing48, hj]; exact h2) (by rw [hT, hM, hj, hD]; exact h3)
    rw [hT, hj, hD, hPl] at h
    rw [moneV_good h]; simp
  have hrl : r < w.heap.size := (Array.getElem?_eq_some_iff.1 hr).1
  have HR : Hid (∀ w1, Below w.heap.size w w1 → w1.heap[r]? = some (.map (mwE 35) 35)) := fun w1 hb => (hb.block r hrl).trans hr
  have HEn : Hid (∀ w1, Below w.heap.size w w1 → EnvM w1) := fun w1 hb => hE.below hb
  have HMX : Hid (3 ≤ T → ∀ W, Calls Tryd.prog 78 #[.int .i64 T] W fun e w' => e = .returned (.int .u64 M) ∧ w' = W) := fun h W => by rw [← hM]; exact millGreatest_any T h hT10 W
  have HIN : Hid (∀ W, Calls Tryd.prog 77 #[.int .i64 T] W fun e w' => e = .returned (.bool (decide (3 ≤ T))) ∧ w' = W) := fun W => millIsInteger_any T hT10 W
  have hx0 : (s.extract 0 j)[0]'(by rw [hxj]; exact hj1) = s[0] := by simp [ByteArray.getElem_extract]
  have HHH := hid hT
  clear hP hPl hj hP0 hM hD hr hrl hE hd hT hjk hMb
  generalize hWW : (⟨(P.drop j).toArray⟩ : ByteArray) = WW at *
  have hws := HWS.out
  by_cases hm : 0 < m
  · have HTT : Hid (mtype (P.drop j) = T) := by show _ = _; rw [← HHH.out, HTY.out, if_pos hm]
    rw [HTT.out] at HLK
    have hne : WW.toList.isEmpty = false := notEmpty WW (by omega)
    clear HTT HTY HHH
    by_cases hbig : 18446744073709551615 < D
    · have HE := hid (HBA.out hbig)
      have HPU := hid (HPB.out hbig)
      have HDI : Hid (True = True) := rfl
      clear HPO HPB HBA HBB HBC HBD HGD hbig
      go_enter Tryd.func58, Tryd.ntmps58
      go_wp2_with (first
        | (go_at_call 74; refine (HNS.out _).mono ?_; rintro e w1 ⟨rfl, hb⟩; have HB1 := hid (((Below.refl w.heap.size w).alloc (Nat.le_refl _) _).trans (hb.mono (by simp))); have HT1 := hid hb; clear hb)
        | (go_at_call 75; refine (HTL.out _).mono ?_; rintro e w2 ⟨rfl, hb⟩; have HB2 := hid (HB1.out.trans (hb.mono HB1.out.size)); have HT2 := hid (HT1.out.trans (hb.mono HT1.out.size)); have hlk := HLK.out w2 (HR.out _ HB2.out); clear hb)
        | (go_at_call 76; refine (HPU.out _ (HEn.out _ HB2.out)).mono ?_; rintro e w3 ⟨N, rfl, hb⟩; have HT3 := hid (HT2.out.trans (hb.mono HT2.out.size)); obtain ⟨⟨k0, k1, k2, k3, k4⟩, ⟨f0, f1, f2, f3, f4⟩⟩ := mtok_cells (HT3.out.mono (by simp)); clear hb)
        | (go_at_call 77; refine (HIN.out _).mono ?_; rintro e w' ⟨rfl, hw⟩; have hw2 := hw.symm; clear hw; subst hw2; rw [HDI.out])
        | (go_at_call 78; refine (HMX.out _).mono ?_; rintro e w' ⟨rfl, hw⟩; have hw2 := hw.symm; clear hw; subst hw2))
      refine bodyPost_ret (v := .tuple #[.agg #[.int .i64 0, .string ⟨#[]⟩, .int .i64 0, .int .i64 0, .int .i64 0], .int .i64 0, .int .i64 3]) (by simp [results, Tryd.results58, go_sem, k0, k1, k2, k3, k4]) rfl ⟨by rw [HE.out], ?_⟩
      exact below_set5 (below_mtok (HT3.out.mono (by simp)))
    · have HPU := hid (HPO.out (by omega))
      have hDb : (D : Int) ≤ 18446744073709551615 := by omega
      by_cases h48 : s[0].toNat = 48 ∧ 1 < j
      · have HE := hid (HBB.out h48.1 h48.2)
        have h48' : ((s[0].toNat : Int) == 48) = true := by rw [beq_iff_eq]; omega
        have h1' : 1 < (j : Int) := by omega
        have HDI : Hid (True = True) := rfl
        clear HPO HPB HBA HBB HBC HBD HGD h48 hbig
        go_enter Tryd.func58, Tryd.ntmps58
        go_wp2_with (first
          | (go_at_call 74; refine (HNS.out _).mono ?_; rintro e w1 ⟨rfl, hb⟩; have HB1 := hid (((Below.refl w.heap.size w).alloc (Nat.le_refl _) _).trans (hb.mono (by simp))); have HT1 := hid hb; clear hb)
          | (go_at_call 75; refine (HTL.out _).mono ?_; rintro e w2 ⟨rfl, hb⟩; have HB2 := hid (HB1.out.trans (hb.mono HB1.out.size)); have HT2 := hid (HT1.out.trans (hb.mono HT1.out.size)); have hlk := HLK.out w2 (HR.out _ HB2.out); clear hb)
          | (go_at_call 76; refine (HPU.out _).mono ?_; rintro e w3 ⟨rfl, hb⟩; have HT3 := hid (HT2.out.trans (hb.mono HT2.out.size)); obtain ⟨⟨k0, k1, k2, k3, k4⟩, ⟨f0, f1, f2, f3, f4⟩⟩ := mtok_cells (HT3.out.mono (by simp)); clear hb)
          | (go_at_call 77; refine (HIN.out _).mono ?_; rintro e w' ⟨rfl, hw⟩; have hw2 := hw.symm; clear hw; subst hw2; rw [HDI.out])
          | (go_at_call 78; refine (HMX.out _).mono ?_; rintro e w' ⟨rfl, hw⟩; have hw2 := hw.symm; clear hw; subst hw2))
        refine bodyPost_ret (v := .tuple #[.agg #[.int .i64 0, .string ⟨#[]⟩, .int .i64 0, .int .i64 0, .int .i64 0], .int .i64 0, .int .i64 3]) (by simp [results, Tryd.results58, go_sem, k0, k1, k2, k3, k4]) rfl ⟨by rw [HE.out], ?_⟩
        exact below_set5 (below_mtok (HT3.out.mono (by simp)))
      · by_cases h3 : T < 3
        · have HE := hid (HBC.out h3)
          have HDI : Hid (decide (3 ≤ T) = false) := decide_eq_false (by omega)
          by_cases z : s[0].toNat = 48
          · have z1 : ((s[0].toNat : Int) == 48) = true := by rw [beq_iff_eq]; omega
            have z2 : (j : Int) ≤ 1 := by omega
            clear HPO HPB HBA HBB HBC HBD HGD h48 hbig z
            go_enter Tryd.func58, Tryd.ntmps58
            go_wp2_with (first
              | (go_at_call 74; refine (HNS.out _).mono ?_; rintro e w1 ⟨rfl, hb⟩; have HB1 := hid (((Below.refl w.heap.size w).alloc (Nat.le_refl _) _).trans (hb.mono (by simp))); have HT1 := hid hb; clear hb)
              | (go_at_call 75; refine (HTL.out _).mono ?_; rintro e w2 ⟨rfl, hb⟩; have HB2 := hid (HB1.out.trans (hb.mono HB1.out.size)); have HT2 := hid (HT1.out.trans (hb.mono HT1.out.size)); have hlk := HLK.out w2 (HR.out _ HB2.out); clear hb)
              | (go_at_call 76; refine (HPU.out _).mono ?_; rintro e w3 ⟨rfl, hb⟩; have HT3 := hid (HT2.out.trans (hb.mono HT2.out.size)); obtain ⟨⟨k0, k1, k2, k3, k4⟩, ⟨f0, f1, f2, f3, f4⟩⟩ := mtok_cells (HT3.out.mono (by simp)); clear hb)
              | (go_at_call 77; refine (HIN.out _).mono ?_; rintro e w' ⟨rfl, hw⟩; have hw2 := hw.symm; clear hw; subst hw2; rw [HDI.out])
              | (go_at_call 78; refine (HMX.out _).mono ?_; rintro e w' ⟨rfl, hw⟩; have hw2 := hw.symm; clear hw; subst hw2))
            refine bodyPost_ret (v := .tuple #[.agg #[.int .i64 0, .string ⟨#[]⟩, .int .i64 0, .int .i64 0, .int .i64 0], .int .i64 0, .int .i64 3]) (by simp [results, Tryd.results58, go_sem, k0, k1, k2, k3, k4]) rfl ⟨by rw [HE.out], ?_⟩
            exact below_set5 (below_mtok (HT3.out.mono (by simp)))
          · have z1 : ((s[0].toNat : Int) == 48) = false := by rw [beq_eq_false_iff_ne]; omega
            clear HPO HPB HBA HBB HBC HBD HGD h48 hbig z
            go_enter Tryd.func58, Tryd.ntmps58
            go_wp2_with (first
              | (go_at_call 74; refine (HNS.out _).mono ?_; rintro e w1 ⟨rfl, hb⟩; have HB1 := hid (((Below.refl w.heap.size w).alloc (Nat.le_refl _) _).trans (hb.mono (by simp))); have HT1 := hid hb; clear hb)
              | (go_at_call 75; refine (HTL.out _).mono ?_; rintro e w2 ⟨rfl, hb⟩; have HB2 := hid (HB1.out.trans (hb.mono HB1.out.size)); have HT2 := hid (HT1.out.trans (hb.mono HT1.out.size)); have hlk := HLK.out w2 (HR.out _ HB2.out); clear hb)
              | (go_at_call 76; refine (HPU.out _).mono ?_; rintro e w3 ⟨rfl, hb⟩; have HT3 := hid (HT2.out.trans (hb.mono HT2.out.size)); obtain ⟨⟨k0, k1, k2, k3, k4⟩, ⟨f0, f1, f2, f3, f4⟩⟩ := mtok_cells (HT3.out.mono (by simp)); clear hb)
              | (go_at_call 77; refine (HIN.out _).mono ?_; rintro e w' ⟨rfl, hw⟩; have hw2 := hw.symm; clear hw; subst hw2; rw [HDI.out])
              | (go_at_call 78; refine (HMX.out _).mono ?_; rintro e w' ⟨rfl, hw⟩; have hw2 := hw.symm; clear hw; subst hw2))
            refine bodyPost_ret (v := .tuple #[.agg #[.int .i64 0, .string ⟨#[]⟩, .int .i64 0, .int .i64 0, .int .i64 0], .int .i64 0, .int .i64 3]) (by simp [results, Tryd.results58, go_sem, k0, k1, k2, k3, k4]) rfl ⟨by rw [HE.out], ?_⟩
            exact below_set5 (below_mtok (HT3.out.mono (by simp)))
        · have HDI : Hid (decide (3 ≤ T) = true) := decide_eq_true (by omega)
          have HMX := hid (HMX.out (by omega))
          by_cases hmd : M < D
          · have HE := hid (HBD.out hmd)
            have hmd' : (M : Int) < D := by omega
            by_cases z : s[0].toNat = 48
            · have z1 : ((s[0].toNat : Int) == 48) = true := by rw [beq_iff_eq]; omega
              have z2 : (j : Int) ≤ 1 := by omega
              clear HPO HPB HBA HBB HBC HBD HGD h48 hbig z
              go_enter Tryd.func58, Tryd.ntmps58
              go_wp2_with (first
                | (go_at_call 74; refine (HNS.out _).mono ?_; rintro e w1 ⟨rfl, hb⟩; have HB1 := hid (((Below.refl w.heap.size w).alloc (Nat.le_refl _) _).trans (hb.mono (by simp))); have HT1 := hid hb; clear hb)
                | (go_at_call 75; refine (HTL.out _).mono ?_; rintro e w2 ⟨rfl, hb⟩; have HB2 := hid (HB1.out.trans (hb.mono HB1.out.size)); have HT2 := hid (HT1.out.trans (hb.mono HT1.out.size)); have hlk := HLK.out w2 (HR.out _ HB2.out); clear hb)
                | (go_at_call 76; refine (HPU.out _).mono ?_; rintro e w3 ⟨rfl, hb⟩; have HT3 := hid (HT2.out.trans (hb.mono HT2.out.size)); obtain ⟨⟨k0, k1, k2, k3, k4⟩, ⟨f0, f1, f2, f3, f4⟩⟩ := mtok_cells (HT3.out.mono (by simp)); clear hb)
                | (go_at_call 77; refine (HIN.out _).mono ?_; rintro e w' ⟨rfl, hw⟩; have hw2 := hw.symm; clear hw; subst hw2; rw [HDI.out])
                | (go_at_call 78; refine (HMX.out _).mono ?_; rintro e w' ⟨rfl, hw⟩; have hw2 := hw.symm; clear hw; subst hw2))
              refine bodyPost_ret (v := .tuple #[.agg #[.int .i64 0, .string ⟨#[]⟩, .int .i64 0, .int .i64 0, .int .i64 0], .int .i64 0, .int .i64 3]) (by simp [results, Tryd.results58, go_sem, k0, k1, k2, k3, k4]) rfl ⟨by rw [HE.out], ?_⟩
              exact below_set5 (below_mtok (HT3.out.mono (by simp)))
            · have z1 : ((s[0].toNat : Int) == 48) = false := by rw [beq_eq_false_iff_ne]; omega
              clear HPO HPB HBA HBB HBC HBD HGD h48 hbig z
              go_enter Tryd.func58, Tryd.ntmps58
              go_wp2_with (first
                | (go_at_call 74; refine (HNS.out _).mono ?_; rintro e w1 ⟨rfl, hb⟩; have HB1 := hid (((Below.refl w.heap.size w).alloc (Nat.le_refl _) _).trans (hb.mono (by simp))); have HT1 := hid hb; clear hb)
                | (go_at_call 75; refine (HTL.out _).mono ?_; rintro e w2 ⟨rfl, hb⟩; have HB2 := hid (HB1.out.trans (hb.mono HB1.out.size)); have HT2 := hid (HT1.out.trans (hb.mono HT1.out.size)); have hlk := HLK.out w2 (HR.out _ HB2.out); clear hb)
                | (go_at_call 76; refine (HPU.out _).mono ?_; rintro e w3 ⟨rfl, hb⟩; have HT3 := hid (HT2.out.trans (hb.mono HT2.out.size)); obtain ⟨⟨k0, k1, k2, k3, k4⟩, ⟨f0, f1, f2, f3, f4⟩⟩ := mtok_cells (HT3.out.mono (by simp)); clear hb)
                | (go_at_call 77; refine (HIN.out _).mono ?_; rintro e w' ⟨rfl, hw⟩; have hw2 := hw.symm; clear hw; subst hw2; rw [HDI.out])
                | (go_at_call 78; refine (HMX.out _).mono ?_; rintro e w' ⟨rfl, hw⟩; have hw2 := hw.symm; clear hw; subst hw2))
              refine bodyPost_ret (v := .tuple #[.agg #[.int .i64 0, .string ⟨#[]⟩, .int .i64 0, .int .i64 0, .int .i64 0], .int .i64 0, .int .i64 3]) (by simp [results, Tryd.results58, go_sem, k0, k1, k2, k3, k4]) rfl ⟨by rw [HE.out], ?_⟩
              exact below_set5 (below_mtok (HT3.out.mono (by simp)))
          · have HE := hid (HGD.out (by omega) h48 (by omega))
            have hmd' : (D : Int) ≤ M := by omega
            have hw64 := s64_wrap D (by omega)
            by_cases z : s[0].toNat = 48
            · have z1 : ((s[0].toNat : Int) == 48) = true := by rw [beq_iff_eq]; omega
              have z2 : (j : Int) ≤ 1 := by omega
              clear HPO HPB HBA HBB HBC HBD HGD h48 hbig z
              go_enter Tryd.func58, Tryd.ntmps58
              go_wp2_with (first
                | (go_at_call 74; refine (HNS.out _).mono ?_; rintro e w1 ⟨rfl, hb⟩; have HB1 := hid (((Below.refl w.heap.size w).alloc (Nat.le_refl _) _).trans (hb.mono (by simp))); have HT1 := hid hb; clear hb)
                | (go_at_call 75; refine (HTL.out _).mono ?_; rintro e w2 ⟨rfl, hb⟩; have HB2 := hid (HB1.out.trans (hb.mono HB1.out.size)); have HT2 := hid (HT1.out.trans (hb.mono HT1.out.size)); have hlk := HLK.out w2 (HR.out _ HB2.out); clear hb)
                | (go_at_call 76; refine (HPU.out _).mono ?_; rintro e w3 ⟨rfl, hb⟩; have HT3 := hid (HT2.out.trans (hb.mono HT2.out.size)); obtain ⟨⟨k0, k1, k2, k3, k4⟩, ⟨f0, f1, f2, f3, f4⟩⟩ := mtok_cells (HT3.out.mono (by simp)); clear hb)
                | (go_at_call 77; refine (HIN.out _).mono ?_; rintro e w' ⟨rfl, hw⟩; have hw2 := hw.symm; clear hw; subst hw2; rw [HDI.out])
                | (go_at_call 78; refine (HMX.out _).mono ?_; rintro e w' ⟨rfl, hw⟩; have hw2 := hw.symm; clear hw; subst hw2))
              refine bodyPost_ret (v := .tuple #[.agg #[.int .i64 3, .string ⟨#[]⟩, .int .i64 T, .int .i64 (s64 D), .int .i64 0], .int .i64 ((j + m : Nat) : Int), .int .i64 0]) (by simp [results, Tryd.results58, go_sem, k0, k1, k2, k3, k4]) rfl ⟨by rw [HE.out], ?_⟩
              exact below_set5 (below_mtok (HT3.out.mono (by simp)))
            · have z1 : ((s[0].toNat : Int) == 48) = false := by rw [beq_eq_false_iff_ne]; omega
              clear HPO HPB HBA HBB HBC HBD HGD h48 hbig z
              go_enter Tryd.func58, Tryd.ntmps58
              go_wp2_with (first
                | (go_at_call 74; refine (HNS.out _).mono ?_; rintro e w1 ⟨rfl, hb⟩; have HB1 := hid (((Below.refl w.heap.size w).alloc (Nat.le_refl _) _).trans (hb.mono (by simp))); have HT1 := hid hb; clear hb)
                | (go_at_call 75; refine (HTL.out _).mono ?_; rintro e w2 ⟨rfl, hb⟩; have HB2 := hid (HB1.out.trans (hb.mono HB1.out.size)); have HT2 := hid (HT1.out.trans (hb.mono HT1.out.size)); have hlk := HLK.out w2 (HR.out _ HB2.out); clear hb)
                | (go_at_call 76; refine (HPU.out _).mono ?_; rintro e w3 ⟨rfl, hb⟩; have HT3 := hid (HT2.out.trans (hb.mono HT2.out.size)); obtain ⟨⟨k0, k1, k2, k3, k4⟩, ⟨f0, f1, f2, f3, f4⟩⟩ := mtok_cells (HT3.out.mono (by simp)); clear hb)
                | (go_at_call 77; refine (HIN.out _).mono ?_; rintro e w' ⟨rfl, hw⟩; have hw2 := hw.symm; clear hw; subst hw2; rw [HDI.out])
                | (go_at_call 78; refine (HMX.out _).mono ?_; rintro e w' ⟨rfl, hw⟩; have hw2 := hw.symm; clear hw; subst hw2))
              refine bodyPost_ret (v := .tuple #[.agg #[.int .i64 3, .string ⟨#[]⟩, .int .i64 T, .int .i64 (s64 D), .int .i64 0], .int .i64 ((j + m : Nat) : Int), .int .i64 0]) (by simp [results, Tryd.results58, go_sem, k0, k1, k2, k3, k4]) rfl ⟨by rw [HE.out], ?_⟩
              exact below_set5 (below_mtok (HT3.out.mono (by simp)))
  · have hT10e : T = 10 := by rw [← HHH.out, HTY.out, if_neg hm]
    have hne : WW.toList.isEmpty = true := by rw [Lib.toList_data, List.eq_nil_of_length_eq_zero (l := WW.data.toList) (by rw [len_size]; omega)]; rfl
    subst hT10e
    clear HTY HHH
    by_cases hbig : 18446744073709551615 < D
    · have HE := hid (HBA.out hbig)
      have HPU := hid (HPB.out hbig)
      have HDI : Hid (True = True) := rfl
      clear HPO HPB HBA HBB HBC HBD HGD hbig
      go_enter Tryd.func58, Tryd.ntmps58
      go_wp2_with (first
        | (go_at_call 74; refine (HNS.out _).mono ?_; rintro e w1 ⟨rfl, hb⟩; have HB1 := hid (((Below.refl w.heap.size w).alloc (Nat.le_refl _) _).trans (hb.mono (by simp))); have HT1 := hid hb; clear hb)
        | (go_at_call 75; refine (HTL.out _).mono ?_; rintro e w2 ⟨rfl, hb⟩; have HB2 := hid (HB1.out.trans (hb.mono HB1.out.size)); have HT2 := hid (HT1.out.trans (hb.mono HT1.out.size)); have hlk := HLK.out w2 (HR.out _ HB2.out); clear hb)
        | (go_at_call 76; refine (HPU.out _ (HEn.out _ HB2.out)).mono ?_; rintro e w3 ⟨N, rfl, hb⟩; have HT3 := hid (HT2.out.trans (hb.mono HT2.out.size)); obtain ⟨⟨k0, k1, k2, k3, k4⟩, ⟨f0, f1, f2, f3, f4⟩⟩ := mtok_cells (HT3.out.mono (by simp)); clear hb)
        | (go_at_call 77; refine (HIN.out _).mono ?_; rintro e w' ⟨rfl, hw⟩; have hw2 := hw.symm; clear hw; subst hw2; rw [HDI.out])
        | (go_at_call 78; refine (HMX.out _).mono ?_; rintro e w' ⟨rfl, hw⟩; have hw2 := hw.symm; clear hw; subst hw2))
      refine bodyPost_ret (v := .tuple #[.agg #[.int .i64 0, .string ⟨#[]⟩, .int .i64 0, .int .i64 0, .int .i64 0], .int .i64 0, .int .i64 3]) (by simp [results, Tryd.results58, go_sem, k0, k1, k2, k3, k4]) rfl ⟨by rw [HE.out], ?_⟩
      exact below_set5 (below_mtok (HT3.out.mono (by simp)))
    · have HPU := hid (HPO.out (by omega))
      have hDb : (D : Int) ≤ 18446744073709551615 := by omega
      by_cases h48 : s[0].toNat = 48 ∧ 1 < j
      · have HE := hid (HBB.out h48.1 h48.2)
        have h48' : ((s[0].toNat : Int) == 48) = true := by rw [beq_iff_eq]; omega
        have h1' : 1 < (j : Int) := by omega
        have HDI : Hid (True = True) := rfl
        clear HPO HPB HBA HBB HBC HBD HGD h48 hbig
        go_enter Tryd.func58, Tryd.ntmps58
        go_wp2_with (first
          | (go_at_call 74; refine (HNS.out _).mono ?_; rintro e w1 ⟨rfl, hb⟩; have HB1 := hid (((Below.refl w.heap.size w).alloc (Nat.le_refl _) _).trans (hb.mono (by simp))); have HT1 := hid hb; clear hb)
          | (go_at_call 75; refine (HTL.out _).mono ?_; rintro e w2 ⟨rfl, hb⟩; have HB2 := hid (HB1.out.trans (hb.mono HB1.out.size)); have HT2 := hid (HT1.out.trans (hb.mono HT1.out.size)); have hlk := HLK.out w2 (HR.out _ HB2.out); clear hb)
          | (go_at_call 76; refine (HPU.out _).mono ?_; rintro e w3 ⟨rfl, hb⟩; have HT3 := hid (HT2.out.trans (hb.mono HT2.out.size)); obtain ⟨⟨k0, k1, k2, k3, k4⟩, ⟨f0, f1, f2, f3, f4⟩⟩ := mtok_cells (HT3.out.mono (by simp)); clear hb)
          | (go_at_call 77; refine (HIN.out _).mono ?_; rintro e w' ⟨rfl, hw⟩; have hw2 := hw.symm; clear hw; subst hw2; rw [HDI.out])
          | (go_at_call 78; refine (HMX.out _).mono ?_; rintro e w' ⟨rfl, hw⟩; have hw2 := hw.symm; clear hw; subst hw2))
        refine bodyPost_ret (v := .tuple #[.agg #[.int .i64 0, .string ⟨#[]⟩, .int .i64 0, .int .i64 0, .int .i64 0], .int .i64 0, .int .i64 3]) (by simp [results, Tryd.results58, go_sem, k0, k1, k2, k3, k4]) rfl ⟨by rw [HE.out], ?_⟩
        exact below_set5 (below_mtok (HT3.out.mono (by simp)))
      · by_cases h3 : 10 < 3
        · exact absurd h3 (by omega)
        · have HDI : Hid (decide (3 ≤ 10) = true) := decide_eq_true (by omega)
          have HMX := hid (HMX.out (by omega))
          by_cases hmd : M < D
          · have HE := hid (HBD.out hmd)
            have hmd' : (M : Int) < D := by omega
            by_cases z : s[0].toNat = 48
            · have z1 : ((s[0].toNat : Int) == 48) = true := by rw [beq_iff_eq]; omega
              have z2 : (j : Int) ≤ 1 := by omega
              clear HPO HPB HBA HBB HBC HBD HGD h48 hbig z
              go_enter Tryd.func58, Tryd.ntmps58
              go_wp2_with (first
                | (go_at_call 74; refine (HNS.out _).mono ?_; rintro e w1 ⟨rfl, hb⟩; have HB1 := hid (((Below.refl w.heap.size w).alloc (Nat.le_refl _) _).trans (hb.mono (by simp))); have HT1 := hid hb; clear hb)
                | (go_at_call 75; refine (HTL.out _).mono ?_; rintro e w2 ⟨rfl, hb⟩; have HB2 := hid (HB1.out.trans (hb.mono HB1.out.size)); have HT2 := hid (HT1.out.trans (hb.mono HT1.out.size)); have hlk := HLK.out w2 (HR.out _ HB2.out); clear hb)
                | (go_at_call 76; refine (HPU.out _).mono ?_; rintro e w3 ⟨rfl, hb⟩; have HT3 := hid (HT2.out.trans (hb.mono HT2.out.size)); obtain ⟨⟨k0, k1, k2, k3, k4⟩, ⟨f0, f1, f2, f3, f4⟩⟩ := mtok_cells (HT3.out.mono (by simp)); clear hb)
                | (go_at_call 77; refine (HIN.out _).mono ?_; rintro e w' ⟨rfl, hw⟩; have hw2 := hw.symm; clear hw; subst hw2; rw [HDI.out])
                | (go_at_call 78; refine (HMX.out _).mono ?_; rintro e w' ⟨rfl, hw⟩; have hw2 := hw.symm; clear hw; subst hw2))
              refine bodyPost_ret (v := .tuple #[.agg #[.int .i64 0, .string ⟨#[]⟩, .int .i64 0, .int .i64 0, .int .i64 0], .int .i64 0, .int .i64 3]) (by simp [results, Tryd.results58, go_sem, k0, k1, k2, k3, k4]) rfl ⟨by rw [HE.out], ?_⟩
              exact below_set5 (below_mtok (HT3.out.mono (by simp)))
            · have z1 : ((s[0].toNat : Int) == 48) = false := by rw [beq_eq_false_iff_ne]; omega
              clear HPO HPB HBA HBB HBC HBD HGD h48 hbig z
              go_enter Tryd.func58, Tryd.ntmps58
              go_wp2_with (first
                | (go_at_call 74; refine (HNS.out _).mono ?_; rintro e w1 ⟨rfl, hb⟩; have HB1 := hid (((Below.refl w.heap.size w).alloc (Nat.le_refl _) _).trans (hb.mono (by simp))); have HT1 := hid hb; clear hb)
                | (go_at_call 75; refine (HTL.out _).mono ?_; rintro e w2 ⟨rfl, hb⟩; have HB2 := hid (HB1.out.trans (hb.mono HB1.out.size)); have HT2 := hid (HT1.out.trans (hb.mono HT1.out.size)); have hlk := HLK.out w2 (HR.out _ HB2.out); clear hb)
                | (go_at_call 76; refine (HPU.out _).mono ?_; rintro e w3 ⟨rfl, hb⟩; have HT3 := hid (HT2.out.trans (hb.mono HT2.out.size)); obtain ⟨⟨k0, k1, k2, k3, k4⟩, ⟨f0, f1, f2, f3, f4⟩⟩ := mtok_cells (HT3.out.mono (by simp)); clear hb)
                | (go_at_call 77; refine (HIN.out _).mono ?_; rintro e w' ⟨rfl, hw⟩; have hw2 := hw.symm; clear hw; subst hw2; rw [HDI.out])
                | (go_at_call 78; refine (HMX.out _).mono ?_; rintro e w' ⟨rfl, hw⟩; have hw2 := hw.symm; clear hw; subst hw2))
              refine bodyPost_ret (v := .tuple #[.agg #[.int .i64 0, .string ⟨#[]⟩, .int .i64 0, .int .i64 0, .int .i64 0], .int .i64 0, .int .i64 3]) (by simp [results, Tryd.results58, go_sem, k0, k1, k2, k3, k4]) rfl ⟨by rw [HE.out], ?_⟩
              exact below_set5 (below_mtok (HT3.out.mono (by simp)))
          · have HE := hid (HGD.out (by omega) h48 (by omega))
            have hmd' : (D : Int) ≤ M := by omega
            have hw64 := s64_wrap D (by omega)
            by_cases z : s[0].toNat = 48
            · have z1 : ((s[0].toNat : Int) == 48) = true := by rw [beq_iff_eq]; omega
              have z2 : (j : Int) ≤ 1 := by omega
              clear HPO HPB HBA HBB HBC HBD HGD h48 hbig z
              go_enter Tryd.func58, Tryd.ntmps58
              go_wp2_with (first
                | (go_at_call 74; refine (HNS.out _).mono ?_; rintro e w1 ⟨rfl, hb⟩; have HB1 := hid (((Below.refl w.heap.size w).alloc (Nat.le_refl _) _).trans (hb.mono (by simp))); have HT1 := hid hb; clear hb)
                | (go_at_call 75; refine (HTL.out _).mono ?_; rintro e w2 ⟨rfl, hb⟩; have HB2 := hid (HB1.out.trans (hb.mono HB1.out.size)); have HT2 := hid (HT1.out.trans (hb.mono HT1.out.size)); have hlk := HLK.out w2 (HR.out _ HB2.out); clear hb)
                | (go_at_call 76; refine (HPU.out _).mono ?_; rintro e w3 ⟨rfl, hb⟩; have HT3 := hid (HT2.out.trans (hb.mono HT2.out.size)); obtain ⟨⟨k0, k1, k2, k3, k4⟩, ⟨f0, f1, f2, f3, f4⟩⟩ := mtok_cells (HT3.out.mono (by simp)); clear hb)
                | (go_at_call 77; refine (HIN.out _).mono ?_; rintro e w' ⟨rfl, hw⟩; have hw2 := hw.symm; clear hw; subst hw2; rw [HDI.out])
                | (go_at_call 78; refine (HMX.out _).mono ?_; rintro e w' ⟨rfl, hw⟩; have hw2 := hw.symm; clear hw; subst hw2))
              refine bodyPost_ret (v := .tuple #[.agg #[.int .i64 3, .string ⟨#[]⟩, .int .i64 (10 : Nat), .int .i64 (s64 D), .int .i64 0], .int .i64 ((j + m : Nat) : Int), .int .i64 0]) (by simp [results, Tryd.results58, go_sem, k0, k1, k2, k3, k4]) rfl ⟨by rw [HE.out], ?_⟩
              exact below_set5 (below_mtok (HT3.out.mono (by simp)))
            · have z1 : ((s[0].toNat : Int) == 48) = false := by rw [beq_eq_false_iff_ne]; omega
              clear HPO HPB HBA HBB HBC HBD HGD h48 hbig z
              go_enter Tryd.func58, Tryd.ntmps58
              go_wp2_with (first
                | (go_at_call 74; refine (HNS.out _).mono ?_; rintro e w1 ⟨rfl, hb⟩; have HB1 := hid (((Below.refl w.heap.size w).alloc (Nat.le_refl _) _).trans (hb.mono (by simp))); have HT1 := hid hb; clear hb)
                | (go_at_call 75; refine (HTL.out _).mono ?_; rintro e w2 ⟨rfl, hb⟩; have HB2 := hid (HB1.out.trans (hb.mono HB1.out.size)); have HT2 := hid (HT1.out.trans (hb.mono HT1.out.size)); have hlk := HLK.out w2 (HR.out _ HB2.out); clear hb)
                | (go_at_call 76; refine (HPU.out _).mono ?_; rintro e w3 ⟨rfl, hb⟩; have HT3 := hid (HT2.out.trans (hb.mono HT2.out.size)); obtain ⟨⟨k0, k1, k2, k3, k4⟩, ⟨f0, f1, f2, f3, f4⟩⟩ := mtok_cells (HT3.out.mono (by simp)); clear hb)
                | (go_at_call 77; refine (HIN.out _).mono ?_; rintro e w' ⟨rfl, hw⟩; have hw2 := hw.symm; clear hw; subst hw2; rw [HDI.out])
                | (go_at_call 78; refine (HMX.out _).mono ?_; rintro e w' ⟨rfl, hw⟩; have hw2 := hw.symm; clear hw; subst hw2))
              refine bodyPost_ret (v := .tuple #[.agg #[.int .i64 3, .string ⟨#[]⟩, .int .i64 (10 : Nat), .int .i64 (s64 D), .int .i64 0], .int .i64 ((j + m : Nat) : Int), .int .i64 0]) (by simp [results, Tryd.results58, go_sem, k0, k1, k2, k3, k4]) rfl ⟨by rw [HE.out], ?_⟩
              exact below_set5 (below_mtok (HT3.out.mono (by simp)))
end Go.Proofs.YtdhcjmlcpnljiaaDoor
