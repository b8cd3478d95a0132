import Derived.Test.YtabefhpgeaihgaaDoorVBltQ
/-! The model's built words. Printed by gen_vblt.py. -/
namespace Go.Proofs.YtabefhpgeaihgaaDoor.V
open Go.RowKit Go.Shelf
set_option maxRecDepth 20000
set_option maxHeartbeats 2000000 in
theorem specB_out (op : Int) (g N : Nat) (vl : Nat → Vl) (h : op < 6 ∨ 12 < op ∨ 3 < N) (hN : N ≤ 1048576) (w : World) :
    Calls Tryd.prog 5 #[.int .i64 op, .slice (some ⟨g, 0, none⟩) N N] w fun e w' => SEnd op N vl w e w' := by
  have HX : Hid (BltRes op N vl 0 0 wNone wType) := .inl ⟨fun hf => by
    rcases h with h | h | h
    · have := hf.1; omega
    · have := hf.2.1; omega
    · have h1 := ok_len hf.2.2
      obtain ⟨h6, h12, _⟩ := hf
      obtain rfl | rfl | rfl | rfl | rfl | rfl | rfl : op = 6 ∨ op = 7 ∨ op = 8 ∨ op = 9 ∨ op = 10 ∨ op = 11 ∨ op = 12 := by omega
      all_goals simp [wants] at h1
      all_goals omega, rfl, rfl, rfl, rfl⟩
  have HB := hid (alloc_below w (vbox 0 0 wNone))
  obtain ⟨r0, r1, r2, f0, f1, f2⟩ := six (heap_new w (vbox 0 0 wNone))
  by_cases h1 : op < 6
  · clear h
    go_enter Tryd.func5, Tryd.ntmps5
    go_wp2
    exact bodyPost_ret (v := ans 0 0 wNone wType) (by simp [results, Tryd.results5, go_sem, r0, r1, r2, wType]) rfl ⟨_, _, _, _, rfl, HX.out, HB.out⟩
  · by_cases h2 : 12 < op
    · clear h
      go_enter Tryd.func5, Tryd.ntmps5
      go_wp2
      exact bodyPost_ret (v := ans 0 0 wNone wType) (by simp [results, Tryd.results5, go_sem, r0, r1, r2, wType]) rfl ⟨_, _, _, _, rfl, HX.out, HB.out⟩
    · have h3 : 3 < N := by omega
      have h3i : (3 : Int) < N := by omega
      clear h
      go_enter Tryd.func5, Tryd.ntmps5
      go_wp2
      exact bodyPost_ret (v := ans 0 0 wNone wType) (by simp [results, Tryd.results5, go_sem, r0, r1, r2, wType]) rfl ⟨_, _, _, _, rfl, HX.out, HB.out⟩
set_option maxHeartbeats 16000000 in
theorem specB_in (op : Int) (g N : Nat) (vl : Nat → Vl) (h6 : 6 ≤ op) (h12 : op ≤ 12) (hN3 : N ≤ 3) (w : World) (hg : g < w.heap.size) (hv : ValsAt w g N vl) (hbd : ∀ i, i < N → -9223372036854775808 ≤ (vl i).n ∧ (vl i).n ≤ 9223372036854775807) :
    Calls Tryd.prog 5 #[.int .i64 op, .slice (some ⟨g, 0, none⟩) N N] w fun e w' => SEnd op N vl w e w' := by
  have HVV : Hid (∀ i, i < N → ∀ W, Calls Tryd.prog 11 #[val (vl i).t (vl i).n (vl i).s] W fun e w' => e = .returned (.bool (okV (vl i))) ∧ Below W.heap.size W w') := fun i hi W => specVV _ _ _ (hbd i hi).1 (hbd i hi).2 W
  have HBD := hid hbd
  have HS0 : Hid (Bs w g N vl (w.alloc (vbox 0 0 wNone))) := ⟨alloc_below _ _, hv.below (alloc_below w _) hg, heap_new w _⟩
  clear hv hbd
  obtain ⟨i0, hi, hz0, hz1, hz2⟩ := info_parts info_i
  have HHI := hid (And.intro hi (And.intro hz0 (And.intro hz1 hz2)))
  clear hi hz0 hz1 hz2
  have h3i : (N : Int) ≤ 3 := by omega
  have HS1 := hid (HS0.out.next hg (alloc_below _ (.cells #[] 3)))
  have HO0 : Hid (((w.alloc (vbox 0 0 wNone)).alloc (.cells #[] 3)).ownsRow (w.heap.size + 1) 3 1 (.slice (some ⟨w.heap.size + 1, 0, none⟩) 0 0) 0 (intsV (tsOf 0 vl))) :=
    ⟨rfl, .inr ⟨w.heap.size + 1, 0, #[], rfl, Nat.le_refl _, by have := heap_new (w.alloc (vbox 0 0 wNone)) (.cells #[] 3); rwa [World.size_alloc] at this, Nat.le_refl _, by unfold maxLen; omega, rfl, rfl⟩⟩
  go_enter Tryd.func5, Tryd.ntmps5
  go_wp2
  go_loopw [6, 7] (fun v c wr => ∃ j : Nat, c = .int .i64 j ∧ j ≤ N ∧ wr.ownsRow (w.heap.size + 1) 3 1 v j (intsV (tsOf j vl)) ∧ (∀ i, i < j → okV (vl i) = true) ∧ Bs w g N vl wr ∧ w.heap.size + 1 ≤ wr.heap.size) (fun _ c _ => N - (intOf c).toNat)
  case atStart => exact ⟨0, rfl, Nat.zero_le _, HO0.out, fun i h => by omega, HS1.out, by simp⟩
  case round =>
    obtain ⟨j, rfl, hj, hown, hok, hbs, hsz⟩ := hrel
    have OWN := hid hown
    have HOK := hid hok
    have HBS := hid hbs
    have HLN := hid (tsOf_len j vl)
    clear hown hok hbs
    obtain ⟨ao, cap, rfl⟩ := own_slice' OWN.out
    by_cases hlt : j < N
    · obtain ⟨c0, c1, c2⟩ := HBS.out.vals j hlt
      obtain ⟨x, hx⟩ : ∃ x, vl j = x := ⟨_, rfl⟩
      obtain ⟨t, n, s⟩ := x
      have HVJ := hid (HVV.out j hlt)
      have HTS := hid (tsOf_succ j vl)
      rw [hx] at c0 c1 c2 HVJ HTS
      have HX := hid hx
      clear hx
      simp only at c0 c1 c2 HVJ HTS
      go_wp2_with fail
      refine (HVJ.out _).mono ?_
      rintro e w2 ⟨rfl, hb2⟩
      have HS2 := hid (HBS.out.next hg hb2)
      have OW2 : Hid (w2.ownsRow (w.heap.size + 1) 3 1 (.slice ao j cap) j (intsV (tsOf j vl))) := own_next OWN.out hb2
      have hsz2 : w.heap.size + 1 ≤ w2.heap.size := Nat.le_trans hsz hb2.size
      clear hb2 c0 c1 c2
      have HOV : Hid (okV ⟨t, n, s⟩ = okV (vl j)) := by show _ = _; rw [HX.out]
      cases hok : okV ⟨t, n, s⟩ with
      | false =>
        have HNO : Hid (BltRes op N vl 0 0 wNone wType) := .inl ⟨fun h => (by have := h.2.2.1 j hlt; rw [← HOV.out, hok] at this; cases this), rfl, rfl, rfl, rfl⟩
        clear hok
        obtain ⟨r0, r1, r2, f0, f1, f2⟩ := six HS2.out.rb
        go_wp2
        exact bodyPost_ret (v := ans 0 0 wNone wType) (by simp [results, Tryd.results5, go_sem, r0, r1, r2, wType]) rfl ⟨_, _, _, _, rfl, HNO.out, setr (Nat.le_refl _) HS2.out.lo _ _ _⟩
      | true =>
        have HOJ : Hid (okV (vl j) = true) := by show _ = _; rw [← HOV.out, hok]
        clear hok
        obtain ⟨c0, c1, c2⟩ := HS2.out.vals j hlt
        rw [HX.out] at c0 c1 c2
        simp only at c0 c1 c2
        go_wp2_with (at_builtin; refine wpList_append_own _ rfl _ _ 35 rfl (w.heap.size + 1) 3 i0 (.int .i64 0) 1 8 Tryd.underlying35 HHI.out.1 HHI.out.2.1 HHI.out.2.2.1 HHI.out.2.2.2 rfl (by decide) _ _ _ rfl (OW2.out.alloc _) ⟨w2.heap.size, 0, none⟩ 1 1 [.int .i64 t] rfl rfl ?c1 ?c2 ?c3 ?c4 ?c5 ?_)
        case c1 =>
          intro q u hq
          match q, hq with
          | 0, hq => simp at hq; subst hq; simp [Addr.add]
        case c2 => intro u hu; simp at hu; subst hu; rfl
        case c3 => unfold maxLen; omega
        case c4 => omega
        case c5 => simp; omega
        intro v' w3 hown' hgrow _
        have HO3 : Hid (w3.ownsRow (w.heap.size + 1) 3 1 v' (j + 1) (intsV (tsOf (j + 1) vl))) := by
          show World.ownsRow _ _ _ _ _ _ _
          rw [HTS.out]
          simpa [intsV] using hown'
        have hb3 : Below (w.heap.size + 1) w2 w3 := ((Below.refl (w.heap.size + 1) w2).alloc hsz2 (.cells #[.int .i64 t] 3)).grown hgrow (by simp; omega) (fun k e => (OW2.out.lt k e).1)
        have HS3 : Hid (Bs w g N vl w3) := ⟨HS2.out.lo.trans (hb3.mono (by omega)), HS2.out.vals.below hb3 (by omega), (hb3.block w.heap.size (by omega)).trans HS2.out.rb⟩
        have hsz3 : w.heap.size + 1 ≤ w3.heap.size := Nat.le_trans hsz2 hb3.size
        have HOK3 : Hid (∀ i, i < j + 1 → okV (vl i) = true) := fun i hi => by
          by_cases hij : i = j
          · rw [hij]; exact HOJ.out
          · exact HOK.out i (by omega)
        obtain ⟨a1, c3, rfl⟩ := own_slice' HO3.out
        clear hown' hgrow c0 c1 c2 hb3
        go_wp2
        go_roundw
        case rel => exact ⟨j + 1, by go_num, by omega, HO3.out, HOK3.out, HS3.out, hsz3⟩
        case measure => simp [intOf]; omega
    · obtain rfl : j = N := by omega
      obtain ⟨ad, g2, cap2, e2, had, hg2, hin⟩ := own_ints (ts := tsOf j vl) (by rw [HLN.out]; exact OWN.out)
      injection e2 with e3 e4 e5
      subst e3 e5
      rw [HLN.out] at had hg2
      have HG := hid (l12Built_any op g2 j cap ao (tsOf j vl) h6 h12 HLN.out hN3 wr had hg2 hin)
      have hgv : (gives op == 0) = false := by
        obtain rfl | rfl | rfl | rfl | rfl | rfl | rfl : op = 6 ∨ op = 7 ∨ op = 8 ∨ op = 9 ∨ op = 10 ∨ op = 11 ∨ op = 12 := by omega
        all_goals decide
      obtain ⟨gv, hgve⟩ : ∃ gv, gives op = gv := ⟨_, rfl⟩
      rw [hgve] at HG hgv
      clear hin hgve had hg2 e4
      go_wp2_with fail
      refine HG.out.mono ?_
      rintro e w2 ⟨he, hb2⟩
      have HS2 := hid (HBS.out.next hg hb2)
      clear hb2
      rcases he with ⟨hf, rfl⟩ | ⟨hf, rfl⟩
      · have HFT : Hid (Fits op j vl) := ⟨h6, h12, HOK.out, (fit_same h6 h12 HOK.out).1 hf⟩
        clear hf OWN HG HBS
        have hjp : 0 < j := by
          have h1 := ok_len HFT.out.2.2
          obtain rfl | rfl | rfl | rfl | rfl | rfl | rfl : op = 6 ∨ op = 7 ∨ op = 8 ∨ op = 9 ∨ op = 10 ∨ op = 11 ∨ op = 12 := by omega
          all_goals (rw [← h1]; decide)
        have hjpi : (0 : Int) < j := by omega
        have HV0 := hid (HOK.out 0 hjp)
        have HB0 := hid (HBD.out 0 hjp)
        obtain ⟨x0, x1, x2⟩ := val0 HS2.out.vals hjp
        obtain ⟨a, ha⟩ : ∃ a, vl 0 = a := ⟨_, rfl⟩
        obtain ⟨at_, an, sA⟩ := a
        rw [ha] at x0 x1 x2 HV0 HB0
        simp only at x0 x1 x2 HB0
        have HA := hid ha
        clear ha
        have HS3 := hid (HS2.out.next hg (alloc_below w2 (vbox at_ an sA)))
        have HGA := hid (heap_new w2 (vbox at_ an sA))
        go_upto_region 13 with fail
        obtain ⟨W3, hW3⟩ : ∃ W, w2.alloc (vbox at_ an sA) = W := ⟨_, rfl⟩
        obtain ⟨ga, hga⟩ : ∃ q, w2.heap.size = q := ⟨_, rfl⟩
        rw [hW3] at HS3 HGA ⊢
        rw [hga] at HGA ⊢
        have hne : w.heap.size ≠ ga := by rw [← hga]; have := HS2.out.lo.size; have := (Array.getElem?_eq_some_iff.1 HS2.out.rb).1; omega
        clear hW3 hga x0 x1 x2 HS2
        obtain ⟨r0, r1, r2, f0, f1, f2⟩ := six HS3.out.rb
        obtain ⟨x0, x1, x2, _, _, _⟩ := six HGA.out
        obtain rfl | rfl | rfl | rfl | rfl | rfl | rfl : op = 6 ∨ op = 7 ∨ op = 8 ∨ op = 9 ∨ op = 10 ∨ op = 11 ∨ op = 12 := by omega
        · obtain rfl : j = 1 := by have h1 := ok_len HFT.out.2.2; simpa [wants] using h1.symm
          have HT : Hid (at_ = 2) := by have h := ok_at HFT.out.2.2 0 (by decide); rw [HA.out] at h; show at_ = 2; simpa [fit1, wants] using h
          have hsz : sA.size ≤ 3000 := (valid_tx HV0.out HT.out).2
          have HX : Hid (BltRes 6 1 vl 10 sA.size wNone wNone) := .inr ⟨HFT.out, by rw [HA.out]; exact .inl ⟨rfl, rfl, rfl, rfl, rfl⟩⟩
          go_wp2
          exact bodyPost_ret (v := ans 10 sA.size wNone wNone) (by simp [results, Tryd.results5, go_sem, r0, r1, r2]) rfl ⟨_, _, _, _, rfl, HX.out, setr (Nat.le_refl _) HS3.out.lo _ _ _⟩
        · obtain rfl : j = 2 := by have h1 := ok_len HFT.out.2.2; simpa [wants] using h1.symm
          have HT : Hid (at_ = 2) := by have h := ok_at HFT.out.2.2 0 (by decide); rw [HA.out] at h; show at_ = 2; simpa [fit1, wants] using h
          have hsz : sA.size ≤ 3000 := (valid_tx HV0.out HT.out).2
          obtain ⟨z0, z1, z2⟩ := val1 HS3.out.vals (by decide)
          obtain ⟨b, hb⟩ : ∃ b, vl 1 = b := ⟨_, rfl⟩
          obtain ⟨bt, bn, sB⟩ := b
          rw [hb] at z0 z1 z2
          simp only at z0 z1 z2
          have HB := hid hb
          clear hb
          by_cases hin : 0 ≤ bn ∧ bn < sA.size
          · obtain ⟨hi1, hi2⟩ := hin
            obtain ⟨i, rfl⟩ := Int.eq_ofNat_of_zero_le hi1
            have hi3 : i < sA.size := by omega
            have HX : Hid (BltRes 7 2 vl 3 (sA[i].toNat : Int) wNone wNone) := .inr ⟨HFT.out, by rw [HA.out, HB.out]; exact .inr (.inl ⟨rfl, .inl ⟨i, hi3, rfl, rfl, rfl, rfl, rfl⟩⟩)⟩
            have hi4 : ¬ ((i : Int) < 0) := by omega
            go_wp2_with fail
            go_quiet (fail)
            have HS4 := hid (HS3.out.next hg (drewN_below W3 nq))
            have HG4 := hid (keep_box HGA.out (drewN_below W3 nq))
            obtain ⟨W4, hW4⟩ : ∃ W, W3.drewN nq = W := ⟨_, rfl⟩
            rw [hW4] at HS4 HG4 ⊢
            clear hW4 x0 x1 x2 z0 z1 z2 r0 r1 r2 f0 f1 f2
            obtain ⟨r0, r1, r2, f0, f1, f2⟩ := six HS4.out.rb
            obtain ⟨x0, x1, x2, _, _, _⟩ := six HG4.out
            obtain ⟨z0, z1, z2⟩ := val1 HS4.out.vals (by decide)
            rw [HB.out] at z0 z1 z2
            simp only at z0 z1 z2
            go_upto_region 19 with fail
            go_region
            go_wp2
            have hw64 : wrap64 (sA[i].toNat : Int) = sA[i].toNat := by have := sA[i].toNat_lt; unfold wrap64; omega
            exact bodyPost_ret (v := ans 3 (sA[i].toNat : Int) wNone wNone) (by simp [results, Tryd.results5, go_sem, r0, r1, r2, hw64]) rfl ⟨_, _, _, _, rfl, HX.out, (setr (Nat.le_refl _) HS4.out.lo _ _ _).drew⟩
          · have HX : Hid (BltRes 7 2 vl 0 0 wNone wRange) := .inr ⟨HFT.out, by rw [HA.out, HB.out]; exact .inr (.inl ⟨rfl, .inr ⟨hin, rfl, rfl, rfl, rfl⟩⟩)⟩
            have hq : bn < 0 ∨ (¬ bn < 0 ∧ (sA.size : Int) ≤ bn) := by omega
            clear hin
            rcases hq with hq | ⟨hq, hq2⟩
            all_goals
              go_wp2_with fail
              go_quiet (fail)
              have HS4 := hid (HS3.out.next hg (drewN_below W3 nq))
              obtain ⟨W4, hW4⟩ : ∃ W, W3.drewN nq = W := ⟨_, rfl⟩
              rw [hW4] at HS4 ⊢
              clear hW4 x0 x1 x2 z0 z1 z2 r0 r1 r2 f0 f1 f2
              obtain ⟨r0, r1, r2, f0, f1, f2⟩ := six HS4.out.rb
              go_wp2
              exact bodyPost_ret (v := ans 0 0 wNone wRange) (by simp [results, Tryd.results5, go_sem, r0, r1, r2, wRange]) rfl ⟨_, _, _, _, rfl, HX.out, setr (Nat.le_refl _) HS4.out.lo _ _ _⟩
        · obtain rfl : j = 3 := by have h1 := ok_len HFT.out.2.2; simpa [wants] using h1.symm
          have HT : Hid (at_ = 2) := by have h := ok_at HFT.out.2.2 0 (by decide); rw [HA.out] at h; show at_ = 2; simpa [fit1, wants] using h
          have hsz : sA.size ≤ 3000 := (valid_tx HV0.out HT.out).2
          obtain ⟨z0, z1, z2⟩ := val1 HS3.out.vals (by decide)
          obtain ⟨b1, hb1⟩ : ∃ b, vl 1 = b := ⟨_, rfl⟩
          obtain ⟨t1, n1, s1⟩ := b1
          rw [hb1] at z0 z1 z2
          simp only at z0 z1 z2
          have HV1 := hid (HOK.out 1 (by decide))
          rw [hb1] at HV1
          have HQ1 := hid hb1
          clear hb1
          obtain ⟨q0, q1, q2⟩ := val2 HS3.out.vals (by decide)
          obtain ⟨b2, hb2⟩ : ∃ b, vl 2 = b := ⟨_, rfl⟩
          obtain ⟨t2, n2, s2⟩ := b2
          rw [hb2] at q0 q1 q2
          simp only at q0 q1 q2
          have HV2 := hid (HOK.out 2 (by decide))
          rw [hb2] at HV2
          have HQ2 := hid hb2
          clear hb2
          have HSS : Hid (∀ V, Below W3.heap.size W3 V → V.cell? ⟨ga, 2, none⟩ = some (.string sA) ∧ V.cell? ⟨g, 4, none⟩ = some (.int .i64 n1) ∧ V.cell? ⟨g, 7, none⟩ = some (.int .i64 n2)) := fun V hV => by
            have h1 := (six (keep_box HGA.out hV)).2.2.1
            have h2 := (val1 (HS3.out.next hg hV).vals (by decide)).2.1
            have h3 := (val2 (HS3.out.next hg hV).vals (by decide)).2.1
            rw [HQ1.out] at h2
            rw [HQ2.out] at h3
            exact ⟨h1, h2, h3⟩
          obtain ⟨y, z, st, wd, HC, HX⟩ : ∃ y z st wd, Hid (∀ V, Calls Tryd.prog 13 #[.string sA, .int .i64 n1, .int .i64 n2] V fun e w' => e = .returned (.tuple #[val y z st, .string wd]) ∧ Below V.heap.size V w') ∧ Hid (BltRes 8 3 vl y z st wd) := by
            by_cases hin : 0 ≤ n1 ∧ n1 ≤ n2 ∧ n2 ≤ sA.size
            · obtain ⟨i, hi⟩ := Int.eq_ofNat_of_zero_le hin.1
              obtain ⟨k, hk⟩ := Int.eq_ofNat_of_zero_le (show 0 ≤ n2 by omega)
              refine ⟨2, 0, sA.extract i k, wNone, fun V => ?_, .inr ⟨HFT.out, ?_⟩⟩
              · rw [hi, hk]; exact l13Cut_ok sA i k (by omega) (by omega) hsz V
              · rw [HA.out, HQ1.out, HQ2.out]; exact .inr (.inr (.inl ⟨rfl, .inl ⟨i, k, hi, hk, (show i ≤ k by omega), (show k ≤ sA.size by omega), rfl, rfl, rfl, rfl⟩⟩))
            · refine ⟨0, 0, wNone, wRange, fun V => l13Cut_no sA n1 n2 hin hsz V, .inr ⟨HFT.out, ?_⟩⟩
              rw [HA.out, HQ1.out, HQ2.out]; exact .inr (.inr (.inl ⟨rfl, .inr ⟨hin, rfl, rfl, rfl, rfl⟩⟩))
          have HR3 := hid HS3.out.rb
          have hz3 : w.heap.size ≠ ga := hne
          have HSZ : Hid (∀ V (a b c : Value), Below W3.heap.size W3 V → (((V.setCell ⟨w.heap.size, 0, none⟩ a).setCell ⟨w.heap.size, 1, none⟩ b).setCell ⟨w.heap.size, 2, none⟩ c).cell? ⟨ga, 2, none⟩ = some (.string sA) ∧ (((V.setCell ⟨w.heap.size, 0, none⟩ a).setCell ⟨w.heap.size, 1, none⟩ b).setCell ⟨w.heap.size, 2, none⟩ c).cell? ⟨g, 4, none⟩ = some (.int .i64 n1) ∧ (((V.setCell ⟨w.heap.size, 0, none⟩ a).setCell ⟨w.heap.size, 1, none⟩ b).setCell ⟨w.heap.size, 2, none⟩ c).cell? ⟨g, 7, none⟩ = some (.int .i64 n2)) := fun V a b c hV => by
            obtain ⟨h1, h2, h3⟩ := HSS.out V hV
            exact ⟨(set3_cell (show ga ≠ w.heap.size from fun e => hne e.symm) a b c).trans h1, (set3_cell (show g ≠ w.heap.size by omega) a b c).trans h2, (set3_cell (show g ≠ w.heap.size by omega) a b c).trans h3⟩
          go_wp2_with fail
          go_region_held3 (fun V => V.cell? ⟨ga, 2, none⟩ = some (.string sA) ∧ V.cell? ⟨g, 4, none⟩ = some (.int .i64 n1) ∧ V.cell? ⟨g, 7, none⟩ = some (.int .i64 n2)) (first | (exact HSS.out _ HC4.out) | (exact HSZ.out _ _ _ _ HC4.out) | go_keep) (first
            | (go_at_call 13; refine (HC.out _).mono ?_; rintro e w4 ⟨rfl, hb4⟩; have HC4 : Hid (Below W3.heap.size W3 w4) := go2 (Below.refl _ W3).drew hb4; obtain ⟨r0, r1, r2, f0, f1, f2⟩ := six (keep_box HR3.out HC4.out); clear hb4)
            | fail)
          go_wp2
          exact bodyPost_ret (v := ans y z st wd) (by simp [results, Tryd.results5, go_sem, r0, r1, r2]) rfl ⟨_, _, _, _, rfl, HX.out, setr (Nat.le_refl _) (HS3.out.next hg HC4.out).lo _ _ _⟩
        · obtain rfl : j = 2 := by have h1 := ok_len HFT.out.2.2; simpa [wants] using h1.symm
          have HT : Hid (at_ = 2) := by have h := ok_at HFT.out.2.2 0 (by decide); rw [HA.out] at h; show at_ = 2; simpa [fit1, wants] using h
          have hsz : sA.size ≤ 3000 := (valid_tx HV0.out HT.out).2
          obtain ⟨z0, z1, z2⟩ := val1 HS3.out.vals (by decide)
          obtain ⟨b1, hb1⟩ : ∃ b, vl 1 = b := ⟨_, rfl⟩
          obtain ⟨t1, n1, s1⟩ := b1
          rw [hb1] at z0 z1 z2
          simp only at z0 z1 z2
          have HV1 := hid (HOK.out 1 (by decide))
          rw [hb1] at HV1
          have HQ1 := hid hb1
          clear hb1
          have HT1 : Hid (t1 = 2) := by have h := ok_at HFT.out.2.2 1 (by decide); rw [HQ1.out] at h; show t1 = 2; simpa [fit1, wants] using h
          have hsz1 : s1.size ≤ 3000 := (valid_tx HV1.out HT1.out).2
          have HSS : Hid (∀ V, Below W3.heap.size W3 V → V.cell? ⟨ga, 2, none⟩ = some (.string sA) ∧ V.cell? ⟨g, 5, none⟩ = some (.string s1)) := fun V hV => by
            have h1 := (six (keep_box HGA.out hV)).2.2.1
            have h2 := (val1 (HS3.out.next hg hV).vals (by decide)).2.2
            rw [HQ1.out] at h2
            exact ⟨h1, h2⟩
          have HC := hid (l13Find_any sA s1 hsz hsz1)
          have HX : Hid (BltRes 9 2 vl 10 (Lib.index sA.data.toList s1.data.toList) wNone wNone) := .inr ⟨HFT.out, by rw [HA.out, HQ1.out]; exact .inr (.inr (.inr (.inl ⟨rfl, rfl, rfl, rfl, rfl⟩)))⟩
          generalize Lib.index sA.data.toList s1.data.toList = ix at *
          have HR3 := hid HS3.out.rb
          have HSZ : Hid (∀ V (a b c : Value), Below W3.heap.size W3 V → (((V.setCell ⟨w.heap.size, 0, none⟩ a).setCell ⟨w.heap.size, 1, none⟩ b).setCell ⟨w.heap.size, 2, none⟩ c).cell? ⟨ga, 2, none⟩ = some (.string sA) ∧ (((V.setCell ⟨w.heap.size, 0, none⟩ a).setCell ⟨w.heap.size, 1, none⟩ b).setCell ⟨w.heap.size, 2, none⟩ c).cell? ⟨g, 5, none⟩ = some (.string s1)) := fun V a b c hV => by
            obtain ⟨h1, h2⟩ := HSS.out V hV
            exact ⟨(set3_cell (show ga ≠ w.heap.size from fun e => hne e.symm) a b c).trans h1, (set3_cell (show g ≠ w.heap.size by omega) a b c).trans h2⟩
          go_wp2_with fail
          go_region_held3 (fun V => V.cell? ⟨ga, 2, none⟩ = some (.string sA) ∧ V.cell? ⟨g, 5, none⟩ = some (.string s1)) (first | (exact HSS.out _ HC4.out) | (exact HSZ.out _ _ _ _ HC4.out) | go_keep) (first
            | (go_at_call 14; refine (HC.out _).mono ?_; rintro e w4 ⟨rfl, hw4⟩; have HC4 : Hid (Below W3.heap.size W3 w4) := (by rw [hw4]; exact (Below.refl _ W3).drew); obtain ⟨r0, r1, r2, f0, f1, f2⟩ := six (keep_box HR3.out HC4.out); clear hw4)
            | fail)
          go_wp2
          exact bodyPost_ret (v := ans 10 ix wNone wNone) (by simp [results, Tryd.results5, go_sem, r0, r1, r2]) rfl ⟨_, _, _, _, rfl, HX.out, setr (Nat.le_refl _) (HS3.out.next hg HC4.out).lo _ _ _⟩
        · obtain rfl : j = 1 := by have h1 := ok_len HFT.out.2.2; simpa [wants] using h1.symm
          have HT : Hid (at_ = 3) := by have h := ok_at HFT.out.2.2 0 (by decide); rw [HA.out] at h; show at_ = 3; simpa [fit1, wants] using h
          obtain ⟨a1, a2, a3⟩ := chr_byte (n := an) (by have h := HV0.out; have e := HT.out; subst e; exact valid_nm (by decide) (by decide) h)
          have HX : Hid (BltRes 10 1 vl 2 0 ⟨#[UInt8.ofNat an.toNat]⟩ wNone) := .inr ⟨HFT.out, by rw [HA.out]; exact .inr (.inr (.inr (.inr (.inl ⟨rfl, rfl, rfl, rfl, rfl⟩))))⟩
          have a4 : IntKind.u8.wrap an = an := by rw [IntKind.wrap_u8]; omega
          rw [a4] at a3
          generalize UInt8.ofNat an.toNat = cc at *
          have hcv := conv_one W3 cc (cc.toNat : Int) rfl
          have HTX := hid (sText_any ⟨#[cc]⟩)
          go_wp2_with fail
          refine (HTX.out _).mono ?_
          rintro e w4 ⟨rfl, hb4⟩
          have HS4 := hid ((HS3.out.next hg (alloc_below _ _)).next hg hb4)
          clear hb4 x0 x1 x2 r0 r1 r2 f0 f1 f2 hcv
          obtain ⟨r0, r1, r2, f0, f1, f2⟩ := six HS4.out.rb
          go_wp2
          exact bodyPost_ret (v := ans 2 0 ⟨#[cc]⟩ wNone) (by simp [results, Tryd.results5, go_sem, r0, r1, r2]) rfl ⟨_, _, _, _, rfl, HX.out, setr (Nat.le_refl _) HS4.out.lo _ _ _⟩
        · obtain rfl : j = 1 := by have h1 := ok_len HFT.out.2.2; simpa [wants] using h1.symm
          have HT : Hid (3 ≤ at_ ∧ at_ ≤ 10) := by
            have h := ok_at HFT.out.2.2 0 (by decide)
            rw [HA.out] at h
            have hv : 1 ≤ at_ ∧ at_ ≤ 10 := valid_ge HV0.out
            have h2 : at_ = -1 ∨ (3 ≤ at_ ∧ at_ ≤ 10) := by simpa [fit1, wants] using h
            show 3 ≤ at_ ∧ at_ ≤ 10
            omega
          have HX : Hid (BltRes 11 1 vl 2 0 ⟨(decT at_ an).toArray⟩ wNone) := .inr ⟨HFT.out, by rw [HA.out]; exact .inr (.inr (.inr (.inr (.inr (.inl ⟨rfl, rfl, rfl, rfl, rfl⟩)))))⟩
          have HDD := hid (l13Dec_any at_ an HT.out.1 HT.out.2 HB0.out.1 HB0.out.2)
          generalize (⟨(decT at_ an).toArray⟩ : ByteArray) = D at *
          have HTX := hid (sText_any D)
          go_wp2_with fail
          refine (HDD.out _).mono ?_
          rintro e w4 ⟨rfl, hb4⟩
          have HS4 := hid (HS3.out.next hg hb4)
          clear hb4
          go_wp2_with fail
          refine (HTX.out _).mono ?_
          rintro e w5 ⟨rfl, hb5⟩
          have HS5 := hid (HS4.out.next hg hb5)
          clear hb5 x0 x1 x2 r0 r1 r2 f0 f1 f2
          obtain ⟨r0, r1, r2, f0, f1, f2⟩ := six HS5.out.rb
          go_wp2
          exact bodyPost_ret (v := ans 2 0 D wNone) (by simp [results, Tryd.results5, go_sem, r0, r1, r2]) rfl ⟨_, _, _, _, rfl, HX.out, setr (Nat.le_refl _) HS5.out.lo _ _ _⟩
        · obtain rfl : j = 1 := by have h1 := ok_len HFT.out.2.2; simpa [wants] using h1.symm
          have HT : Hid (at_ = 2) := by have h := ok_at HFT.out.2.2 0 (by decide); rw [HA.out] at h; show at_ = 2; simpa [fit1, wants] using h
          have hsz : sA.size ≤ 3000 := (valid_tx HV0.out HT.out).2
          go_wp2_with fail
          refine (l13Parse_any sA hsz _).mono ?_
          rintro e w4 ⟨m, ok, rfl, hno, hb4⟩
          have HNO := hid hno
          have HS4 := hid (HS3.out.next hg hb4)
          clear hb4 hno x0 x1 x2 r0 r1 r2 f0 f1 f2
          obtain ⟨r0, r1, r2, f0, f1, f2⟩ := six HS4.out.rb
          cases ok
          · have HX : Hid (BltRes 12 1 vl 0 0 wNone wNumber) := .inr ⟨HFT.out, by rw [HA.out]; exact .inr (.inr (.inr (.inr (.inr (.inr ⟨rfl, .inr ⟨HNO.out.2 rfl, rfl, rfl, rfl, rfl⟩⟩)))))⟩
            go_wp2
            exact bodyPost_ret (v := ans 0 0 wNone wNumber) (by simp [results, Tryd.results5, go_sem, r0, r1, r2, wNumber]) rfl ⟨_, _, _, _, rfl, HX.out, setr (Nat.le_refl _) HS4.out.lo _ _ _⟩
          · have HX : Hid (BltRes 12 1 vl 10 m wNone wNone) := .inr ⟨HFT.out, by rw [HA.out]; exact .inr (.inr (.inr (.inr (.inr (.inr ⟨rfl, .inl ⟨m, (HNO.out.1 rfl).1, (HNO.out.1 rfl).2, rfl, rfl, rfl, rfl⟩⟩)))))⟩
            go_wp2
            exact bodyPost_ret (v := ans 10 m wNone wNone) (by simp [results, Tryd.results5, go_sem, r0, r1, r2]) rfl ⟨_, _, _, _, rfl, HX.out, setr (Nat.le_refl _) HS4.out.lo _ _ _⟩
      · have HNO : Hid (BltRes op j vl 0 0 wNone wType) := .inl ⟨fun h => hf ((fit_same h6 h12 h.2.2.1).2 h.2.2.2), rfl, rfl, rfl, rfl⟩
        clear hf
        obtain ⟨r0, r1, r2, f0, f1, f2⟩ := six HS2.out.rb
        go_wp2
        exact bodyPost_ret (v := ans 0 0 wNone wType) (by simp [results, Tryd.results5, go_sem, r0, r1, r2, wType]) rfl ⟨_, _, _, _, rfl, HNO.out, setr (Nat.le_refl _) HS2.out.lo _ _ _⟩
end Go.Proofs.YtabefhpgeaihgaaDoor.V
