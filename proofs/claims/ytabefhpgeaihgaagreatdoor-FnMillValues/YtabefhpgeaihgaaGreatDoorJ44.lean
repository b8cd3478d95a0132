import Derived.Test.YtabefhpgeaihgaaGreatDoorJ43
/-! The program's built words. Printed by gen_vblti.py. -/
namespace Go.Proofs.YtabefhpgeaihgaaGreatDoor.V
open Go.RowKit Go.Shelf
set_option maxRecDepth 20000
/-- All that the program's built words read of package variables. -/
structure EnvT (W : World) (p q r : Addr) : Prop where
  sg : EnvG W
  nm : EnvN W
  ty : ErrAt W 0 p wType
  rg : ErrAt W 2 q wRange
  nu : ErrAt W 3 r wNumber
theorem EnvT.next {W V : World} {p q r : Addr} (h : EnvT W p q r) (hb : Below W.heap.size W V) : EnvT V p q r := ⟨h.sg.next hb, h.nm.next hb, h.ty.next hb, h.rg.next hb, h.nu.next hb⟩
/-- What the program's built word ends with. -/
def IEnd (op : Int) (N : Nat) (vl : Nat → Vl) (p q r : Addr) (w : World) (e : Ending) (w' : World) : Prop := Below w.heap.size w w' ∧
  ((∃ y z st, e = .returned (.tuple #[val y z st, .nilIface]) ∧ BltRes op N vl y z st wNone) ∨
   (e = .returned (.tuple #[val 0 0 wNone, errV p]) ∧ BltRes op N vl 0 0 wNone wType) ∨
   (e = .returned (.tuple #[val 0 0 wNone, errV q]) ∧ BltRes op N vl 0 0 wNone wRange) ∨
   (e = .returned (.tuple #[val 0 0 wNone, errV r]) ∧ BltRes op N vl 0 0 wNone wNumber))
set_option maxHeartbeats 16000000 in
theorem ofB_any (op : Int) (g N : Nat) (vl : Nat → Vl) (hN : N ≤ 1048576) (p q r : Addr) (w : World) (hg : g < w.heap.size) (hv : ValsAt w g N vl) (hbd : ∀ i, i < N → -9223372036854775808 ≤ (vl i).n ∧ (vl i).n ≤ 9223372036854775807) (hE : EnvT w p q r) :
    Calls Tryz.prog 23 #[.int .i64 op, .slice (some ⟨g, 0, none⟩) N N] w fun e w' => IEnd op N vl p q r w e w' := by
  have HBD := hid hbd
  have HE := hid hE
  have HS0 : Hid (Bs w g N vl (w.alloc (vbox 0 0 wNone))) := ⟨alloc_below _ _, hv.below (alloc_below w _) hg, heap_new w _⟩
  have hlg := hE.ty.lg
  have d1 : ¬ w.heap.size = 0 := by omega
  have d2 : ¬ 0 = w.heap.size := by omega
  by_cases h6 : op < 6
  · have HX : Hid (BltRes op N vl 0 0 wNone wType) := .inl ⟨fun hf => (by have := hf.1; omega), rfl, rfl, rfl, rfl⟩
    clear hv hbd hE
    go_enter Tryz.func23, Tryz.ntmps23
    go_upto_region 2 with fail
    obtain ⟨W, hW⟩ : ∃ W, w.alloc (vbox 0 0 wNone) = W := ⟨_, rfl⟩
    rw [hW] at HS0 ⊢
    clear hW
    obtain ⟨r0, r1, r2, f0, f1, f2⟩ := six HS0.out.rb
    have g0 := (HE.out.next HS0.out.lo).ty.glob
    go_region
    go_wp2
    exact bodyPost_ret (v := .tuple #[val 0 0 wNone, errV p]) (by simp [results, Tryz.results23, go_sem, r0, r1, r2]) rfl ⟨(setr (Nat.le_refl _) HS0.out.lo _ _ _).drew, .inr (.inl ⟨rfl, HX.out⟩)⟩
  by_cases h12 : 12 < op
  · have HX : Hid (BltRes op N vl 0 0 wNone wType) := .inl ⟨fun hf => (by have := hf.2.1; omega), rfl, rfl, rfl, rfl⟩
    clear hv hbd hE
    go_enter Tryz.func23, Tryz.ntmps23
    go_upto_region 2 with fail
    obtain ⟨W, hW⟩ : ∃ W, w.alloc (vbox 0 0 wNone) = W := ⟨_, rfl⟩
    rw [hW] at HS0 ⊢
    clear hW
    obtain ⟨r0, r1, r2, f0, f1, f2⟩ := six HS0.out.rb
    have g0 := (HE.out.next HS0.out.lo).ty.glob
    go_region
    go_wp2
    exact bodyPost_ret (v := .tuple #[val 0 0 wNone, errV p]) (by simp [results, Tryz.results23, go_sem, r0, r1, r2]) rfl ⟨(setr (Nat.le_refl _) HS0.out.lo _ _ _).drew, .inr (.inl ⟨rfl, HX.out⟩)⟩
  have HAF := hid (argsFit_any op g N vl (by omega) (by omega) hN (w.alloc (vbox 0 0 wNone)) (by simp; omega) HS0.out.vals hbd (hE.sg.next (alloc_below _ _)))
  have k6 : 6 ≤ op := by omega
  have k12 : op ≤ 12 := by omega
  clear hv hbd hE
  go_enter Tryz.func23, Tryz.ntmps23
  go_wp2_with fail
  refine HAF.out.mono ?_
  rintro e w2 ⟨he, hb2⟩
  have HS2 := hid (HS0.out.next hg hb2)
  clear hb2 HAF
  rcases he with ⟨hf, rfl⟩ | ⟨hf, rfl⟩
  · have HFT : Hid (Fits op N vl) := ⟨k6, k12, hf⟩
    clear hf
    have hjp : 0 < N := by
      have h1 := ok_len HFT.out.2.2
      obtain rfl | rfl | rfl | rfl | rfl | rfl | rfl : op = 6 ∨ op = 7 ∨ op = 8 ∨ op = 9 ∨ op = 10 ∨ op = 11 ∨ op = 12 := by omega
      all_goals (rw [← h1]; decide)
    have hjpi : (0 : Int) < N := by omega
    have HV0 := hid (HFT.out.2.2.1 0 hjp)
    have HB0 := hid (HBD.out 0 hjp)
    obtain ⟨x0, x1, x2⟩ := val0 HS2.out.vals hjp
    obtain ⟨a, ha⟩ : ∃ a, vl 0 = a := ⟨_, rfl⟩
    obtain ⟨at_, an, sA⟩ := a
    rw [ha] at x0 x1 x2 HV0 HB0
    simp only at x0 x1 x2 HB0
    have HA := hid ha
    clear ha
    have HS3 := hid (HS2.out.next hg (alloc_below w2 (vbox at_ an sA)))
    have HGA := hid (heap_new w2 (vbox at_ an sA))
    go_upto_region 4 with fail
    obtain ⟨W3, hW3⟩ : ∃ W, w2.alloc (vbox at_ an sA) = W := ⟨_, rfl⟩
    obtain ⟨ga, hga⟩ : ∃ q, w2.heap.size = q := ⟨_, rfl⟩
    rw [hW3] at HS3 HGA ⊢
    rw [hga] at HGA ⊢
    have hne : w.heap.size ≠ ga := by rw [← hga]; have := (Array.getElem?_eq_some_iff.1 HS2.out.rb).1; omega
    clear hW3 hga x0 x1 x2 HS2
    obtain ⟨r0, r1, r2, f0, f1, f2⟩ := six HS3.out.rb
    obtain ⟨x0, x1, x2, _, _, _⟩ := six HGA.out
    have HEV : Hid (∀ V, Below W3.heap.size W3 V → EnvT V p q r) := fun V hV => HE.out.next (HS3.out.next hg hV).lo
    obtain rfl | rfl | rfl | rfl | rfl | rfl | rfl : op = 6 ∨ op = 7 ∨ op = 8 ∨ op = 9 ∨ op = 10 ∨ op = 11 ∨ op = 12 := by omega
    · obtain rfl : N = 1 := by have h1 := ok_len HFT.out.2.2; simpa [wants] using h1.symm
      have HT : Hid (at_ = 2) := by have h := ok_at HFT.out.2.2 0 (by decide); rw [HA.out] at h; show at_ = 2; simpa [fit1, wants] using h
      have hsz : sA.size ≤ 3000 := (valid_tx HV0.out HT.out).2
      have HX : Hid (BltRes 6 1 vl 10 sA.size wNone wNone) := .inr ⟨HFT.out, by rw [HA.out]; exact .inl ⟨rfl, rfl, rfl, rfl, rfl⟩⟩
      go_wp2_with fail
      refine (iSize_any sA.size _).mono ?_
      rintro e w4 ⟨rfl, hb4⟩
      have HS4 := hid (HS3.out.next hg hb4)
      clear hb4 x0 x1 x2 r0 r1 r2 f0 f1 f2
      obtain ⟨r0, r1, r2, f0, f1, f2⟩ := six HS4.out.rb
      go_wp2
      exact bodyPost_ret (v := .tuple #[val 10 sA.size wNone, .nilIface]) (by simp [results, Tryz.results23, go_sem, r0, r1, r2]) rfl ⟨setr (Nat.le_refl _) HS4.out.lo _ _ _, .inl ⟨_, _, _, rfl, HX.out⟩⟩
    · obtain rfl : N = 2 := by have h1 := ok_len HFT.out.2.2; simpa [wants] using h1.symm
      have HT : Hid (at_ = 2) := by have h := ok_at HFT.out.2.2 0 (by decide); rw [HA.out] at h; show at_ = 2; simpa [fit1, wants] using h
      have hsz : sA.size ≤ 3000 := (valid_tx HV0.out HT.out).2
      obtain ⟨z0, z1, z2⟩ := val1 HS3.out.vals (by decide)
      obtain ⟨b1, hb1⟩ : ∃ b, vl 1 = b := ⟨_, rfl⟩
      obtain ⟨t1, n1, s1⟩ := b1
      rw [hb1] at z0 z1 z2
      simp only at z0 z1 z2
      have HV1 := hid (HFT.out.2.2.1 1 (by decide))
      rw [hb1] at HV1
      have HQ1 := hid hb1
      clear hb1
      by_cases hin : 0 ≤ n1 ∧ n1 < sA.size
      · obtain ⟨i, rfl⟩ := Int.eq_ofNat_of_zero_le hin.1
        have hi3 : i < sA.size := by omega
        have HX : Hid (BltRes 7 2 vl 3 (sA[i].toNat : Int) wNone wNone) := .inr ⟨HFT.out, by rw [HA.out, HQ1.out]; exact .inr (.inl ⟨rfl, .inl ⟨i, hi3, rfl, rfl, rfl, rfl, rfl⟩⟩)⟩
        have HC := hid (millAt_ok sA i hi3 hsz)
        clear hin
        generalize (sA[i].toNat : Int) = zb at *
        have HSS : Hid (∀ V, Below W3.heap.size W3 V → V.cell? ⟨ga, 2, none⟩ = some (.string sA) ∧ V.cell? ⟨g, 4, none⟩ = some (.int .i64 (i : Int))) := fun V hV => by
          have h1 := (six (keep_box HGA.out hV)).2.2.1
          have h2 := (val1 (HS3.out.next hg hV).vals (by decide)).2.1
          rw [HQ1.out] at h2
          exact ⟨h1, h2⟩
        have HSZ : Hid (∀ V (a b c : Value), Below W3.heap.size W3 V → (((V.setCell ⟨w.heap.size, 0, none⟩ a).setCell ⟨w.heap.size, 1, none⟩ b).setCell ⟨w.heap.size, 2, none⟩ c).cell? ⟨ga, 2, none⟩ = some (.string sA) ∧ (((V.setCell ⟨w.heap.size, 0, none⟩ a).setCell ⟨w.heap.size, 1, none⟩ b).setCell ⟨w.heap.size, 2, none⟩ c).cell? ⟨g, 4, none⟩ = some (.int .i64 (i : Int))) := fun V a b c hV => by
          obtain ⟨h0, h1⟩ := HSS.out V hV
          exact ⟨(set3_cell (show ga ≠ w.heap.size from fun e => hne e.symm) a b c).trans h0, (set3_cell (show g ≠ w.heap.size by omega) a b c).trans h1⟩
        have HR3 := hid HS3.out.rb
        go_wp2_with fail
        go_region_held3 (fun V => V.cell? ⟨ga, 2, none⟩ = some (.string sA) ∧ V.cell? ⟨g, 4, none⟩ = some (.int .i64 (i : Int))) (first | (exact HSS.out _ HC5.out) | (exact HSZ.out _ _ _ _ HC5.out) | (exact HSS.out _ HC4.out) | (exact HSZ.out _ _ _ _ HC4.out) | go_keep) (first
          | (go_at_call 42; refine (HC.out _).mono ?_; rintro e w4 ⟨rfl, hb4⟩; have HC4 : Hid (Below W3.heap.size W3 w4) := go2 (Below.refl _ W3).drew hb4; obtain ⟨r0, r1, r2, f0, f1, f2⟩ := six (keep_box HR3.out HC4.out); clear hb4)
          | fail)
        go_wp2
        exact bodyPost_ret (v := .tuple #[val 3 zb wNone, .nilIface]) (by simp [results, Tryz.results23, go_sem, r0, r1, r2]) rfl ⟨setr (Nat.le_refl _) (HS3.out.next hg HC4.out).lo _ _ _, .inl ⟨_, _, _, rfl, HX.out⟩⟩
      · have HX : Hid (BltRes 7 2 vl 0 0 wNone wRange) := .inr ⟨HFT.out, by rw [HA.out, HQ1.out]; exact .inr (.inl ⟨rfl, .inr ⟨hin, rfl, rfl, rfl, rfl⟩⟩)⟩
        have HC : Hid (∀ V, Below W3.heap.size W3 V → _) := fun V hV => millAt_no sA n1 hin hsz q wRange V (HEV.out V hV).rg
        clear hin
        have HSS : Hid (∀ V, Below W3.heap.size W3 V → V.cell? ⟨ga, 2, none⟩ = some (.string sA) ∧ V.cell? ⟨g, 4, none⟩ = some (.int .i64 n1)) := fun V hV => by
          have h1 := (six (keep_box HGA.out hV)).2.2.1
          have h2 := (val1 (HS3.out.next hg hV).vals (by decide)).2.1
          rw [HQ1.out] at h2
          exact ⟨h1, h2⟩
        have HSZ : Hid (∀ V (a b c : Value), Below W3.heap.size W3 V → (((V.setCell ⟨w.heap.size, 0, none⟩ a).setCell ⟨w.heap.size, 1, none⟩ b).setCell ⟨w.heap.size, 2, none⟩ c).cell? ⟨ga, 2, none⟩ = some (.string sA) ∧ (((V.setCell ⟨w.heap.size, 0, none⟩ a).setCell ⟨w.heap.size, 1, none⟩ b).setCell ⟨w.heap.size, 2, none⟩ c).cell? ⟨g, 4, none⟩ = some (.int .i64 n1)) := fun V a b c hV => by
          obtain ⟨h0, h1⟩ := HSS.out V hV
          exact ⟨(set3_cell (show ga ≠ w.heap.size from fun e => hne e.symm) a b c).trans h0, (set3_cell (show g ≠ w.heap.size by omega) a b c).trans h1⟩
        have HR3 := hid HS3.out.rb
        go_wp2_with fail
        go_region_held3 (fun V => V.cell? ⟨ga, 2, none⟩ = some (.string sA) ∧ V.cell? ⟨g, 4, none⟩ = some (.int .i64 n1)) (first | (exact HSS.out _ HC5.out) | (exact HSZ.out _ _ _ _ HC5.out) | (exact HSS.out _ HC4.out) | (exact HSZ.out _ _ _ _ HC4.out) | go_keep) (first
          | (go_at_call 42; refine (HC.out _ (Below.refl _ W3).drew).mono ?_; rintro e w4 ⟨rfl, hb4⟩; have HC4 : Hid (Below W3.heap.size W3 w4) := go2 (Below.refl _ W3).drew hb4; obtain ⟨r0, r1, r2, f0, f1, f2⟩ := six (keep_box HR3.out HC4.out); clear hb4)
          | fail)
        go_wp2
        exact bodyPost_ret (v := .tuple #[val 0 0 wNone, errV q]) (by simp [results, Tryz.results23, go_sem, r0, r1, r2]) rfl ⟨setr (Nat.le_refl _) (HS3.out.next hg HC4.out).lo _ _ _, .inr (.inr (.inl ⟨rfl, HX.out⟩))⟩
    · obtain rfl : N = 3 := by have h1 := ok_len HFT.out.2.2; simpa [wants] using h1.symm
      have HT : Hid (at_ = 2) := by have h := ok_at HFT.out.2.2 0 (by decide); rw [HA.out] at h; show at_ = 2; simpa [fit1, wants] using h
      have hsz : sA.size ≤ 3000 := (valid_tx HV0.out HT.out).2
      obtain ⟨z0, z1, z2⟩ := val1 HS3.out.vals (by decide)
      obtain ⟨b1, hb1⟩ : ∃ b, vl 1 = b := ⟨_, rfl⟩
      obtain ⟨t1, n1, s1⟩ := b1
      rw [hb1] at z0 z1 z2
      simp only at z0 z1 z2
      have HV1 := hid (HFT.out.2.2.1 1 (by decide))
      rw [hb1] at HV1
      have HQ1 := hid hb1
      clear hb1
      obtain ⟨y0, y1, y2⟩ := val2 HS3.out.vals (by decide)
      obtain ⟨b2, hb2⟩ : ∃ b, vl 2 = b := ⟨_, rfl⟩
      obtain ⟨t2, n2, s2⟩ := b2
      rw [hb2] at y0 y1 y2
      simp only at y0 y1 y2
      have HV2 := hid (HFT.out.2.2.1 2 (by decide))
      rw [hb2] at HV2
      have HQ2 := hid hb2
      clear hb2
      by_cases hin : 0 ≤ n1 ∧ n1 ≤ n2 ∧ n2 ≤ sA.size
      · obtain ⟨i, rfl⟩ := Int.eq_ofNat_of_zero_le hin.1
        obtain ⟨j, rfl⟩ := Int.eq_ofNat_of_zero_le (Int.le_trans hin.1 hin.2.1)
        have hi3 : i ≤ j := by omega
        have hj3 : j ≤ sA.size := by omega
        have HX : Hid (BltRes 8 3 vl 2 0 (sA.extract i j) wNone) := .inr ⟨HFT.out, by rw [HA.out, HQ1.out, HQ2.out]; exact .inr (.inr (.inl ⟨rfl, .inl ⟨i, j, rfl, rfl, hi3, hj3, rfl, rfl, rfl, rfl⟩⟩))⟩
        have HC := hid (millCut_ok sA i j hi3 hj3 hsz)
        clear hin
        generalize sA.extract i j = zb at *
        have HSS : Hid (∀ V, Below W3.heap.size W3 V → V.cell? ⟨ga, 2, none⟩ = some (.string sA) ∧ V.cell? ⟨g, 4, none⟩ = some (.int .i64 (i : Int)) ∧ V.cell? ⟨g, 7, none⟩ = some (.int .i64 (j : Int))) := fun V hV => by
          have h1 := (six (keep_box HGA.out hV)).2.2.1
          have h2 := (val1 (HS3.out.next hg hV).vals (by decide)).2.1
          have h3 := (val2 (HS3.out.next hg hV).vals (by decide)).2.1
          rw [HQ1.out] at h2
          rw [HQ2.out] at h3
          exact ⟨h1, h2, h3⟩
        have HSZ : Hid (∀ V (a b c : Value), Below W3.heap.size W3 V → (((V.setCell ⟨w.heap.size, 0, none⟩ a).setCell ⟨w.heap.size, 1, none⟩ b).setCell ⟨w.heap.size, 2, none⟩ c).cell? ⟨ga, 2, none⟩ = some (.string sA) ∧ (((V.setCell ⟨w.heap.size, 0, none⟩ a).setCell ⟨w.heap.size, 1, none⟩ b).setCell ⟨w.heap.size, 2, none⟩ c).cell? ⟨g, 4, none⟩ = some (.int .i64 (i : Int)) ∧ (((V.setCell ⟨w.heap.size, 0, none⟩ a).setCell ⟨w.heap.size, 1, none⟩ b).setCell ⟨w.heap.size, 2, none⟩ c).cell? ⟨g, 7, none⟩ = some (.int .i64 (j : Int))) := fun V a b c hV => by
          obtain ⟨h0, h1, h2⟩ := HSS.out V hV
          exact ⟨(set3_cell (show ga ≠ w.heap.size from fun e => hne e.symm) a b c).trans h0, (set3_cell (show g ≠ w.heap.size by omega) a b c).trans h1, (set3_cell (show g ≠ w.heap.size by omega) a b c).trans h2⟩
        have HR3 := hid HS3.out.rb
        go_wp2_with fail
        go_region_held3 (fun V => V.cell? ⟨ga, 2, none⟩ = some (.string sA) ∧ V.cell? ⟨g, 4, none⟩ = some (.int .i64 (i : Int)) ∧ V.cell? ⟨g, 7, none⟩ = some (.int .i64 (j : Int))) (first | (exact HSS.out _ HC5.out) | (exact HSZ.out _ _ _ _ HC5.out) | (exact HSS.out _ HC4.out) | (exact HSZ.out _ _ _ _ HC4.out) | go_keep) (first
          | (go_at_call 43; refine (HC.out _).mono ?_; rintro e w4 ⟨rfl, hb4⟩; have HC4 : Hid (Below W3.heap.size W3 w4) := go2 (Below.refl _ W3).drew hb4; obtain ⟨r0, r1, r2, f0, f1, f2⟩ := six (keep_box HR3.out HC4.out); clear hb4)
          | fail)
        go_wp2
        exact bodyPost_ret (v := .tuple #[val 2 0 zb, .nilIface]) (by simp [results, Tryz.results23, go_sem, r0, r1, r2]) rfl ⟨setr (Nat.le_refl _) (HS3.out.next hg HC4.out).lo _ _ _, .inl ⟨_, _, _, rfl, HX.out⟩⟩
      · have HX : Hid (BltRes 8 3 vl 0 0 wNone wRange) := .inr ⟨HFT.out, by rw [HA.out, HQ1.out, HQ2.out]; exact .inr (.inr (.inl ⟨rfl, .inr ⟨hin, rfl, rfl, rfl, rfl⟩⟩))⟩
        have HC : Hid (∀ V, Below W3.heap.size W3 V → _) := fun V hV => millCut_no sA n1 n2 hin hsz q wRange V (HEV.out V hV).rg
        clear hin
        have HSS : Hid (∀ V, Below W3.heap.size W3 V → V.cell? ⟨ga, 2, none⟩ = some (.string sA) ∧ V.cell? ⟨g, 4, none⟩ = some (.int .i64 n1) ∧ V.cell? ⟨g, 7, none⟩ = some (.int .i64 n2)) := fun V hV => by
          have h1 := (six (keep_box HGA.out hV)).2.2.1
          have h2 := (val1 (HS3.out.next hg hV).vals (by decide)).2.1
          have h3 := (val2 (HS3.out.next hg hV).vals (by decide)).2.1
          rw [HQ1.out] at h2
          rw [HQ2.out] at h3
          exact ⟨h1, h2, h3⟩
        have HSZ : Hid (∀ V (a b c : Value), Below W3.heap.size W3 V → (((V.setCell ⟨w.heap.size, 0, none⟩ a).setCell ⟨w.heap.size, 1, none⟩ b).setCell ⟨w.heap.size, 2, none⟩ c).cell? ⟨ga, 2, none⟩ = some (.string sA) ∧ (((V.setCell ⟨w.heap.size, 0, none⟩ a).setCell ⟨w.heap.size, 1, none⟩ b).setCell ⟨w.heap.size, 2, none⟩ c).cell? ⟨g, 4, none⟩ = some (.int .i64 n1) ∧ (((V.setCell ⟨w.heap.size, 0, none⟩ a).setCell ⟨w.heap.size, 1, none⟩ b).setCell ⟨w.heap.size, 2, none⟩ c).cell? ⟨g, 7, none⟩ = some (.int .i64 n2)) := fun V a b c hV => by
          obtain ⟨h0, h1, h2⟩ := HSS.out V hV
          exact ⟨(set3_cell (show ga ≠ w.heap.size from fun e => hne e.symm) a b c).trans h0, (set3_cell (show g ≠ w.heap.size by omega) a b c).trans h1, (set3_cell (show g ≠ w.heap.size by omega) a b c).trans h2⟩
        have HR3 := hid HS3.out.rb
        go_wp2_with fail
        go_region_held3 (fun V => V.cell? ⟨ga, 2, none⟩ = some (.string sA) ∧ V.cell? ⟨g, 4, none⟩ = some (.int .i64 n1) ∧ V.cell? ⟨g, 7, none⟩ = some (.int .i64 n2)) (first | (exact HSS.out _ HC5.out) | (exact HSZ.out _ _ _ _ HC5.out) | (exact HSS.out _ HC4.out) | (exact HSZ.out _ _ _ _ HC4.out) | go_keep) (first
          | (go_at_call 43; refine (HC.out _ (Below.refl _ W3).drew).mono ?_; rintro e w4 ⟨rfl, hb4⟩; have HC4 : Hid (Below W3.heap.size W3 w4) := go2 (Below.refl _ W3).drew hb4; obtain ⟨r0, r1, r2, f0, f1, f2⟩ := six (keep_box HR3.out HC4.out); clear hb4)
          | fail)
        go_wp2
        exact bodyPost_ret (v := .tuple #[val 0 0 wNone, errV q]) (by simp [results, Tryz.results23, go_sem, r0, r1, r2]) rfl ⟨setr (Nat.le_refl _) (HS3.out.next hg HC4.out).lo _ _ _, .inr (.inr (.inl ⟨rfl, HX.out⟩))⟩
    · obtain rfl : N = 2 := by have h1 := ok_len HFT.out.2.2; simpa [wants] using h1.symm
      have HT : Hid (at_ = 2) := by have h := ok_at HFT.out.2.2 0 (by decide); rw [HA.out] at h; show at_ = 2; simpa [fit1, wants] using h
      have hsz : sA.size ≤ 3000 := (valid_tx HV0.out HT.out).2
      obtain ⟨z0, z1, z2⟩ := val1 HS3.out.vals (by decide)
      obtain ⟨b1, hb1⟩ : ∃ b, vl 1 = b := ⟨_, rfl⟩
      obtain ⟨t1, n1, s1⟩ := b1
      rw [hb1] at z0 z1 z2
      simp only at z0 z1 z2
      have HV1 := hid (HFT.out.2.2.1 1 (by decide))
      rw [hb1] at HV1
      have HQ1 := hid hb1
      clear hb1
      have HX : Hid (BltRes 9 2 vl 10 (Lib.index sA.data.toList s1.data.toList) wNone wNone) := .inr ⟨HFT.out, by rw [HA.out, HQ1.out]; exact .inr (.inr (.inr (.inl ⟨rfl, rfl, rfl, rfl, rfl⟩)))⟩
      have HI : Hid (∀ V, Below W3.heap.size W3 V → Calls Tryz.prog 45 #[.string sA, .string s1] V fun e w' => e = .returned (.int .i64 (Lib.index sA.data.toList s1.data.toList)) ∧ w' = V) := fun V hV => by
        obtain ⟨m, hm⟩ := (HEV.out V hV).nm.mx
        exact index_any sA s1 m hsz V hm
      generalize (Lib.index sA.data.toList s1.data.toList) = zi at *
      have HZ := hid (iSize_any zi)
      have HSS : Hid (∀ V, Below W3.heap.size W3 V → V.cell? ⟨ga, 2, none⟩ = some (.string sA) ∧ V.cell? ⟨g, 5, none⟩ = some (.string s1)) := fun V hV => by
        have h1 := (six (keep_box HGA.out hV)).2.2.1
        have h2 := (val1 (HS3.out.next hg hV).vals (by decide)).2.2
        rw [HQ1.out] at h2
        exact ⟨h1, h2⟩
      have HSZ : Hid (∀ V (a b c : Value), Below W3.heap.size W3 V → (((V.setCell ⟨w.heap.size, 0, none⟩ a).setCell ⟨w.heap.size, 1, none⟩ b).setCell ⟨w.heap.size, 2, none⟩ c).cell? ⟨ga, 2, none⟩ = some (.string sA) ∧ (((V.setCell ⟨w.heap.size, 0, none⟩ a).setCell ⟨w.heap.size, 1, none⟩ b).setCell ⟨w.heap.size, 2, none⟩ c).cell? ⟨g, 5, none⟩ = some (.string s1)) := fun V a b c hV => by
        obtain ⟨h0, h1⟩ := HSS.out V hV
        exact ⟨(set3_cell (show ga ≠ w.heap.size from fun e => hne e.symm) a b c).trans h0, (set3_cell (show g ≠ w.heap.size by omega) a b c).trans h1⟩
      have HR3 := hid HS3.out.rb
      go_wp2_with fail
      go_region_held3 (fun V => V.cell? ⟨ga, 2, none⟩ = some (.string sA) ∧ V.cell? ⟨g, 5, none⟩ = some (.string s1)) (first | (exact HSS.out _ HC5.out) | (exact HSZ.out _ _ _ _ HC5.out) | (exact HSS.out _ HC4.out) | (exact HSZ.out _ _ _ _ HC4.out) | go_keep) (first
        | (go_at_call 45; refine (HI.out _ (Below.refl _ W3).drew).mono ?_; rintro e w4 ⟨rfl, hb4⟩; have HC4 : Hid (Below W3.heap.size W3 w4) := (by rw [hb4]; exact (Below.refl _ W3).drew); obtain ⟨r0, r1, r2, f0, f1, f2⟩ := six (keep_box HR3.out HC4.out); clear hb4)
        | (have gg := HC4.out; clear gg; go_at_call 44; refine (HZ.out _).mono ?_; rintro e w5 ⟨rfl, hb5⟩; have HC5 : Hid (Below W3.heap.size W3 w5) := go2 HC4.out hb5; obtain ⟨r0, r1, r2, f0, f1, f2⟩ := six (keep_box HR3.out HC5.out); clear hb5)
        | fail)
      go_wp2
      exact bodyPost_ret (v := .tuple #[val 10 zi wNone, .nilIface]) (by simp [results, Tryz.results23, go_sem, r0, r1, r2]) rfl ⟨setr (Nat.le_refl _) (HS3.out.next hg HC5.out).lo _ _ _, .inl ⟨_, _, _, rfl, HX.out⟩⟩
    · obtain rfl : N = 1 := by have h1 := ok_len HFT.out.2.2; simpa [wants] using h1.symm
      have HT : Hid (at_ = 3) := by have h := ok_at HFT.out.2.2 0 (by decide); rw [HA.out] at h; show at_ = 3; simpa [fit1, wants] using h
      obtain ⟨a1, a2, a3⟩ := chr_byte (n := an) (by have h := HV0.out; have e := HT.out; subst e; exact valid_nm (by decide) (by decide) h)
      have HX : Hid (BltRes 10 1 vl 2 0 ⟨#[UInt8.ofNat an.toNat]⟩ wNone) := .inr ⟨HFT.out, by rw [HA.out]; exact .inr (.inr (.inr (.inr (.inl ⟨rfl, rfl, rfl, rfl, rfl⟩))))⟩
      have a4 : IntKind.u8.wrap an = an := by rw [IntKind.wrap_u8]; omega
      rw [a4] at a3
      generalize UInt8.ofNat an.toNat = cc at *
      have hcv := conv_one W3 cc (cc.toNat : Int) rfl
      have HTX := hid (iText_any ⟨#[cc]⟩)
      go_wp2_with fail
      refine (HTX.out _).mono ?_
      rintro e w4 ⟨rfl, hb4⟩
      have HS4 := hid ((HS3.out.next hg (alloc_below _ _)).next hg hb4)
      clear hb4 x0 x1 x2 r0 r1 r2 f0 f1 f2 hcv
      obtain ⟨r0, r1, r2, f0, f1, f2⟩ := six HS4.out.rb
      go_wp2
      exact bodyPost_ret (v := .tuple #[val 2 0 ⟨#[cc]⟩, .nilIface]) (by simp [results, Tryz.results23, go_sem, r0, r1, r2]) rfl ⟨setr (Nat.le_refl _) HS4.out.lo _ _ _, .inl ⟨_, _, _, rfl, HX.out⟩⟩
    · obtain rfl : N = 1 := by have h1 := ok_len HFT.out.2.2; simpa [wants] using h1.symm
      have HT : Hid (3 ≤ at_ ∧ at_ ≤ 10) := by
        have h := ok_at HFT.out.2.2 0 (by decide)
        rw [HA.out] at h
        have hv : 1 ≤ at_ ∧ at_ ≤ 10 := valid_ge HV0.out
        have h2 : at_ = -1 ∨ (3 ≤ at_ ∧ at_ ≤ 10) := by simpa [fit1, wants] using h
        show 3 ≤ at_ ∧ at_ ≤ 10
        omega
      have HX : Hid (BltRes 11 1 vl 2 0 ⟨(decT at_ an).toArray⟩ wNone) := .inr ⟨HFT.out, by rw [HA.out]; exact .inr (.inr (.inr (.inr (.inr (.inl ⟨rfl, rfl, rfl, rfl, rfl⟩)))))⟩
      have HDD : Hid (∀ V, Below W3.heap.size W3 V → _) := fun V hV => millDec_any at_ an sA HT.out.1 HT.out.2 (valid_nm HT.out.1 HT.out.2 HV0.out) V (HEV.out V hV).nm.tab
      generalize (⟨(decT at_ an).toArray⟩ : ByteArray) = D at *
      have HTX := hid (iText_any D)
      go_wp2_with fail
      refine (HDD.out _ (Below.refl _ _)).mono ?_
      rintro e w4 ⟨rfl, hb4⟩
      have HS4 := hid (HS3.out.next hg hb4)
      clear hb4
      go_wp2_with fail
      refine (HTX.out _).mono ?_
      rintro e w5 ⟨rfl, hb5⟩
      have HS5 := hid (HS4.out.next hg hb5)
      clear hb5 x0 x1 x2 r0 r1 r2 f0 f1 f2
      obtain ⟨r0, r1, r2, f0, f1, f2⟩ := six HS5.out.rb
      go_wp2
      exact bodyPost_ret (v := .tuple #[val 2 0 D, .nilIface]) (by simp [results, Tryz.results23, go_sem, r0, r1, r2]) rfl ⟨setr (Nat.le_refl _) HS5.out.lo _ _ _, .inl ⟨_, _, _, rfl, HX.out⟩⟩
    · obtain rfl : N = 1 := by have h1 := ok_len HFT.out.2.2; simpa [wants] using h1.symm
      have HT : Hid (at_ = 2) := by have h := ok_at HFT.out.2.2 0 (by decide); rw [HA.out] at h; show at_ = 2; simpa [fit1, wants] using h
      have hsz : sA.size ≤ 3000 := (valid_tx HV0.out HT.out).2
      have HNN := hid (millNum_any sA hsz r wNumber W3 (HEV.out _ (Below.refl _ _)).nm (HEV.out _ (Below.refl _ _)).nu)
      go_wp2_with fail
      refine HNN.out.mono ?_
      rintro e w4 ⟨hb4, he⟩
      have HS4 := hid (HS3.out.next hg hb4)
      clear hb4 x0 x1 x2 r0 r1 r2 f0 f1 f2
      obtain ⟨r0, r1, r2, f0, f1, f2⟩ := six HS4.out.rb
      rcases he with ⟨m, h1, h2, rfl⟩ | ⟨hno, rfl⟩
      · have HX : Hid (BltRes 12 1 vl 10 m wNone wNone) := .inr ⟨HFT.out, by rw [HA.out]; exact .inr (.inr (.inr (.inr (.inr (.inr ⟨rfl, .inl ⟨m, h1, h2, rfl, rfl, rfl, rfl⟩⟩)))))⟩
        clear h1 h2
        go_wp2
        exact bodyPost_ret (v := .tuple #[val 10 m wNone, .nilIface]) (by simp [results, Tryz.results23, go_sem, r0, r1, r2]) rfl ⟨setr (Nat.le_refl _) HS4.out.lo _ _ _, .inl ⟨_, _, _, rfl, HX.out⟩⟩
      · have HX : Hid (BltRes 12 1 vl 0 0 wNone wNumber) := .inr ⟨HFT.out, by rw [HA.out]; exact .inr (.inr (.inr (.inr (.inr (.inr ⟨rfl, .inr ⟨hno, rfl, rfl, rfl, rfl⟩⟩)))))⟩
        clear hno
        go_wp2
        exact bodyPost_ret (v := .tuple #[val 0 0 wNone, errV r]) (by simp [results, Tryz.results23, go_sem, r0, r1, r2]) rfl ⟨setr (Nat.le_refl _) HS4.out.lo _ _ _, .inr (.inr (.inr ⟨rfl, HX.out⟩))⟩
  · have HX : Hid (BltRes op N vl 0 0 wNone wType) := .inl ⟨fun h => hf h.2.2, rfl, rfl, rfl, rfl⟩
    clear hf
    go_upto_region 2 with fail
    obtain ⟨r0, r1, r2, f0, f1, f2⟩ := six HS2.out.rb
    have g0 := (HE.out.next HS2.out.lo).ty.glob
    go_region
    go_wp2
    exact bodyPost_ret (v := .tuple #[val 0 0 wNone, errV p]) (by simp [results, Tryz.results23, go_sem, r0, r1, r2]) rfl ⟨(setr (Nat.le_refl _) HS2.out.lo _ _ _).drew, .inr (.inl ⟨rfl, HX.out⟩)⟩
end Go.Proofs.YtabefhpgeaihgaaGreatDoor.V
