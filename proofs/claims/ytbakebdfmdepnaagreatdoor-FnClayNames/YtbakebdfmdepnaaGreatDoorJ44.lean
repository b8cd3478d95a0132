import Derived.Deep.DeepCutAuto
import Derived.Deep.OwnRows
import Derived.Deep.RegionHeld3
import Derived.Test.YtbakebdfmdepnaaGreatDoorJ39
import Derived.Test.YtbakebdfmdepnaaGreatDoorJ41
import Derived.Test.YtbakebdfmdepnaaGreatDoorJ29
import Derived.Test.YtbakebdfmdepnaaGreatDoorJ27
import Derived.Test.YtbakebdfmdepnaaGreatDoorJ43
namespace Go.Proofs.YtbakebdfmdepnaaGreatDoor
open Go.RowKit
set_option maxRecDepth 20000
def rk9 (op : Int) : Int := if op ≤ 2 then op else if op ≤ 9 then 4 else if op ≤ 11 then 5 else 6
set_option maxHeartbeats 1000000 in
theorem l2Rank_any (op : Int) (w : World) : Calls Tryz.prog 117 #[.int .i64 op] w fun e w' => e = .returned (.int .i64 (rk9 op)) ∧ w' = w := by
 unfold rk9
 by_cases h2 : op ≤ 2
 ·rw [if_pos h2]
  go_enter Tryz.func117, Tryz.ntmps117
  go_wp2
  go_ret
  exact ⟨rfl, rfl⟩
 ·rw [if_neg h2]
  by_cases h9 : op ≤ 9
  ·rw [if_pos h9]
   go_enter Tryz.func117, Tryz.ntmps117
   go_wp2
   go_ret
   exact ⟨rfl, rfl⟩
  ·rw [if_neg h9]
   by_cases h11 : op ≤ 11
   ·rw [if_pos h11]
    go_enter Tryz.func117, Tryz.ntmps117
    go_wp2
    go_ret
    exact ⟨rfl, rfl⟩
   ·rw [if_neg h11]
    go_enter Tryz.func117, Tryz.ntmps117
    go_wp2
    go_ret
    exact ⟨rfl, rfl⟩
set_option maxHeartbeats 2000000 in
theorem l2Mark_any (j : Nat) (hj : j < 15) (w : World) : Calls Tryz.prog 118 #[.int .i64 j] w fun e w' => ∃ t, e = .returned (.string t) ∧ Below w.heap.size w w' := by
 have HB := hid (fun o => (Below.refl w.heap.size w).alloc (Nat.le_refl _) o)
 obtain rfl | rfl | rfl | rfl | rfl | rfl | rfl | rfl | rfl | rfl | rfl | rfl | rfl | rfl | rfl : j = 0 ∨ j = 1 ∨ j = 2 ∨ j = 3 ∨ j = 4 ∨ j = 5 ∨ j = 6 ∨ j = 7 ∨ j = 8 ∨ j = 9 ∨ j = 10 ∨ j = 11 ∨ j = 12 ∨ j = 13 ∨ j = 14 := by omega
 all_goals
  clear hj
  go_enter Tryz.func118, Tryz.ntmps118
  go_wp2
  go_ret
  exact ⟨_, rfl, HB.out _⟩
def OpE (s : Ds) (ov0 : Value) (w0 : World) (p : Nat) (bad : Bool) (n : Nat) (e : Ending) (w' : World) : Prop := ∃ r : Nat, e = .returned (.int .i64 r) ∧ r ≤ 14 ∧ (r ≠ 0 → p < s.T) ∧ Ad s ov0 w0 p bad n w'
set_option maxHeartbeats 4000000 in
theorem op_at {s : Ds} {ov0 : Value} {w0 : World} {p n : Nat} {bad : Bool} {w : World} (rank : Int) (h : Ad s ov0 w0 p bad n w) :
  Calls Tryz.prog 106 #[.pointer (some ⟨s.D, 0, none⟩), .int .i64 rank] w (OpE s ov0 w0 p bad n) := by
 have HA0 := hid h
 clear h
 go_enter Tryz.func106, Tryz.ntmps106
 go_wp2
 go_loopw [5] (fun c wr => ∃ j : Nat, c = .int .i64 j ∧ 1 ≤ j ∧ j ≤ 15 ∧ Ad s ov0 w0 p bad n wr) (fun c _ => 15 - (intOf c).toNat)
 case atStart => exact ⟨1, rfl, by omega, by omega, HA0.out⟩
 case round =>
  obtain ⟨j, rfl, hj1, hj2, ad⟩ := hrel
  have HAr := hid ad
  clear ad HA0
  by_cases hlt : j ≤ 14
  ·have hlt2 : (j : Int) ≤ 14 := by omega
   go_wp2_with fail
   refine (l2Rank_any _ _).mono ?_
   rintro e w1 ⟨rfl, rfl⟩
   obtain ⟨rk, hrk⟩ : ∃ k, rk9 (j : Int) = k := ⟨_, rfl⟩
   rw [hrk]
   clear hrk
   by_cases hr : rk = rank
   ·subst hr
    go_wp2_with fail
    refine (l2Mark_any j (by omega) _).mono ?_
    rintro e w2 ⟨t2, rfl, hb2⟩
    have HA2 := hid (HAr.out.next hb2)
    clear hb2 HAr
    go_wp2_with fail
    refine (is_at HA2.out _).mono ?_
    rintro e w3 (⟨rfl, l3, a3⟩ | ⟨rfl, a3⟩)
    ·have HA3 := hid a3
     clear a3 HA2
     go_wp2
     go_ret
     exact ⟨j, rfl, by omega, fun _ => l3, HA3.out⟩
    ·have HA3 := hid a3
     clear a3 HA2
     go_wp2
     go_roundw
     case rel => exact ⟨j + 1, by go_num, by omega, by omega, HA3.out⟩
     case measure => simp [intOf]; omega
   ·have hrf : (rk == rank) = false := by simpa using hr
    go_wp2
    go_roundw
    case rel => exact ⟨j + 1, by go_num, by omega, by omega, HAr.out⟩
    case measure => simp [intOf]; omega
  ·have hlt2 : ¬ (j : Int) ≤ 14 := by omega
   go_wp2
   go_ret
   exact ⟨0, rfl, by omega, fun h => absurd rfl h, HAr.out⟩
set_option maxHeartbeats 16000000 in
theorem record_at9 {s : Ds} {ov0 : Value} {w0 : World} {p n : Nat} {bad : Bool} {w : World} (hE : ∀ q, p ≤ q → EOk9 s q) (h : Ad s ov0 w0 p bad n w) (hl : n + 2 * s.T ≤ 400000 + 2 * p) :
  Calls Tryz.prog 120 #[.pointer (some ⟨s.D, 0, none⟩)] w (DE 1 s ov0 w0 p n) := by
 have HA0 := hid h
 have hT := h.pT.2
 clear h
 go_enter Tryz.func120, Tryz.ntmps120
 go_wp2
 go_loopw [2] (fun c2 wr => ∃ m q k : Nat, ∃ bb : Bool, c2 = .int .i64 m ∧ p ≤ q ∧ n ≤ k ∧ k + 2 * p ≤ n + 2 * q ∧ m ≤ q - p ∧ Ad s ov0 w0 q bb k wr) (fun _ wr => s.T - deskP s wr)
 case atStart => exact ⟨0, p, n, _, rfl, by omega, by omega, by omega, by omega, HA0.out⟩
 case round =>
  obtain ⟨m, q, k, bb, rfl, lq, lk, lkq, lm, ad⟩ := hrel
  have HAr := hid ad
  have HDP := hid ad.deskP
  have hqT := ad.pT.1
  clear ad HA0
  obtain ⟨_, _, c3, _⟩ := HAr.out.cells
  cases bb
  ·rcases Nat.eq_zero_or_pos m with rfl | hm1
   ·go_wp2_with fail
    refine (is_at HAr.out _).mono ?_
    rintro e w1 (⟨rfl, l1, a1⟩ | ⟨rfl, a1⟩)
    ·have HA1 := hid a1
     clear a1 HAr
     go_wp2_with fail
     refine (need_at HA1.out _).mono ?_
     rintro e w2 ⟨rfl, p2, b2, l2a, l2b, a2⟩
     have HA2 := hid a2
     clear a2 HA1
     go_wp2_with fail
     refine (put_at9 HA2.out ⟨9, 0, 0, ⟨#[]⟩, ((0 : Nat) : Int)⟩ (by show (⟨#[]⟩ : ByteArray).size ≤ 1000; decide) (by have := HA2.out.pT; omega)).mono ?_
     rintro e w3 ⟨rfl, a3⟩
     have HA3 := hid a3
     clear a3 HA2
     go_wp2
     go_end0
     exact ⟨rfl, p2, b2, (k + 1), by omega, by omega, by omega, HA3.out⟩
    ·have HA1 := hid a1
     clear a1 HAr
     go_wp2_with fail
     refine (tok_at HA1.out).mono ?_
     rintro e w4 ⟨kk, nn, qq, tt, rfl, hx, hk, a4⟩
     have HK := hid hk
     have HX := hid hx
     obtain ⟨ovb, kb, ab, bx⟩ := a4.box (.cells #[.int .i64 kk, .string tt, .int .i64 nn, .int .i64 qq] 120)
     have HKB := hid kb
     have HAb := hid ab
     have HBF := hid bx
     clear hk hx a4 HA1 kb ab bx
     go_upto_region 3 with fail
     obtain ⟨xb, hxb⟩ : ∃ g, w4.heap.size = g := ⟨_, rfl⟩
     obtain ⟨Wb, hWb⟩ : ∃ W, w4.alloc (.cells #[.int .i64 kk, .string tt, .int .i64 nn, .int .i64 qq] 120) = W := ⟨_, rfl⟩
     rw [hWb] at HKB HAb HBF ⊢
     rw [hxb] at HBF ⊢
     clear hxb hWb
     obtain ⟨⟨x0, x1, x2, x3⟩, _, _, _, _⟩ := tbox (HBF.out _ _ _ _ HAb.out)
     have hkk : (kk = 1 ∨ kk = 4) ∨ (kk ≠ 1 ∧ kk ≠ 4) := by omega
     rcases hkk with h14 | ⟨h1, h4⟩
     ·have hp := HK.out (by rcases h14 with h | h <;> rw [h] <;> decide)
      obtain ⟨_, d2, _, f2⟩ := HAb.out.cells
      have HAi := hid (HAb.out.inc hp)
      have HBi := hid (HBF.out _ _ _ _ HAi.out)
      rcases h14 with rfl | rfl
      ·go_wp2_with fail
       refine (need_at HAi.out _).mono ?_
       rintro e w5 ⟨rfl, p5, b5, l5a, l5b, a5⟩
       have HA5 := hid a5
       clear a5 HAi HAb d2 f2 x0 x1 x2 x3
       go_wp2_with fail
       refine (hE p5 (by omega) _ _ _ _ _ HA5.out (by have := HA5.out.pT; omega)).mono ?_
       rintro e w6 ⟨rfl, p6, b6, n6, l6a, l6b, l6c, a6⟩
       have HA6 := hid a6
       clear a6 HA5
       obtain ⟨⟨_, x1, _, _⟩, _, _, _, _⟩ := tbox (HBF.out _ _ _ _ HA6.out)
       go_wp2_with fail
       refine (put_at9 HA6.out ⟨17, 0, 0, tt, 1⟩ (HX.out) (by have := HA6.out.pT; omega)).mono ?_
       rintro e w7 ⟨rfl, a7⟩
       have HA7 := hid a7
       clear a7 HA6
       clear x1
       go_wp2_with fail
       refine (take_at HA7.out _).mono ?_
       rintro e w8 (⟨rfl, l8, a8⟩ | ⟨rfl, a8⟩)
       ·have HA8 := hid a8
        clear a8 HA7
        have HAc := hid (HA8.out.comp HKB.out)
        go_wp2
        go_roundw
        case rel => exact ⟨0 + 1, (p6 + 1), (n6 + 1), false, by go_num, by omega, by omega, by omega, by omega, HAc.out⟩
        case measure => rw [HAc.out.deskP, HDP.out]; have := HAc.out.pT; omega
       ·have HA8 := hid a8
        clear a8 HA7
        have HAc := hid (HA8.out.comp HKB.out)
        go_wp2_with fail
        refine (need_at HAc.out _).mono ?_
        rintro e w9 ⟨rfl, p9, b9, l9a, l9b, a9⟩
        have HA9 := hid a9
        clear a9 HAc
        go_wp2_with fail
        refine (put_at9 HA9.out ⟨9, 0, 0, ⟨#[]⟩, (((0 + 1) : Nat) : Int)⟩ (by show (⟨#[]⟩ : ByteArray).size ≤ 1000; decide) (by have := HA9.out.pT; omega)).mono ?_
        rintro e w10 ⟨rfl, a10⟩
        have HA10 := hid a10
        clear a10 HA9
        go_wp2
        go_end0
        exact ⟨rfl, p9, b9, ((n6 + 1) + 1), by omega, by omega, by omega, HA10.out⟩
      ·go_wp2_with fail
       refine (need_at HAi.out _).mono ?_
       rintro e w11 ⟨rfl, p11, b11, l11a, l11b, a11⟩
       have HA11 := hid a11
       clear a11 HAi HAb d2 f2 x0 x1 x2 x3
       go_wp2_with fail
       refine (hE p11 (by omega) _ _ _ _ _ HA11.out (by have := HA11.out.pT; omega)).mono ?_
       rintro e w12 ⟨rfl, p12, b12, n12, l12a, l12b, l12c, a12⟩
       have HA12 := hid a12
       clear a12 HA11
       obtain ⟨⟨_, x1, _, _⟩, _, _, _, _⟩ := tbox (HBF.out _ _ _ _ HA12.out)
       go_wp2_with fail
       refine (put_at9 HA12.out ⟨17, 0, 0, tt, 1⟩ (HX.out) (by have := HA12.out.pT; omega)).mono ?_
       rintro e w13 ⟨rfl, a13⟩
       have HA13 := hid a13
       clear a13 HA12
       clear x1
       go_wp2_with fail
       refine (take_at HA13.out _).mono ?_
       rintro e w14 (⟨rfl, l14, a14⟩ | ⟨rfl, a14⟩)
       ·have HA14 := hid a14
        clear a14 HA13
        have HAc := hid (HA14.out.comp HKB.out)
        go_wp2
        go_roundw
        case rel => exact ⟨0 + 1, (p12 + 1), (n12 + 1), false, by go_num, by omega, by omega, by omega, by omega, HAc.out⟩
        case measure => rw [HAc.out.deskP, HDP.out]; have := HAc.out.pT; omega
       ·have HA14 := hid a14
        clear a14 HA13
        have HAc := hid (HA14.out.comp HKB.out)
        go_wp2_with fail
        refine (need_at HAc.out _).mono ?_
        rintro e w15 ⟨rfl, p15, b15, l15a, l15b, a15⟩
        have HA15 := hid a15
        clear a15 HAc
        go_wp2_with fail
        refine (put_at9 HA15.out ⟨9, 0, 0, ⟨#[]⟩, (((0 + 1) : Nat) : Int)⟩ (by show (⟨#[]⟩ : ByteArray).size ≤ 1000; decide) (by have := HA15.out.pT; omega)).mono ?_
        rintro e w16 ⟨rfl, a16⟩
        have HA16 := hid a16
        clear a16 HA15
        go_wp2
        go_end0
        exact ⟨rfl, p15, b15, ((n12 + 1) + 1), by omega, by omega, by omega, HA16.out⟩
     ·have e1 : (kk != 1) = true := by simpa using h1
      have e4 : (kk != 4) = true := by simpa using h4
      go_wp2_with fail
      refine (stop_at HAb.out).mono ?_
      rintro e w17 ⟨rfl, a17⟩
      have HA17 := hid a17
      clear a17 HAb
      go_wp2
      exact bodyPost_ret (results_none rfl _ _ _) rfl ⟨rfl, q, true, k, by omega, by omega, by omega, HA17.out.comp HKB.out⟩
   ·have hm2 : (0 : Int) < (m : Int) := by omega
    go_wp2_with fail
    refine (tok_at HAr.out).mono ?_
    rintro e w18 ⟨kk, nn, qq, tt, rfl, hx, hk, a18⟩
    have HK := hid hk
    have HX := hid hx
    obtain ⟨ovb, kb, ab, bx⟩ := a18.box (.cells #[.int .i64 kk, .string tt, .int .i64 nn, .int .i64 qq] 120)
    have HKB := hid kb
    have HAb := hid ab
    have HBF := hid bx
    clear hk hx a18 HAr kb ab bx
    go_upto_region 3 with fail
    obtain ⟨xb, hxb⟩ : ∃ g, w18.heap.size = g := ⟨_, rfl⟩
    obtain ⟨Wb, hWb⟩ : ∃ W, w18.alloc (.cells #[.int .i64 kk, .string tt, .int .i64 nn, .int .i64 qq] 120) = W := ⟨_, rfl⟩
    rw [hWb] at HKB HAb HBF ⊢
    rw [hxb] at HBF ⊢
    clear hxb hWb
    obtain ⟨⟨x0, x1, x2, x3⟩, _, _, _, _⟩ := tbox (HBF.out _ _ _ _ HAb.out)
    have hkk : (kk = 1 ∨ kk = 4) ∨ (kk ≠ 1 ∧ kk ≠ 4) := by omega
    rcases hkk with h14 | ⟨h1, h4⟩
    ·have hp := HK.out (by rcases h14 with h | h <;> rw [h] <;> decide)
     obtain ⟨_, d2, _, f2⟩ := HAb.out.cells
     have HAi := hid (HAb.out.inc hp)
     have HBi := hid (HBF.out _ _ _ _ HAi.out)
     rcases h14 with rfl | rfl
     ·go_wp2_with fail
      refine (need_at HAi.out _).mono ?_
      rintro e w19 ⟨rfl, p19, b19, l19a, l19b, a19⟩
      have HA19 := hid a19
      clear a19 HAi HAb d2 f2 x0 x1 x2 x3
      go_wp2_with fail
      refine (hE p19 (by omega) _ _ _ _ _ HA19.out (by have := HA19.out.pT; omega)).mono ?_
      rintro e w20 ⟨rfl, p20, b20, n20, l20a, l20b, l20c, a20⟩
      have HA20 := hid a20
      clear a20 HA19
      obtain ⟨⟨_, x1, _, _⟩, _, _, _, _⟩ := tbox (HBF.out _ _ _ _ HA20.out)
      go_wp2_with fail
      refine (put_at9 HA20.out ⟨17, 0, 0, tt, 1⟩ (HX.out) (by have := HA20.out.pT; omega)).mono ?_
      rintro e w21 ⟨rfl, a21⟩
      have HA21 := hid a21
      clear a21 HA20
      clear x1
      go_wp2_with fail
      refine (take_at HA21.out _).mono ?_
      rintro e w22 (⟨rfl, l22, a22⟩ | ⟨rfl, a22⟩)
      ·have HA22 := hid a22
       clear a22 HA21
       have HAc := hid (HA22.out.comp HKB.out)
       go_wp2
       go_roundw
       case rel => exact ⟨m + 1, (p20 + 1), (n20 + 1), false, by go_num, by omega, by omega, by omega, by omega, HAc.out⟩
       case measure => rw [HAc.out.deskP, HDP.out]; have := HAc.out.pT; omega
      ·have HA22 := hid a22
       clear a22 HA21
       have HAc := hid (HA22.out.comp HKB.out)
       go_wp2_with fail
       refine (need_at HAc.out _).mono ?_
       rintro e w23 ⟨rfl, p23, b23, l23a, l23b, a23⟩
       have HA23 := hid a23
       clear a23 HAc
       go_wp2_with fail
       refine (put_at9 HA23.out ⟨9, 0, 0, ⟨#[]⟩, (((m + 1) : Nat) : Int)⟩ (by show (⟨#[]⟩ : ByteArray).size ≤ 1000; decide) (by have := HA23.out.pT; omega)).mono ?_
       rintro e w24 ⟨rfl, a24⟩
       have HA24 := hid a24
       clear a24 HA23
       go_wp2
       go_end0
       exact ⟨rfl, p23, b23, ((n20 + 1) + 1), by omega, by omega, by omega, HA24.out⟩
     ·go_wp2_with fail
      refine (need_at HAi.out _).mono ?_
      rintro e w25 ⟨rfl, p25, b25, l25a, l25b, a25⟩
      have HA25 := hid a25
      clear a25 HAi HAb d2 f2 x0 x1 x2 x3
      go_wp2_with fail
      refine (hE p25 (by omega) _ _ _ _ _ HA25.out (by have := HA25.out.pT; omega)).mono ?_
      rintro e w26 ⟨rfl, p26, b26, n26, l26a, l26b, l26c, a26⟩
      have HA26 := hid a26
      clear a26 HA25
      obtain ⟨⟨_, x1, _, _⟩, _, _, _, _⟩ := tbox (HBF.out _ _ _ _ HA26.out)
      go_wp2_with fail
      refine (put_at9 HA26.out ⟨17, 0, 0, tt, 1⟩ (HX.out) (by have := HA26.out.pT; omega)).mono ?_
      rintro e w27 ⟨rfl, a27⟩
      have HA27 := hid a27
      clear a27 HA26
      clear x1
      go_wp2_with fail
      refine (take_at HA27.out _).mono ?_
      rintro e w28 (⟨rfl, l28, a28⟩ | ⟨rfl, a28⟩)
      ·have HA28 := hid a28
       clear a28 HA27
       have HAc := hid (HA28.out.comp HKB.out)
       go_wp2
       go_roundw
       case rel => exact ⟨m + 1, (p26 + 1), (n26 + 1), false, by go_num, by omega, by omega, by omega, by omega, HAc.out⟩
       case measure => rw [HAc.out.deskP, HDP.out]; have := HAc.out.pT; omega
      ·have HA28 := hid a28
       clear a28 HA27
       have HAc := hid (HA28.out.comp HKB.out)
       go_wp2_with fail
       refine (need_at HAc.out _).mono ?_
       rintro e w29 ⟨rfl, p29, b29, l29a, l29b, a29⟩
       have HA29 := hid a29
       clear a29 HAc
       go_wp2_with fail
       refine (put_at9 HA29.out ⟨9, 0, 0, ⟨#[]⟩, (((m + 1) : Nat) : Int)⟩ (by show (⟨#[]⟩ : ByteArray).size ≤ 1000; decide) (by have := HA29.out.pT; omega)).mono ?_
       rintro e w30 ⟨rfl, a30⟩
       have HA30 := hid a30
       clear a30 HA29
       go_wp2
       go_end0
       exact ⟨rfl, p29, b29, ((n26 + 1) + 1), by omega, by omega, by omega, HA30.out⟩
    ·have e1 : (kk != 1) = true := by simpa using h1
     have e4 : (kk != 4) = true := by simpa using h4
     go_wp2_with fail
     refine (stop_at HAb.out).mono ?_
     rintro e w31 ⟨rfl, a31⟩
     have HA31 := hid a31
     clear a31 HAb
     go_wp2
     exact bodyPost_ret (results_none rfl _ _ _) rfl ⟨rfl, q, true, k, by omega, by omega, by omega, HA31.out.comp HKB.out⟩
  ·skip
   go_wp2_with fail
   refine (need_at HAr.out _).mono ?_
   rintro e w32 ⟨rfl, p32, b32, l32a, l32b, a32⟩
   have HA32 := hid a32
   clear a32 HAr
   go_wp2_with fail
   refine (put_at9 HA32.out ⟨9, 0, 0, ⟨#[]⟩, ((m : Nat) : Int)⟩ (by show (⟨#[]⟩ : ByteArray).size ≤ 1000; decide) (by have := HA32.out.pT; omega)).mono ?_
   rintro e w33 ⟨rfl, a33⟩
   have HA33 := hid a33
   clear a33 HA32
   go_wp2
   go_end0
   exact ⟨rfl, p32, b32, (k + 1), by omega, by omega, by omega, HA33.out⟩
set_option maxHeartbeats 4000000 in
theorem e_at9 {s : Ds} {ov0 : Value} {w0 : World} {p n : Nat} {bad : Bool} {w : World} (hE : ∀ q, p < q → EOk9 s q) (hO : OpsOk9 s 1 p) (h : Ad s ov0 w0 p bad n w) (hl : n + 2 * s.T ≤ 400000 + 2 * p) :
  Calls Tryz.prog 82 #[.pointer (some ⟨s.D, 0, none⟩)] w (DE 0 s ov0 w0 p n) := by
 have HA0 := hid h
 have hT := h.pT.2
 clear h
 go_enter Tryz.func82, Tryz.ntmps82
 go_wp2_with fail
 refine (take_at HA0.out _).mono ?_
 rintro e w1 (⟨rfl, l1, a1⟩ | ⟨rfl, a1⟩)
 ·have HA1 := hid a1
  clear a1 HA0
  go_wp2_with fail
  refine (name_at9 HA1.out).mono ?_
  rintro e w2 ⟨t2, p2, b2, rfl, x2, l2a, l2b, l2c, a2⟩
  have HA2 := hid a2
  have HX2 := hid x2
  have HC2 := hid l2c
  clear a2 HA1 l2c x2
  go_wp2_with fail
  refine (need_at HA2.out _).mono ?_
  rintro e w3 ⟨rfl, p3, b3, l3a, l3b, a3⟩
  have HA3 := hid a3
  clear a3 HA2
  go_wp2_with fail
  refine (hE p3 (by omega) _ _ _ _ _ HA3.out (by have := HA3.out.pT; omega)).mono ?_
  rintro e w4 ⟨rfl, p4, b4, n4, l4a, l4b, l4c, a4⟩
  have HA4 := hid a4
  clear a4 HA3
  go_wp2_with fail
  refine (need_at HA4.out _).mono ?_
  rintro e w5 ⟨rfl, p5, b5, l5a, l5b, a5⟩
  have HA5 := hid a5
  clear a5 HA4
  go_wp2_with fail
  refine (hE p5 (by omega) _ _ _ _ _ HA5.out (by have := HA5.out.pT; omega)).mono ?_
  rintro e w6 ⟨rfl, p6, b6, n6, l6a, l6b, l6c, a6⟩
  have HA6 := hid a6
  clear a6 HA5
  go_wp2_with fail
  refine (put_at9 HA6.out ⟨14, 0, 0, t2, 2⟩ (HX2.out) (by have := HA6.out.pT; omega)).mono ?_
  rintro e w7 ⟨rfl, a7⟩
  have HA7 := hid a7
  clear a7 HA6
  go_wp2
  go_end0
  exact ⟨rfl, p6, b6, (n6 + 1), by omega, by omega, by omega, HA7.out⟩
 ·have HA1 := hid a1
  clear a1 HA0
  go_wp2_with fail
  refine (take_at HA1.out _).mono ?_
  rintro e w8 (⟨rfl, l8, a8⟩ | ⟨rfl, a8⟩)
  ·have HA8 := hid a8
   clear a8 HA1
   go_wp2_with fail
   refine (hE (p + 1) (by omega) _ _ _ _ _ HA8.out (by have := HA8.out.pT; omega)).mono ?_
   rintro e w9 ⟨rfl, p9, b9, n9, l9a, l9b, l9c, a9⟩
   have HA9 := hid a9
   clear a9 HA8
   go_wp2_with fail
   refine (need_at HA9.out _).mono ?_
   rintro e w10 ⟨rfl, p10, b10, l10a, l10b, a10⟩
   have HA10 := hid a10
   clear a10 HA9
   go_wp2_with fail
   refine (hE p10 (by omega) _ _ _ _ _ HA10.out (by have := HA10.out.pT; omega)).mono ?_
   rintro e w11 ⟨rfl, p11, b11, n11, l11a, l11b, l11c, a11⟩
   have HA11 := hid a11
   clear a11 HA10
   go_wp2_with fail
   refine (need_at HA11.out _).mono ?_
   rintro e w12 ⟨rfl, p12, b12, l12a, l12b, a12⟩
   have HA12 := hid a12
   clear a12 HA11
   go_wp2_with fail
   refine (hE p12 (by omega) _ _ _ _ _ HA12.out (by have := HA12.out.pT; omega)).mono ?_
   rintro e w13 ⟨rfl, p13, b13, n13, l13a, l13b, l13c, a13⟩
   have HA13 := hid a13
   clear a13 HA12
   go_wp2_with fail
   refine (put_at9 HA13.out ⟨13, 0, 0, ⟨#[]⟩, 3⟩ (by show (⟨#[]⟩ : ByteArray).size ≤ 1000; decide) (by have := HA13.out.pT; omega)).mono ?_
   rintro e w14 ⟨rfl, a14⟩
   have HA14 := hid a14
   clear a14 HA13
   go_wp2
   go_end0
   exact ⟨rfl, p13, b13, (n13 + 1), by omega, by omega, by omega, HA14.out⟩
  ·have HA8 := hid a8
   clear a8 HA1
   go_wp2_with fail
   refine (take_at HA8.out _).mono ?_
   rintro e w15 (⟨rfl, l15, a15⟩ | ⟨rfl, a15⟩)
   ·have HA15 := hid a15
    clear a15 HA8
    go_wp2_with fail
    refine (params_at (p := (p + 1)) (fun q hq => hE q (by omega)) HA15.out (by have := HA15.out.pT; omega)).mono ?_
    rintro e w16 ⟨m16, p16, b16, n16, rfl, l16m, l16a, l16b, l16c, a16⟩
    have HA16 := hid a16
    have z16 := a16.pT.1
    have hm16 : m16 ≤ 100001 := by omega
    clear a16 HA15
    go_wp2_with fail
    refine (need_at HA16.out _).mono ?_
    rintro e w17 ⟨rfl, p17, b17, l17a, l17b, a17⟩
    have HA17 := hid a17
    clear a17 HA16
    go_wp2_with fail
    refine (hE p17 (by omega) _ _ _ _ _ HA17.out (by have := HA17.out.pT; omega)).mono ?_
    rintro e w18 ⟨rfl, p18, b18, n18, l18a, l18b, l18c, a18⟩
    have HA18 := hid a18
    clear a18 HA17
    go_wp2_with fail
    refine (put_at9 HA18.out ⟨15, 0, 0, ⟨#[]⟩, (m16 : Int) + 1⟩ (by show (⟨#[]⟩ : ByteArray).size ≤ 1000; decide) (by have := HA18.out.pT; omega)).mono ?_
    rintro e w19 ⟨rfl, a19⟩
    have HA19 := hid a19
    clear a19 HA18
    go_wp2
    go_end0
    exact ⟨rfl, p18, b18, (n18 + 1), by omega, by omega, by omega, HA19.out⟩
   ·have HA15 := hid a15
    clear a15 HA8
    go_wp2_with fail
    refine (hO _ _ _ _ _ HA15.out (by have := HA15.out.pT; omega)).mono ?_
    rintro e w20 ⟨rfl, p20, b20, n20, l20a, l20b, l20c, a20⟩
    have HA20 := hid a20
    clear a20 HA15
    go_wp2
    go_end0
    exact ⟨rfl, p20, b20, n20, by omega, by omega, by omega, HA20.out⟩
end Go.Proofs.YtbakebdfmdepnaaGreatDoor
namespace Go.Proofs.YtbakebdfmdepnaaGreatDoor
open Go.RowKit Go.Maps Go.WideMaps
set_option maxRecDepth 20000
def BoundEnd (nd : Nat → Nd) (N : Nat) (w w' : World) (e : Ending) : Prop := Below w.heap.size w w' ∧
 ((¬ ValidT nd N ∧ e = .returned (.tuple #[.slice none 0 0, .agg #[.int .i64 11, .int .i64 0]])) ∨
  (∃ o x, ValidT nd N ∧ kidsF nd N = some (o, [x]) ∧ ((∃ k c r, fls (treeE nd o N) = (k, c) :: r ∧ e = .returned (.tuple #[.slice none 0 0, .agg #[.int .i64 (c : Nat), .int .i64 (k : Nat)]])) ∨
   (fls (treeE nd o N) = [] ∧ ∃ gb, e = .returned (.tuple #[.slice (some ⟨gb, 0, none⟩) N N, .agg #[.int .i64 0, .int .i64 0]]) ∧ w.heap.size ≤ gb ∧ BnAt w' gb N (apB (fun _ => -1) (treeE nd o N))))))
theorem kg_stb {W : World} {S : Nat → Prop} {gk N B : Nat} {o : List (List Nat)} (h : KG W gk N o) (hb : ∀ i, i < N → ∀ g n c, W.cell? ⟨gk, i, none⟩ = some (.slice (some ⟨g, 0, none⟩) n c) → B ≤ g) (hgk : B ≤ gk) (hS : ∀ k, S k → k < B ∨ W.heap.size ≤ k) : Stb S W fun W' => KG W' gk N o := by
 intro W' hW i hi
 obtain ⟨ad, c, h1, h2, h3, h4⟩ := h i hi
 have l1 := World.block_lt_of_cell? W _ h1
 refine ⟨ad, c, (hW.cell (p := ⟨gk, i, none⟩) l1 (fun hs => by rcases hS _ hs with h | h <;> simp only at h l1 <;> omega)).trans h1, h2, h3, h4.imp_right ?_⟩
 rintro ⟨g, rfl, hc⟩
 refine ⟨g, rfl, fun j hj => ?_⟩
 have l2 := World.block_lt_of_cell? W _ (hc j hj)
 have l3 := hb i hi g _ _ h1
 exact (hW.cell (p := ⟨g, j, none⟩) l2 (fun hs => by rcases hS _ hs with h | h <;> simp only at h l2 <;> omega)).trans (hc j hj)
def BoxR (nd : Nat → Nd) (o : List (List Nat)) (N b cap : Nat) (w1 : World) (v : Value) (wx : World) : Prop := ∃ bb gm gk, v = .pointer (some ⟨bb, 0, none⟩) ∧ w1.heap.size ≤ bb ∧ w1.heap.size ≤ gm ∧ bb ≠ gm ∧ gk ≠ bb ∧ gk ≠ gm ∧
 (Bx.mk bb gm b N cap gk nd o).At wx (fun _ => 0) 0 0 ∧ Stb (fun k => k = bb ∨ k = gm) wx (fun W => KG W gk N o) ∧ Below w1.heap.size w1 wx
theorem kg_lt {W : World} {gk N : Nat} {o : List (List Nat)} (h : KG W gk N o) (hN : 1 ≤ N) : gk < W.heap.size := by
 obtain ⟨ad, c, h1, _⟩ := h 0 (by omega)
 exact World.block_lt_of_cell? W _ h1
theorem box_end {nd : Nat → Nd} {o : List (List Nat)} {N b cap : Nat} {w1 W0 w2 wx : World} (bb gm gk : Nat) (hN : 1 ≤ N) (h0 : Below w1.heap.size w1 W0) (hgk : W0.heap.size ≤ gk) (hkg : KG w2 gk N o)
  (hkb : ∀ i, i < N → ∀ g n c, w2.cell? ⟨gk, i, none⟩ = some (.slice (some ⟨g, 0, none⟩) n c) → W0.heap.size ≤ g) (hb2 : Below W0.heap.size W0 w2)
  (hbb : w1.heap.size ≤ bb ∧ (bb < W0.heap.size ∨ w2.heap.size ≤ bb)) (hgm : w1.heap.size ≤ gm ∧ (gm < W0.heap.size ∨ w2.heap.size ≤ gm)) (hne : bb ≠ gm) (hsv : Sv (fun k => k = bb ∨ k = gm) w2 wx)
  (hbx : wx.heap[bb]? = some (.cells #[.slice (some ⟨b, 0, none⟩) N cap, .slice (some ⟨gk, 0, none⟩) N N, .slice (some ⟨gm, 0, none⟩) N N, .int .i64 0, .int .i64 0] 50 (0, 0))) (hgx : wx.heap[gm]? = some (.cells (madeCells #[.int .i64 0] N) 3 (0, 0))) :
  BoxR nd o N b cap w1 (.pointer (some ⟨bb, 0, none⟩)) wx := by
 have hl := kg_lt hkg hN
 have hz := h0.size
 have hz2 := hb2.size
 refine ⟨bb, gm, gk, rfl, hbb.1, hgm.1, hne, by rcases hbb.2 with h | h <;> omega, by rcases hgm.2 with h | h <;> omega, ⟨hbx, bn_made hgx⟩, ?_, ?_⟩
 ·refine Stb.go (kg_stb hkg hkb hgk ?_) hsv
  rintro k (rfl | rfl)
  ·exact hbb.2
  ·exact hgm.2
 ·refine (h0.trans (hb2.mono hz)).trans (hsv.below (Nat.le_trans hz hz2) ?_)
  rintro k (rfl | rfl)
  ·exact hbb.1
  ·exact hgm.1
structure Five0 (W : World) (bb : Nat) : Prop where
 c0 : W.cell? ⟨bb, 0, none⟩ = some (.slice none 0 0)
 c1 : W.cell? ⟨bb, 1, none⟩ = some (.slice none 0 0)
 c2 : W.cell? ⟨bb, 2, none⟩ = some (.slice none 0 0)
 c3 : W.cell? ⟨bb, 3, none⟩ = some (.int .i64 0)
 c4 : W.cell? ⟨bb, 4, none⟩ = some (.int .i64 0)
 f0 : W.frozen? ⟨bb, 0, none⟩ = false
 f1 : W.frozen? ⟨bb, 1, none⟩ = false
 f2 : W.frozen? ⟨bb, 2, none⟩ = false
 f3 : W.frozen? ⟨bb, 3, none⟩ = false
 f4 : W.frozen? ⟨bb, 4, none⟩ = false
theorem five0 {W : World} {bb : Nat} (h : W.heap[bb]? = some (.cells #[.slice none 0 0, .slice none 0 0, .slice none 0 0, .int .i64 0, .int .i64 0] 50 (0, 0))) : Five0 W bb := by
 have f : ∀ i, W.frozen? ⟨bb, i, none⟩ = false := fun i => by unfold World.frozen?; rw [h]; simp
 refine ⟨?_, ?_, ?_, ?_, ?_, f 0, f 1, f 2, f 3, f 4⟩ <;> (unfold World.cell?; rw [h]; rfl)
theorem pre_t {w1 w2 : World} {n b N cap : Nat} (t1 : w1.cell? ⟨n, 0, none⟩ = some (.slice (some ⟨b, 0, none⟩) N cap)) (hn : n + 2 ≤ w1.heap.size) (h : Below (w1.drew).heap.size (w1.drew) w2) : w2.cell? ⟨n, 0, none⟩ = some (.slice (some ⟨b, 0, none⟩) N cap) :=
 (h.cell (p := ⟨n, 0, none⟩) (by show n < w1.heap.size; omega)).trans t1
theorem pre_t1 {w1 w2 : World} {O : Obj} {n b N cap : Nat} (t1 : w1.cell? ⟨n, 0, none⟩ = some (.slice (some ⟨b, 0, none⟩) N cap)) (hn : n + 2 ≤ w1.heap.size) (h : Below ((w1.alloc O).drew).heap.size ((w1.alloc O).drew) w2) : w2.cell? ⟨n, 0, none⟩ = some (.slice (some ⟨b, 0, none⟩) N cap) :=
 (h.cell (p := ⟨n, 0, none⟩) (by show n < (w1.alloc O).heap.size; simp; omega)).trans ((cell_alloc_lt w1 O _ _ (by omega)).trans t1)
theorem pre_t2 {w1 w2 : World} {O O' : Obj} {n b N cap : Nat} (t1 : w1.cell? ⟨n, 0, none⟩ = some (.slice (some ⟨b, 0, none⟩) N cap)) (hn : n + 2 ≤ w1.heap.size) (h : Below (((w1.alloc O).alloc O').drew).heap.size (((w1.alloc O).alloc O').drew) w2) : w2.cell? ⟨n, 0, none⟩ = some (.slice (some ⟨b, 0, none⟩) N cap) :=
 (h.cell (p := ⟨n, 0, none⟩) (by show n < ((w1.alloc O).alloc O').heap.size; simp; omega)).trans ((cell_alloc_lt (w1.alloc O) O' _ _ (by simp; omega)).trans ((cell_alloc_lt w1 O _ _ (by omega)).trans t1))
theorem five_more {W : World} {bb : Nat} (h : Five0 W bb) (O : Obj) : Five0 (W.alloc O) bb := by
 have hl := World.block_lt_of_cell? W _ h.c0
 have f : ∀ i, (W.alloc O).frozen? ⟨bb, i, none⟩ = W.frozen? ⟨bb, i, none⟩ := fun i => by unfold World.frozen?; rw [Below.heap_alloc _ _ _ hl]
 have c : ∀ i, (W.alloc O).cell? ⟨bb, i, none⟩ = W.cell? ⟨bb, i, none⟩ := fun i => by unfold World.cell?; rw [Below.heap_alloc _ _ _ hl]
 exact ⟨(c _).trans h.c0, (c _).trans h.c1, (c _).trans h.c2, (c _).trans h.c3, (c _).trans h.c4, (f _).trans h.f0, (f _).trans h.f1, (f _).trans h.f2, (f _).trans h.f3, (f _).trans h.f4⟩
theorem pre_b {w1 w2 : World} (h : Below ((w1.alloc (.cells #[.slice none 0 0, .slice none 0 0, .slice none 0 0, .int .i64 0, .int .i64 0] 50)).drew).heap.size ((w1.alloc (.cells #[.slice none 0 0, .slice none 0 0, .slice none 0 0, .int .i64 0, .int .i64 0] 50)).drew) w2) : w1.heap.size < w2.heap.size ∧ Five0 w2 w1.heap.size :=
 ⟨by have := h.size; simp at this; omega, five0 ((h.block _ (by simp)).trans (heap_alloc_new w1 _))⟩
theorem pre_bm {w1 w2 : World} {N : Nat} (h : Below (((w1.alloc (.cells #[.slice none 0 0, .slice none 0 0, .slice none 0 0, .int .i64 0, .int .i64 0] 50)).alloc (.cells (madeCells #[.int .i64 0] N) 3)).drew).heap.size (((w1.alloc (.cells #[.slice none 0 0, .slice none 0 0, .slice none 0 0, .int .i64 0, .int .i64 0] 50)).alloc (.cells (madeCells #[.int .i64 0] N) 3)).drew) w2) : w1.heap.size < w2.heap.size ∧ Five0 w2 w1.heap.size :=
 ⟨by have := h.size; simp at this; omega, five0 ((h.block _ (by simp; omega)).trans ((Below.heap_alloc _ _ _ (by simp)).trans (heap_alloc_new w1 _)))⟩
theorem pre_mb {w1 w2 : World} {N : Nat} (h : Below (((w1.alloc (.cells (madeCells #[.int .i64 0] N) 3)).alloc (.cells #[.slice none 0 0, .slice none 0 0, .slice none 0 0, .int .i64 0, .int .i64 0] 50)).drew).heap.size (((w1.alloc (.cells (madeCells #[.int .i64 0] N) 3)).alloc (.cells #[.slice none 0 0, .slice none 0 0, .slice none 0 0, .int .i64 0, .int .i64 0] 50)).drew) w2) : w1.heap.size + 1 < w2.heap.size ∧ Five0 w2 (w1.heap.size + 1) :=
 ⟨by have := h.size; simp at this; omega, five0 ((h.block _ (by simp)).trans (by have := heap_alloc_new (w1.alloc (.cells (madeCells #[.int .i64 0] N) 3)) (.cells #[.slice none 0 0, .slice none 0 0, .slice none 0 0, .int .i64 0, .int .i64 0] 50); rwa [World.size_alloc] at this))⟩
theorem five_set {W : World} {bb : Nat} {x y z u v a b c d e : Value} {t : TypeId} (h : W.heap[bb]? = some (.cells #[x, y, z, u, v] t (0, 0))) : (((((W.setCell ⟨bb, 0, none⟩ a).setCell ⟨bb, 1, none⟩ b).setCell ⟨bb, 2, none⟩ c).setCell ⟨bb, 3, none⟩ d).setCell ⟨bb, 4, none⟩ e).heap[bb]? = some (.cells #[a, b, c, d, e] t (0, 0)) := by
 rw [set_atC e (set_atC d (set_atC c (set_atC b (set_atC a h))))]
 rfl
theorem set5_ne {W : World} {bb k : Nat} {a b c d e : Value} (h : k ≠ bb) : (((((W.setCell ⟨bb, 0, none⟩ a).setCell ⟨bb, 1, none⟩ b).setCell ⟨bb, 2, none⟩ c).setCell ⟨bb, 3, none⟩ d).setCell ⟨bb, 4, none⟩ e).heap[k]? = W.heap[k]? := by
 rw [Below.heap_setCell _ _ _ _ h, Below.heap_setCell _ _ _ _ h, Below.heap_setCell _ _ _ _ h, Below.heap_setCell _ _ _ _ h, Below.heap_setCell _ _ _ _ h]
theorem end1 {nd : Nat → Nd} {o : List (List Nat)} {N b cap gk : Nat} {w1 w2 : World} (hN : 1 ≤ N) (hb2 : Below (w1.drew).heap.size (w1.drew) w2) (hgk : (w1.drew).heap.size ≤ gk) (hkg : KG w2 gk N o) (hkb : ∀ i, i < N → ∀ g n c, w2.cell? ⟨gk, i, none⟩ = some (.slice (some ⟨g, 0, none⟩) n c) → (w1.drew).heap.size ≤ g) : BoxR nd o N b cap w1 (.pointer (some ⟨w2.heap.size + 1, 0, none⟩)) ((w2.alloc (.cells (madeCells #[.int .i64 0] N) 3)).alloc (.cells #[.slice (some ⟨b, 0, none⟩) N cap, .slice (some ⟨gk, 0, none⟩) N N, .slice (some ⟨w2.heap.size, 0, none⟩) N N, .int .i64 0, .int .i64 0] 50)) := by
 have hz : w1.heap.size ≤ w2.heap.size := hb2.size
 refine box_end (w2 := w2) (w2.heap.size + 1) w2.heap.size gk hN (Below.refl _ w1).drew hgk hkg hkb hb2 ⟨by omega, .inr (by omega)⟩ ⟨hz, .inr (Nat.le_refl _)⟩ (by omega) ?_ ?_ ?_
 ·exact ((Sv.refl _ w2).alloc _).alloc _
 ·have := heap_alloc_new (w2.alloc (.cells (madeCells #[.int .i64 0] N) 3)) (.cells #[.slice (some ⟨b, 0, none⟩) N cap, .slice (some ⟨gk, 0, none⟩) N N, .slice (some ⟨w2.heap.size, 0, none⟩) N N, .int .i64 0, .int .i64 0] 50)
  rwa [World.size_alloc] at this
 ·exact (Below.heap_alloc _ _ _ (by simp)).trans (heap_alloc_new w2 _)
theorem end2 {nd : Nat → Nd} {o : List (List Nat)} {N b cap gk : Nat} {w1 w2 : World} (hN : 1 ≤ N) (hb2 : Below (w1.drew).heap.size (w1.drew) w2) (hgk : (w1.drew).heap.size ≤ gk) (hkg : KG w2 gk N o) (hkb : ∀ i, i < N → ∀ g n c, w2.cell? ⟨gk, i, none⟩ = some (.slice (some ⟨g, 0, none⟩) n c) → (w1.drew).heap.size ≤ g) : BoxR nd o N b cap w1 (.pointer (some ⟨w2.heap.size, 0, none⟩)) ((w2.alloc (.cells #[.slice (some ⟨b, 0, none⟩) N cap, .slice (some ⟨gk, 0, none⟩) N N, .slice (some ⟨w2.heap.size + 1, 0, none⟩) N N, .int .i64 0, .int .i64 0] 50)).alloc (.cells (madeCells #[.int .i64 0] N) 3)) := by
 have hz : w1.heap.size ≤ w2.heap.size := hb2.size
 refine box_end (w2 := w2) w2.heap.size (w2.heap.size + 1) gk hN (Below.refl _ w1).drew hgk hkg hkb hb2 ⟨hz, .inr (Nat.le_refl _)⟩ ⟨by omega, .inr (by omega)⟩ (by omega) ?_ ?_ ?_
 ·exact ((Sv.refl _ w2).alloc _).alloc _
 ·exact (Below.heap_alloc _ _ _ (by simp)).trans (heap_alloc_new w2 _)
 ·have := heap_alloc_new (w2.alloc (.cells #[.slice (some ⟨b, 0, none⟩) N cap, .slice (some ⟨gk, 0, none⟩) N N, .slice (some ⟨w2.heap.size + 1, 0, none⟩) N N, .int .i64 0, .int .i64 0] 50)) (.cells (madeCells #[.int .i64 0] N) 3)
  rwa [World.size_alloc] at this
theorem end3 {nd : Nat → Nd} {o : List (List Nat)} {N b cap gk : Nat} {w1 w2 : World} (hN : 1 ≤ N) (hb2 : Below ((w1.alloc (.cells (madeCells #[.int .i64 0] N) 3)).drew).heap.size ((w1.alloc (.cells (madeCells #[.int .i64 0] N) 3)).drew) w2) (hgk : ((w1.alloc (.cells (madeCells #[.int .i64 0] N) 3)).drew).heap.size ≤ gk) (hkg : KG w2 gk N o) (hkb : ∀ i, i < N → ∀ g n c, w2.cell? ⟨gk, i, none⟩ = some (.slice (some ⟨g, 0, none⟩) n c) → ((w1.alloc (.cells (madeCells #[.int .i64 0] N) 3)).drew).heap.size ≤ g) : BoxR nd o N b cap w1 (.pointer (some ⟨w2.heap.size, 0, none⟩)) (w2.alloc (.cells #[.slice (some ⟨b, 0, none⟩) N cap, .slice (some ⟨gk, 0, none⟩) N N, .slice (some ⟨w1.heap.size, 0, none⟩) N N, .int .i64 0, .int .i64 0] 50)) := by
 have hz : w1.heap.size + 1 ≤ w2.heap.size := by have := hb2.size; simpa using this
 refine box_end (w2 := w2) w2.heap.size w1.heap.size gk hN ((Below.refl _ w1).alloc (Nat.le_refl _) _).drew hgk hkg hkb hb2 ⟨by omega, .inr (Nat.le_refl _)⟩ ⟨Nat.le_refl _, .inl (by simp)⟩ (by omega) ?_ ?_ ?_
 ·exact (Sv.refl _ w2).alloc _
 ·exact heap_alloc_new w2 _
 ·exact (Below.heap_alloc _ _ _ (by omega)).trans ((hb2.block _ (by simp)).trans (heap_alloc_new w1 _))
theorem end4 {nd : Nat → Nd} {o : List (List Nat)} {N b cap gk : Nat} {w1 w2 : World} (hN : 1 ≤ N) (hb2 : Below (((w1.alloc (.cells (madeCells #[.int .i64 0] N) 3)).alloc (.cells #[.slice none 0 0, .slice none 0 0, .slice none 0 0, .int .i64 0, .int .i64 0] 50)).drew).heap.size (((w1.alloc (.cells (madeCells #[.int .i64 0] N) 3)).alloc (.cells #[.slice none 0 0, .slice none 0 0, .slice none 0 0, .int .i64 0, .int .i64 0] 50)).drew) w2) (hgk : (((w1.alloc (.cells (madeCells #[.int .i64 0] N) 3)).alloc (.cells #[.slice none 0 0, .slice none 0 0, .slice none 0 0, .int .i64 0, .int .i64 0] 50)).drew).heap.size ≤ gk) (hkg : KG w2 gk N o) (hkb : ∀ i, i < N → ∀ g n c, w2.cell? ⟨gk, i, none⟩ = some (.slice (some ⟨g, 0, none⟩) n c) → (((w1.alloc (.cells (madeCells #[.int .i64 0] N) 3)).alloc (.cells #[.slice none 0 0, .slice none 0 0, .slice none 0 0, .int .i64 0, .int .i64 0] 50)).drew).heap.size ≤ g) : BoxR nd o N b cap w1 (.pointer (some ⟨w1.heap.size + 1, 0, none⟩)) ((((((w2.setCell ⟨w1.heap.size + 1, 0, none⟩ (.slice (some ⟨b, 0, none⟩) N cap)).setCell ⟨w1.heap.size + 1, 1, none⟩ (.slice (some ⟨gk, 0, none⟩) N N)).setCell ⟨w1.heap.size + 1, 2, none⟩ (.slice (some ⟨w1.heap.size, 0, none⟩) N N)).setCell ⟨w1.heap.size + 1, 3, none⟩ (.int .i64 0)).setCell ⟨w1.heap.size + 1, 4, none⟩ (.int .i64 0))) := by
 have hz : w1.heap.size + 1 + 1 ≤ w2.heap.size := by have := hb2.size; simpa using this
 refine box_end (w2 := w2) (w1.heap.size + 1) w1.heap.size gk hN (((Below.refl _ w1).alloc (Nat.le_refl _) _).alloc (by simp) _).drew hgk hkg hkb hb2 ⟨by omega, .inl (by simp)⟩ ⟨Nat.le_refl _, .inl (by simp; omega)⟩ (by omega) ?_ ?_ ?_
 ·exact ((((((Sv.refl _ w2).setCell (p := ⟨w1.heap.size + 1, 0, none⟩) (.inl (.inl rfl)) _).setCell (p := ⟨w1.heap.size + 1, 1, none⟩) (.inl (.inl rfl)) _).setCell (p := ⟨w1.heap.size + 1, 2, none⟩) (.inl (.inl rfl)) _).setCell (p := ⟨w1.heap.size + 1, 3, none⟩) (.inl (.inl rfl)) _).setCell (p := ⟨w1.heap.size + 1, 4, none⟩) (.inl (.inl rfl)) _)
 ·refine five_set ((hb2.block _ (by simp)).trans (?_ : _ = some (Obj.cells #[.slice none 0 0, .slice none 0 0, .slice none 0 0, .int .i64 0, .int .i64 0] 50)))
  have := heap_alloc_new (w1.alloc (.cells (madeCells #[.int .i64 0] N) 3)) (.cells #[.slice none 0 0, .slice none 0 0, .slice none 0 0, .int .i64 0, .int .i64 0] 50)
  rwa [World.size_alloc] at this
 ·exact (set5_ne (by omega)).trans ((hb2.block _ (by simp; omega)).trans ((Below.heap_alloc _ _ _ (by simp)).trans (heap_alloc_new w1 _)))
theorem end5 {nd : Nat → Nd} {o : List (List Nat)} {N b cap gk : Nat} {w1 w2 : World} (hN : 1 ≤ N) (hb2 : Below ((w1.alloc (.cells #[.slice none 0 0, .slice none 0 0, .slice none 0 0, .int .i64 0, .int .i64 0] 50)).drew).heap.size ((w1.alloc (.cells #[.slice none 0 0, .slice none 0 0, .slice none 0 0, .int .i64 0, .int .i64 0] 50)).drew) w2) (hgk : ((w1.alloc (.cells #[.slice none 0 0, .slice none 0 0, .slice none 0 0, .int .i64 0, .int .i64 0] 50)).drew).heap.size ≤ gk) (hkg : KG w2 gk N o) (hkb : ∀ i, i < N → ∀ g n c, w2.cell? ⟨gk, i, none⟩ = some (.slice (some ⟨g, 0, none⟩) n c) → ((w1.alloc (.cells #[.slice none 0 0, .slice none 0 0, .slice none 0 0, .int .i64 0, .int .i64 0] 50)).drew).heap.size ≤ g) : BoxR nd o N b cap w1 (.pointer (some ⟨w1.heap.size, 0, none⟩)) ((((((w2.setCell ⟨w1.heap.size, 0, none⟩ (.slice (some ⟨b, 0, none⟩) N cap)).setCell ⟨w1.heap.size, 1, none⟩ (.slice (some ⟨gk, 0, none⟩) N N)).setCell ⟨w1.heap.size, 2, none⟩ (.slice (some ⟨w2.heap.size, 0, none⟩) N N)).setCell ⟨w1.heap.size, 3, none⟩ (.int .i64 0)).setCell ⟨w1.heap.size, 4, none⟩ (.int .i64 0)).alloc (.cells (madeCells #[.int .i64 0] N) 3)) := by
 have hz : w1.heap.size + 1 ≤ w2.heap.size := by have := hb2.size; simpa using this
 refine box_end (w2 := w2) w1.heap.size w2.heap.size gk hN ((Below.refl _ w1).alloc (Nat.le_refl _) _).drew hgk hkg hkb hb2 ⟨Nat.le_refl _, .inl (by simp)⟩ ⟨by omega, .inr (Nat.le_refl _)⟩ (by omega) ?_ ?_ ?_
 ·exact Sv.alloc ((((((Sv.refl _ w2).setCell (p := ⟨w1.heap.size, 0, none⟩) (.inl (.inl rfl)) _).setCell (p := ⟨w1.heap.size, 1, none⟩) (.inl (.inl rfl)) _).setCell (p := ⟨w1.heap.size, 2, none⟩) (.inl (.inl rfl)) _).setCell (p := ⟨w1.heap.size, 3, none⟩) (.inl (.inl rfl)) _).setCell (p := ⟨w1.heap.size, 4, none⟩) (.inl (.inl rfl)) _) _
 ·exact (Below.heap_alloc _ _ _ (by simp; omega)).trans (five_set ((hb2.block _ (by simp)).trans (heap_alloc_new w1 _)))
 ·have := heap_alloc_new (((((w2.setCell ⟨w1.heap.size, 0, none⟩ (.slice (some ⟨b, 0, none⟩) N cap)).setCell ⟨w1.heap.size, 1, none⟩ (.slice (some ⟨gk, 0, none⟩) N N)).setCell ⟨w1.heap.size, 2, none⟩ (.slice (some ⟨w2.heap.size, 0, none⟩) N N)).setCell ⟨w1.heap.size, 3, none⟩ (.int .i64 0)).setCell ⟨w1.heap.size, 4, none⟩ (.int .i64 0)) (.cells (madeCells #[.int .i64 0] N) 3)
  simpa using this
theorem end6 {nd : Nat → Nd} {o : List (List Nat)} {N b cap gk : Nat} {w1 w2 : World} (hN : 1 ≤ N) (hb2 : Below (((w1.alloc (.cells #[.slice none 0 0, .slice none 0 0, .slice none 0 0, .int .i64 0, .int .i64 0] 50)).alloc (.cells (madeCells #[.int .i64 0] N) 3)).drew).heap.size (((w1.alloc (.cells #[.slice none 0 0, .slice none 0 0, .slice none 0 0, .int .i64 0, .int .i64 0] 50)).alloc (.cells (madeCells #[.int .i64 0] N) 3)).drew) w2) (hgk : (((w1.alloc (.cells #[.slice none 0 0, .slice none 0 0, .slice none 0 0, .int .i64 0, .int .i64 0] 50)).alloc (.cells (madeCells #[.int .i64 0] N) 3)).drew).heap.size ≤ gk) (hkg : KG w2 gk N o) (hkb : ∀ i, i < N → ∀ g n c, w2.cell? ⟨gk, i, none⟩ = some (.slice (some ⟨g, 0, none⟩) n c) → (((w1.alloc (.cells #[.slice none 0 0, .slice none 0 0, .slice none 0 0, .int .i64 0, .int .i64 0] 50)).alloc (.cells (madeCells #[.int .i64 0] N) 3)).drew).heap.size ≤ g) : BoxR nd o N b cap w1 (.pointer (some ⟨w1.heap.size, 0, none⟩)) ((((((w2.setCell ⟨w1.heap.size, 0, none⟩ (.slice (some ⟨b, 0, none⟩) N cap)).setCell ⟨w1.heap.size, 1, none⟩ (.slice (some ⟨gk, 0, none⟩) N N)).setCell ⟨w1.heap.size, 2, none⟩ (.slice (some ⟨w1.heap.size + 1, 0, none⟩) N N)).setCell ⟨w1.heap.size, 3, none⟩ (.int .i64 0)).setCell ⟨w1.heap.size, 4, none⟩ (.int .i64 0))) := by
 have hz : w1.heap.size + 1 + 1 ≤ w2.heap.size := by have := hb2.size; simpa using this
 refine box_end (w2 := w2) w1.heap.size (w1.heap.size + 1) gk hN (((Below.refl _ w1).alloc (Nat.le_refl _) _).alloc (by simp) _).drew hgk hkg hkb hb2 ⟨Nat.le_refl _, .inl (by simp; omega)⟩ ⟨by omega, .inl (by simp)⟩ (by omega) ?_ ?_ ?_
 ·exact ((((((Sv.refl _ w2).setCell (p := ⟨w1.heap.size, 0, none⟩) (.inl (.inl rfl)) _).setCell (p := ⟨w1.heap.size, 1, none⟩) (.inl (.inl rfl)) _).setCell (p := ⟨w1.heap.size, 2, none⟩) (.inl (.inl rfl)) _).setCell (p := ⟨w1.heap.size, 3, none⟩) (.inl (.inl rfl)) _).setCell (p := ⟨w1.heap.size, 4, none⟩) (.inl (.inl rfl)) _)
 ·exact five_set ((hb2.block _ (by simp; omega)).trans ((Below.heap_alloc _ _ _ (by simp)).trans (heap_alloc_new w1 _)))
 ·refine (set5_ne (by omega)).trans ((hb2.block _ (by simp)).trans ?_)
  have := heap_alloc_new (w1.alloc (.cells #[.slice none 0 0, .slice none 0 0, .slice none 0 0, .int .i64 0, .int .i64 0] 50)) (.cells (madeCells #[.int .i64 0] N) 3)
  rwa [World.size_alloc] at this
theorem cell_set_ne {W : World} {g i n : Nat} {v : Value} (h : n ≠ g) : (W.setCell ⟨g, i, none⟩ v).cell? ⟨n, 0, none⟩ = W.cell? ⟨n, 0, none⟩ := by
 unfold World.cell?
 rw [Below.heap_setCell _ _ _ _ h]
theorem box_ok {nd : Nat → Nd} {o : List (List Nat)} {N b cap gk bb gm xx : Nat} (hne : bb ≠ gm) (hN2 : N ≤ 5000) (hx : ∀ i, i < N → (nd i).text.size ≤ maxLen) (ho : kidsF nd N = some (o, [xx])) (hf : ∀ i, i < N → FitAt nd o i) (h1 : b ≠ bb) (h2 : b ≠ gm) (h3 : gk ≠ bb) (h4 : gk ≠ gm) : (Bx.mk bb gm b N cap gk nd o).Ok := by
 refine ⟨hne, hN2, hx, down_of ho, fun k hk => fits_kidded hf k hk, (kidsF_len nd _ _ _ ho).1, ?_, ?_, kids_len5 ho hN2, kids_placeN ho, hf⟩
 ·rintro (h | h)
  ·exact h1 h
  ·exact h2 h
 ·rintro (h | h)
  ·exact h3 h
  ·exact h4 h
theorem walk_top (x : Bx) (hx : x.Ok) (hN : 1 ≤ x.N) (h24 : (x.nd (x.N - 1)).kind = 24) (z : Int) (hz : z = ((x.N - 1 : Nat) : Int)) (a : Option Addr) (bn : Nat → Int) (w : World) (h : x.At w bn 0 0) (ht : Stb x.S w x.Tree) (hk : Kn x.S w (.pointer a) builtEnv) :
  Calls Tryz.prog 21 #[.pointer (some ⟨x.bb, 0, none⟩), .int .i64 z, .pointer a] w fun e w' => e = .returned (.tuple #[]) ∧ x.Ends w w' bn (0, 0) (treeE x.nd x.o x.N) := by
 subst hz
 exact walk_root x hx (x.N - 1) (by omega) h24 builtEnv a bn (0, 0) w h ht hk
theorem apB_at (es : List Ev) (f g : Nat → Int) (i : Nat) (h : f i = g i) : apB f es i = apB g es i := by
 induction es generalizing f g with
 | nil => exact h
 | cons e es ih =>
  cases e with
  | bind k v =>
   refine ih _ _ ?_
   by_cases e : i = k
   ·rw [if_pos e, if_pos e]
   ·rw [if_neg e, if_neg e]; exact h
  | flt k c => exact ih _ _ h
theorem ft_stay (c k : Int) (hc : c ≠ 0) (l : List (Nat × Nat)) : ft (c, k) l = (c, k) := by
 induction l with
 | nil => rfl
 | cons y l ih =>
  obtain ⟨q, d⟩ := y
  show ft (if c = 0 then _ else (c, k)) l = _
  rw [if_neg hc]
  exact ih
theorem ft_first (k c : Nat) (hc : c ≠ 0) (l : List (Nat × Nat)) : ft (0, 0) ((k, c) :: l) = ((c : Int), (k : Int)) := by
 show ft (if (0 : Int) = 0 then ((c : Int), (k : Int)) else (0, 0)) l = _
 rw [if_pos rfl]
 exact ft_stay _ _ (by omega) l
theorem at_set {x : Bx} {W : World} {j : Nat} (hne : x.bb ≠ x.gb) (h : x.At W (fun i => if i < j then -1 else 0) 0 0) (hj : j < x.N) : x.At (W.setCell ⟨x.gb, j, none⟩ (.int .i64 (-1))) (fun i => if i < j + 1 then -1 else 0) 0 0 := by
 refine ⟨(Below.heap_setCell _ _ _ _ hne).trans h.1, ?_⟩
 have := h.2.set j hj (-1)
 have e : (fun i => if i = j then (-1 : Int) else if i < j then -1 else 0) = fun i => if i < j + 1 then -1 else 0 := by
  funext i
  by_cases h1 : i = j
  ·rw [if_pos h1, if_pos (by omega)]
  ·rw [if_neg h1]
   by_cases h2 : i < j
   ·rw [if_pos h2, if_pos (by omega)]
   ·rw [if_neg h2, if_neg (by omega)]
 rw [e] at this
 exact this
end Go.Proofs.YtbakebdfmdepnaaGreatDoor
namespace Go.Proofs.YtbakebdfmdepnaaGreatDoor
theorem ext_some (L : List (ByteArray × Nat)) (kn : Env) (t : ByteArray) : (∃ p ∈ L, p.1 = t ∧ (L.foldl (fun kn p => kn.ext p.1 p.2) kn) t = (p.2 : Int)) ∨ ((∀ p ∈ L, ¬ (p.1 = t)) ∧ (L.foldl (fun kn p => kn.ext p.1 p.2) kn) t = kn t) := by
 induction L generalizing kn with
 | nil => exact .inr ⟨fun p hp => (by cases hp), rfl⟩
 | cons p L ih =>
  rw [List.foldl_cons]
  rcases ih (kn.ext p.1 p.2) with ⟨q, hq, e1, e2⟩ | ⟨h1, h2⟩
  ·exact .inl ⟨q, by simp [hq], e1, e2⟩
  ·rw [h2]
   unfold Env.ext
   by_cases h : t = p.1
   ·exact .inl ⟨p, by simp, h.symm, by rw [if_pos h]⟩
   ·refine .inr ⟨fun q hq => ?_, by rw [if_neg h]⟩
    rcases List.mem_cons.1 hq with e | e
    ·subst e; exact fun e => h e.symm
    ·exact h1 q e
theorem apB_flts (es : List Ev) (bn : Nat → Int) (h : ∀ e ∈ es, ∃ k c, e = .flt k c) : apB bn es = bn := by
 induction es with
 | nil => rfl
 | cons e es ih =>
  obtain ⟨k, c, rfl⟩ := h e (by simp)
  show apB bn es = bn
  exact ih fun e he => h e (by simp [he])
theorem mksE_flts (nd : Nat → Nd) (o : List (List Nat)) (s : Nat) (kn : Env) : ∀ e ∈ mksE nd o s kn, ∃ k c, e = .flt k c := by
 intro e he
 rw [mksE_flat] at he
 obtain ⟨m, _, hm⟩ := List.mem_flatMap.1 he
 unfold mkE at hm
 split at hm
 ·cases hm
 ·exact ⟨_, _, by simpa using hm⟩
theorem madeE_flts (nd : Nat → Nd) (ms : List Nat) (n : Nat) : ∀ e ∈ madeE nd ms n, ∃ k c, e = .flt k c := by
 intro e he
 unfold madeE at he
 obtain ⟨m, _, hm⟩ := List.mem_flatMap.1 he
 unfold flt8 at hm
 split at hm
 ·exact ⟨_, _, by simpa using hm⟩
 ·cases hm
theorem apB_flat (l : List Nat) (f g : Nat → List Ev) (hg : ∀ s ∈ l, ∀ e ∈ g s, ∃ k c, e = .flt k c) (bn : Nat → Int) : apB bn (l.flatMap fun s => f s ++ g s) = apB bn (l.flatMap f) := by
 induction l generalizing bn with
 | nil => rfl
 | cons s l ih =>
  rw [List.flatMap_cons, List.flatMap_cons, apB_append, apB_append, apB_append, apB_flts _ _ (hg s (by simp))]
  exact ih (fun s hs => hg s (by simp [hs])) _
theorem env_eq {nd : Nat → Nd} {N : Nat} {o : List (List Nat)} {S : List Nat} (_h : kidsF nd N = some (o, S)) (h0 : fls (treeE nd o N) = []) : fileEnv nd o (o.getD (N - 1) []) builtEnv = envL (knOf nd ((o.getD (N - 1) []).flatMap (makersOf nd o))) := by
 funext t
 unfold treeE at h0
 rw [fls_flatMap] at h0
 generalize o.getD (N - 1) [] = ks at *
 have hm : ∀ m ∈ ks.flatMap (makersOf nd o), fileEnv nd o ks builtEnv (nd m).text = (m : Int) := fun m hm => by
  obtain ⟨s, hs, hm⟩ := List.mem_flatMap.1 hm
  have h1 := List.flatMap_eq_nil_iff.1 h0 s hs
  rw [fls_append] at h1
  have h2 := (List.append_eq_nil_iff.1 h1).2
  rw [mksE_flat, fls_flatMap] at h2
  have h3 := List.flatMap_eq_nil_iff.1 h2 m hm
  unfold mkE at h3
  split at h3
  ·assumption
  ·simp [fls] at h3
 rcases ext_some (knOf nd (ks.flatMap (makersOf nd o))) builtEnv t with ⟨p, hp, e1, e2⟩ | ⟨h1, h2⟩
 ·unfold envL
  rw [e2]
  unfold knOf at hp
  obtain ⟨m, hmm, rfl⟩ := List.mem_map.1 hp
  simp only at e1
  rw [← e1]
  exact hm m hmm
 ·unfold envL
  rw [h2]
  unfold fileEnv
  rw [fileF_find]
  have : (ks.flatMap (makersOf nd o)).find? (fun m => decide ((nd m).text = t)) = none := by
   rw [List.find?_eq_none]
   intro m hmm
   have := h1 ((nd m).text, m) (by unfold knOf; exact List.mem_map.2 ⟨m, hmm, rfl⟩)
   simpa using this
  rw [this]
  rfl
theorem binds_same {nd : Nat → Nd} {N : Nat} {o : List (List Nat)} {S : List Nat} (h : kidsF nd N = some (o, S)) (hN : 1 ≤ N) (hfit : ∀ i, i < N → FitAt nd o i) (h24 : (nd (N - 1)).kind = 24) (h0 : fls (treeE nd o N) = []) (bn : Nat → Int) : apB bn (treeE nd o N) = apB bn (lookE nd o N) := by
 have he := env_eq h h0
 unfold treeE lookE
 rw [apB_append, apB_flts _ _ (madeE_flts _ _ _), apB_flat _ _ _ (fun s _ => mksE_flts nd o s _), wk_root h hN hfit h24, he]
end Go.Proofs.YtbakebdfmdepnaaGreatDoor
