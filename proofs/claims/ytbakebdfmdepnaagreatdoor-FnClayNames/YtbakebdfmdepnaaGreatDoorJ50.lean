import Derived.Deep.DeepCutAuto
import Derived.Test.YtbakebdfmdepnaaGreatDoorJ49
import Derived.Test.YtbakebdfmdepnaaGreatDoorJ46
import Derived.Test.YtbakebdfmdepnaaGreatDoorJ09
namespace Go.Proofs.YtbakebdfmdepnaaGreatDoor
open Go.RowKit
set_option maxRecDepth 20000
theorem has_nodes {K g n c : Nat} {w : World} (h : Has K w (.slice (some ⟨g, 0, none⟩) n c)) : ∃ nd : Nat → Nd, NodesAt w g n nd ∧ (∀ i, i < n → (nd i).text.size ≤ 1000) ∧ n ≤ K ∧ 1 ≤ n ∧ g < w.heap.size ∧ n ≤ c := by
 obtain ⟨l, h1, h2⟩ := h
 have h0 := h1.1
 obtain ⟨rfl, hc, hr⟩ := h1.row
 refine ⟨fun i => l.getD i ⟨0, 0, 0, ⟨#[]⟩, 0⟩, fun i hi => ?_, fun i hi => ?_, h2.1, List.length_pos_iff.2 h0, hr.lt, hc⟩
 ·obtain ⟨a0, a1, a2, a3, a4⟩ := hr.cell i hi
  have hd : l.getD i ⟨0, 0, 0, ⟨#[]⟩, 0⟩ = l[i] := by simp [List.getD, hi]
  dsimp only
  rw [hd]
  exact ⟨a0, a1, a2, a3, a4⟩
 ·have hm : l.getD i ⟨0, 0, 0, ⟨#[]⟩, 0⟩ ∈ l := by rw [List.getD_eq_getElem?_getD, List.getElem?_eq_getElem hi]; exact List.getElem_mem hi
  exact h2.2 _ hm
theorem ints_next {W V : World} {ad : Option Addr} {M : Nat} {bn : Nat → Int} (h : IntsA W ad M bn) (hb : Below W.heap.size W V) : IntsA V ad M bn := by
 rcases h with h | ⟨g, cur, rfl, h1, h2⟩
 ·exact .inl h
 ·exact .inr ⟨g, cur, rfl, hp_next h1 hb, h2⟩
theorem ints_at {W : World} {ad : Option Addr} {M i : Nat} {bn : Nat → Int} (h : IntsA W ad M bn) (hi : i < M) : ∃ g, ad = some ⟨g, 0, none⟩ ∧ ∀ V, Below W.heap.size W V → V.cell? ⟨g, i, none⟩ = some (.int .i64 (bn i)) := by
 rcases h with h | ⟨g, cur, rfl, h1, h2⟩
 ·omega
 ·exact ⟨g, rfl, fun V hb => (cell_hp (hp_next h1 hb) i).trans (h2 i hi)⟩
set_option maxHeartbeats 8000000 in
theorem law_names (ad : Option Addr) (n cap : Nat) (w : World) (hc : n ≤ cap) (hcm : cap ≤ 9223372036854775807) (h : n ≤ 1048576 → CodeA w ad n) (hnil : ad = none → n = 0 ∧ cap = 0) (hE : BEnv w) :
  Calls Tryz.prog 3 #[.slice ad n cap] w fun e w' => e = .returned (.bool true) ∧ Below w.heap.size w w' := by
 have hn9 : (n : Int) ≤ 9223372036854775807 := by omega
 by_cases hn : n ≤ 1048576
 ·have hni : ¬ (1048576 : Int) < (n : Int) := by omega
  have HC := hid (h hn)
  have HNIL := hid hnil
  have HE := hid hE
  clear h hnil hE
  go_enter Tryz.func3, Tryz.ntmps3
  go_wp2_with fail
  refine (drawCheck_any ad n cap _ hn hc hcm HC.out HNIL.out).mono ?_
  rintro e w1 ⟨v1, rfl, ht1, hb1⟩
  have HB1 := hid hb1
  have HE1 := hid (HE.out.below hb1 HE.out.pos)
  clear hb1 HC HNIL HE
  rcases ht1 with ⟨ad1, c1, rfl⟩ | hh1
  ·have HAL := hid ((Below.refl w1.heap.size w1).alloc (Nat.le_refl _) (.cells #[.slice ad1 0 c1] 25))
   have HX2 := hid (heap_alloc_new w1 (.cells #[.slice ad1 0 c1] 25))
   have HB2 := hid (HB1.out.trans (HAL.out.mono HB1.out.size))
   go_upto_region 4 with fail
   obtain ⟨xt, hxt⟩ : ∃ g, w1.heap.size = g := ⟨_, rfl⟩
   obtain ⟨W2, hW2⟩ : ∃ W, w1.alloc (.cells #[.slice ad1 0 c1] 25) = W := ⟨_, rfl⟩
   rw [hW2] at HAL HX2 HB2 ⊢
   rw [hxt] at HX2 ⊢
   clear hW2 hxt HAL HE1 HB1
   have t0 : ∀ G : Gr W2, G.W.cell? ⟨xt, 0, none⟩ = some (.slice ad1 0 c1) := fun G => cell_hp (hp_next HX2.out G.h) 0
   have hq := fun W => neqFlt9 11 0 W
   have hne : Nonempty (Gr W2) := ⟨⟨W2, Below.refl _ _⟩⟩
   refine wp_region_gr (by kernel_rfl) (by kernel_rfl) ?_
   repeat (go_big_quiet_step (first | (go_at_call 5; refine Calls.gr_of (v := .agg #[.int .i64 11, .int .i64 0]) fun _ => ?_; exact implCheck_0 ad1 c1 _) | (go_at_call 6; refine Calls.gr_of (v := .agg #[.int .i64 11, .int .i64 0]) fun _ => ?_; exact specCheck_0 ad1 c1 _)))
   refine wpQuiet_nil ?_
   intro _ hw'
   obtain ⟨pw, rfl⟩ := hw'
   have hB3 := pw.h
   obtain ⟨W3, hW3⟩ : ∃ W, pw.W = W := ⟨_, rfl⟩
   rw [hW3] at hB3 ⊢
   have HB3 := hid (HB2.out.trans (hB3.mono HB2.out.size))
   have HX3 := hid (hp_next HX2.out hB3)
   clear hW3 hB3 HB2 HX2 t0 hne hq
   have t3 := cell_hp HX3.out 0
   simp at t3
   go_wp2_with fail
   refine (implBinds_0 ad1 c1 W3).mono ?_
   rintro e w4 ⟨⟨adb, cb, rfl⟩, hb4⟩
   have HX4 := hid (hp_next HX3.out hb4)
   have HB4 := hid (HB3.out.trans (hb4.mono HB3.out.size))
   clear hb4 HX3 HB3 t3
   have t4 := cell_hp HX4.out 0
   simp at t4
   go_wp2_with fail
   refine (specBinds_0 ad1 c1 w4).mono ?_
   rintro e w5 ⟨⟨adw, cw, rfl⟩, hb5⟩
   have HX5 := hid (hp_next HX4.out hb5)
   have HB5 := hid (HB4.out.trans (hb5.mono HB4.out.size))
   clear hb5 HX4 HB4 t4
   go_wp2
   go_loopw [6] (fun c6 wr => c6 = .int .i64 0 ∧ Below w5.heap.size w5 wr) (fun _ _ => 0)
   case atStart => exact ⟨rfl, Below.refl _ _⟩
   case round =>
    obtain ⟨rfl, hbr⟩ := hrel
    have HBR := hid hbr
    have t5 := cell_hp (hp_next HX5.out hbr) 0
    simp at t5
    clear hbr
    go_wp2_with fail
    refine (wcFits_of (.slice ad1 0 c1) 11 0 _ (fun W _ => specCheck_0 ad1 c1 W) ⟨_, _, _, rfl⟩).mono ?_
    rintro e w7 ⟨rfl, hb7⟩
    have HB7 := hid (HB5.out.trans ((HBR.out.trans (hb7.mono HBR.out.size)).mono HB5.out.size))
    clear hb7
    rw [show ((11 : Int) == 0 && (0 : Int) == 0) = false from rfl]
    go_wp2
    go_ret
    exact ⟨rfl, HB7.out⟩
  ·obtain ⟨g, N, c1, rfl⟩ := hh1.sl
   obtain ⟨nd, hnd, htx, hNK, hN1, hgw, hNc⟩ := has_nodes hh1
   obtain ⟨c, a, hf⟩ := fault_ex nd N
   have HF := hid hf
   have HAL := hid ((Below.refl w1.heap.size w1).alloc (Nat.le_refl _) (.cells #[.slice (some ⟨g, 0, none⟩) N c1] 25))
   have HX2 := hid (heap_alloc_new w1 (.cells #[.slice (some ⟨g, 0, none⟩) N c1] 25))
   have HND2 := hid (hnd.below HAL.out hgw)
   have HTX : Hid (∀ i, i < N → (nd i).text.size ≤ maxLen) := fun i hi => by have := htx i hi; unfold maxLen; omega
   have HE2 := hid (HE1.out.below HAL.out HE1.out.pos)
   have HB2 := hid (HB1.out.trans (HAL.out.mono HB1.out.size))
   have hNM : N ≤ 1048576 := by omega
   clear hh1 hnd htx hf
   go_upto_region 4 with fail
   obtain ⟨xt, hxt⟩ : ∃ g, w1.heap.size = g := ⟨_, rfl⟩
   obtain ⟨W2, hW2⟩ : ∃ W, w1.alloc (.cells #[.slice (some ⟨g, 0, none⟩) N c1] 25) = W := ⟨_, rfl⟩
   have hg2 : g < W2.heap.size := by rw [← hW2]; simp; omega
   rw [hW2] at HAL HX2 HND2 HE2 HB2 ⊢
   rw [hxt] at HX2 ⊢
   clear hW2 hxt HAL HE1 HB1 hgw
   have hx2 := (Array.getElem?_eq_some_iff.1 HX2.out).1
   have HIC : Hid (∀ G : Gr W2, Calls Tryz.prog 5 #[.agg #[.slice (some ⟨g, 0, none⟩) N c1]] G.W fun e w' => e = .returned (.agg #[.int .i64 c, .int .i64 a]) ∧ Below G.W.heap.size G.W w') := fun G => by
    refine (implCheck_any g N c1 nd G.W hNM (Nat.lt_of_lt_of_le hg2 G.h.size) (HND2.out.below G.h hg2) HTX.out (HE2.out.below G.h HE2.out.pos)).mono ?_
    rintro e w' ⟨⟨c', a', rfl, hf'⟩, hb'⟩
    obtain ⟨rfl, rfl⟩ := hf'.unique HF.out
    exact ⟨rfl, hb'⟩
   have HSC : Hid (∀ G : Gr W2, Calls Tryz.prog 6 #[.agg #[.slice (some ⟨g, 0, none⟩) N c1]] G.W fun e w' => e = .returned (.agg #[.int .i64 c, .int .i64 a]) ∧ Below G.W.heap.size G.W w') := fun G => by
    refine (specCheck_any g N c1 nd G.W hNM (Nat.lt_of_lt_of_le hg2 G.h.size) (HND2.out.below G.h hg2) HTX.out).mono ?_
    rintro e w' ⟨⟨c', a', rfl, hf'⟩, hb'⟩
    obtain ⟨rfl, rfl⟩ := (faultI_of hf').unique HF.out
    exact ⟨rfl, hb'⟩
   have t0 : ∀ G : Gr W2, G.W.cell? ⟨xt, 0, none⟩ = some (.slice (some ⟨g, 0, none⟩) N c1) := fun G => cell_hp (hp_next HX2.out G.h) 0
   have hq := fun W => neqFlt9 c a W
   have hne : Nonempty (Gr W2) := ⟨⟨W2, Below.refl _ _⟩⟩
   refine wp_region_gr (by kernel_rfl) (by kernel_rfl) ?_
   repeat (go_big_quiet_step (first | (go_at_call 5; refine Calls.gr_of (v := .agg #[.int .i64 c, .int .i64 a]) fun _ => ?_; exact HIC.out _) | (go_at_call 6; refine Calls.gr_of (v := .agg #[.int .i64 c, .int .i64 a]) fun _ => ?_; exact HSC.out _)))
   refine wpQuiet_nil ?_
   intro _ hw'
   obtain ⟨pw, rfl⟩ := hw'
   have hB3 := pw.h
   have HSC3 : Hid (∀ W, Below pw.W.heap.size pw.W W → Calls Tryz.prog 6 #[.agg #[.slice (some ⟨g, 0, none⟩) N c1]] W fun e w' => e = .returned (.agg #[.int .i64 c, .int .i64 a]) ∧ Below W.heap.size W w') := fun W hW => HSC.out ⟨W, hB3.trans (hW.mono hB3.size)⟩
   obtain ⟨W3, hW3⟩ : ∃ W, pw.W = W := ⟨_, rfl⟩
   rw [hW3] at hB3 HSC3 ⊢
   have HB3 := hid (HB2.out.trans (hB3.mono HB2.out.size))
   have HX3 := hid (hp_next HX2.out hB3)
   have HND3 := hid (HND2.out.below hB3 hg2)
   have HE3 := hid (HE2.out.below hB3 HE2.out.pos)
   have hg3 : g < W3.heap.size := Nat.lt_of_lt_of_le hg2 hB3.size
   clear hW3 hB3 HB2 HX2 HND2 HE2 hg2 t0 hne HIC HSC hq hx2
   have t3 := cell_hp HX3.out 0
   simp at t3
   go_wp2_with fail
   refine (implBinds_any g N c1 nd W3 hNM hg3 HND3.out HTX.out HE3.out).mono ?_
   rintro e w4 ⟨⟨adb, M, bn, rfl, hi4, hbi4, hgi4, hM⟩, hb4⟩
   have HX4 := hid (hp_next HX3.out hb4)
   have HND4 := hid (HND3.out.below hb4 hg3)
   have HB4 := hid (HB3.out.trans (hb4.mono HB3.out.size))
   have HSC4 : Hid (∀ W, Below w4.heap.size w4 W → Calls Tryz.prog 6 #[.agg #[.slice (some ⟨g, 0, none⟩) N c1]] W fun e w' => e = .returned (.agg #[.int .i64 c, .int .i64 a]) ∧ Below W.heap.size W w') := fun W hW => HSC3.out W (hb4.trans (hW.mono hb4.size))
   have hg4 : g < w4.heap.size := Nat.lt_of_lt_of_le hg3 hb4.size
   have HI4 := hid hi4
   have HBI := hid hbi4
   clear hb4 hi4 hbi4 hgi4 HX3 HND3 HB3 HE3 HSC3 hg3 t3
   have t4 := cell_hp HX4.out 0
   simp at t4
   go_wp2_with fail
   refine (specBinds_any g N c1 nd w4 hNM hg4 HND4.out HTX.out).mono ?_
   rintro e w5 ⟨⟨adw, M5, cw, bn5, rfl, hi5, hbi5, _, _⟩, hb5⟩
   obtain ⟨rfl, hbn⟩ := HBI.out.unique hbi5
   have HX5 := hid (hp_next HX4.out hb5)
   have HND5 := hid (HND4.out.below hb5 hg4)
   have HB5 := hid (HB4.out.trans (hb5.mono HB4.out.size))
   have HSC5 : Hid (∀ W, Below w5.heap.size w5 W → Calls Tryz.prog 6 #[.agg #[.slice (some ⟨g, 0, none⟩) N c1]] W fun e w' => e = .returned (.agg #[.int .i64 c, .int .i64 a]) ∧ Below W.heap.size W w') := fun W hW => HSC4.out W (hb5.trans (hW.mono hb5.size))
   have hg5 : g < w5.heap.size := Nat.lt_of_lt_of_le hg4 hb5.size
   have HI5 := hid (ints_next HI4.out hb5)
   have HJ5 := hid hi5
   have HBN := hid hbn
   clear hb5 hi5 hbi5 hbn HX4 HND4 HB4 HSC4 hg4 t4 HI4
   have hMM : ((M : Int) != (M : Int)) = false := by simp
   go_wp2
   go_loopw [6] (fun c6 wr => ∃ j : Nat, c6 = .int .i64 j ∧ j ≤ M ∧ Below w5.heap.size w5 wr) (fun c6 _ => M - (intOf c6).toNat)
   case atStart => exact ⟨0, rfl, Nat.zero_le _, Below.refl _ _⟩
   case round =>
    obtain ⟨j, rfl, hj, hbr⟩ := hrel
    have HBR := hid hbr
    have t5 := cell_hp (hp_next HX5.out hbr) 0
    simp at t5
    clear hbr
    by_cases hlt : j < M
    ·obtain ⟨gi, rfl, hci⟩ := ints_at HI5.out hlt
     obtain ⟨gw, rfl, hcw⟩ := ints_at HJ5.out hlt
     have ci := hci _ HBR.out
     have cw := hcw _ HBR.out
     rw [← HBN.out (by omega)] at cw
     have hok := HBI.out.ok j hlt
     have hjN : j < N := by omega
     obtain ⟨a0, a1, a2, a3, a4⟩ := (HND5.out.below HBR.out hg5) j hjN
     clear hci hcw
     obtain ⟨v, hv⟩ : ∃ v, bn j = v := ⟨_, rfl⟩
     obtain ⟨kd, hkd⟩ : ∃ k, (nd j).kind = k := ⟨_, rfl⟩
     obtain ⟨tx, htx⟩ : ∃ t, (nd j).text = t := ⟨_, rfl⟩
     have HNJ : Hid (∀ i, i < N → wr.cell? ⟨g, i * 5 + 3, none⟩ = some (.string (nd i).text)) := fun i hi => ((HND5.out.below HBR.out hg5) i hi).2.2.2.1
     rw [hv] at ci cw hok
     rw [hkd] at a0
     rw [htx] at a3
     have HKD := hid hkd
     have HTXE := hid htx
     clear hv hkd htx
     have hji : (j : Int) < (M : Int) := by omega
     have hjNi : (j : Int) < (N : Int) := by omega
     rcases hok with rfl | ⟨hk5, rfl | ⟨j2, hj2, rfl, htx2⟩⟩
     ·have e1 : decide ((N : Int) ≤ -1) = false := by simp; omega
      by_cases h5 : kd = 5
      ·subst h5
       go_wp2_with fail
       go_quiet (fail)
       go_wp2_with fail
       go_quiet (fail)
       go_wp2
       go_roundw
       case rel => exact ⟨j + 1, by go_num, by omega, HBR.out.trans ((below_drewN (Below.refl _ _) _).mono HBR.out.size)⟩
       case measure => simp [intOf]; omega
      ·have e5 : (kd != 5) = true := by simpa using h5
       go_wp2_with fail
       go_quiet (fail)
       go_wp2_with fail
       go_quiet (fail)
       go_wp2
       go_roundw
       case rel => exact ⟨j + 1, by go_num, by omega, HBR.out.trans ((below_drewN (Below.refl _ _) _).mono HBR.out.size)⟩
       case measure => simp [intOf]; omega
     ·rw [HKD.out] at hk5
      subst hk5
      have e1 : decide ((N : Int) ≤ -2) = false := by simp; omega
      go_wp2_with fail
      go_quiet (fail)
      go_wp2_with fail
      go_quiet (fail)
      go_wp2
      go_roundw
      case rel => exact ⟨j + 1, by go_num, by omega, HBR.out.trans ((below_drewN (Below.refl _ _) _).mono HBR.out.size)⟩
      case measure => simp [intOf]; omega
     ·rw [HKD.out] at hk5
      subst hk5
      have b3 := HNJ.out j2 hj2
      rw [htx2, HTXE.out] at b3
      have e1 : decide ((N : Int) ≤ (j2 : Int)) = false := decide_eq_false (by omega)
      have e2 : decide ((j2 : Int) < -2) = false := decide_eq_false (by omega)
      have e3 : ((j2 : Int) != (j2 : Int)) = false := by simp
      have e4 : (tx.toList != tx.toList) = false := by simp
      have i1 : (0 : Int) ≤ (j2 : Int) := by omega
      have i2 : (j2 : Int) < (N : Int) := by omega
      clear htx2
      go_wp2_with fail
      go_quiet (fail)
      go_wp2_with fail
      go_quiet (fail)
      go_wp2
      go_roundw
      case rel => exact ⟨j + 1, by go_num, by omega, HBR.out.trans ((below_drewN (Below.refl _ _) _).mono HBR.out.size)⟩
      case measure => simp [intOf]; omega
    ·obtain rfl : j = M := by omega
     have hlf : ¬ (j : Int) < (j : Int) := by omega
     have hfit := HBI.out.fits
     go_wp2_with fail
     refine (wcFits_of (.slice (some ⟨g, 0, none⟩) N c1) c a _ (fun W hW => HSC5.out W (HBR.out.trans (hW.mono HBR.out.size))) ⟨_, _, _, rfl⟩).mono ?_
     rintro e w7 ⟨rfl, hb7⟩
     have HB7 := hid (HB5.out.trans ((HBR.out.trans (hb7.mono HBR.out.size)).mono HB5.out.size))
     by_cases hj0 : 0 < j
     ·have hz := (hfit.1 hj0).unique HF.out
      have hb : (c == 0 && a == 0) = true := by rw [← hz.1, ← hz.2]; rfl
      have hj0i : (0 : Int) < (j : Int) := by omega
      rw [hb]
      clear hb7 hfit hz hb
      go_wp2
      go_ret
      exact ⟨rfl, HB7.out⟩
     ·have hb : (c == 0 && a == 0) = false := by
       cases hcc : (c == 0 && a == 0) with
       | false => rfl
       | true =>
        simp at hcc
        have := HF.out
        rw [hcc.1, hcc.2] at this
        exact absurd (hfit.2 this) hj0
      have hj00 : j = 0 := by omega
      subst hj00
      rw [hb]
      clear hb7 hfit hb
      go_wp2
      go_ret
      exact ⟨rfl, HB7.out⟩
 ·have hni : (1048576 : Int) < (n : Int) := by omega
  clear h hnil hE
  go_enter Tryz.func3, Tryz.ntmps3
  go_wp2
  go_ret
  exact ⟨rfl, Below.refl _ _⟩
end Go.Proofs.YtbakebdfmdepnaaGreatDoor
