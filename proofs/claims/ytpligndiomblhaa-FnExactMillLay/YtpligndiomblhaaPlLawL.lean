import Derived.Test.YtpligndiomblhaaPlImpL
import Derived.Test.YtpligndiomblhaaPlEqF
import Derived.Test.YtpligndiomblhaaPlMarkP
import Derived.Test.YtpligndiomblhaaRkSzPl
import Derived.Test.YtpligndiomblhaaRkToPl
import Derived.Test.YtpligndiomblhaaRkEqPl
/-! The law of Lay. -/
namespace Go.Proofs.Ytpligndiomblhaa.P
open Go.RowKit
open Go.Proofs.Ytpligndiomblhaa.R (hid small Fl fl0 OkFlS SFlR SFlA row_cell hp_next lt_hp B1)
set_option maxRecDepth 20000
theorem layIs_len {l fs Z : List Fl} {c : Int} (h : LayIs l fs Z c) : Z.length ≤ 40 := by
  rcases h with ⟨_, _, rfl⟩ | ⟨_, _, _, rfl⟩ | ⟨_, h, _, rfl⟩
  · exact Nat.zero_le _
  · exact Nat.zero_le _
  · exact h
theorem sfl_rd {B : Nat} {W : World} {v : Value} {l : List Fl} (h : SFlR B W v l) (hl : l.length ≤ 1048576) : RdF W v l := RdF.own (sfl_own h hl)
set_option maxHeartbeats 8000000 in
theorem law_lay {l fs : List Fl} {w : World} {cv sv : Value} (hA : SFlA w cv l) (hO : OkFlS l) (hA1 : SFlA w sv fs) (hO1 : OkFlS fs) :
    Calls Try.prog 6 #[.agg #[cv], sv] w fun e w' => e = .returned (.bool true) ∧ Below w.heap.size w w' := by
  have HO := hid hO
  have HO1 := hid hO1
  have HX := hid (B1.start w (.cells #[cv] 24))
  have HA := hid (hA.next HX.out.lo)
  have HA1 := hid (hA1.next HX.out.lo)
  obtain ⟨ad, cp, rfl⟩ := hA.sl
  obtain ⟨ad1, cp1, rfl⟩ := hA1.sl
  clear hA hO hA1 hO1
  obtain ⟨W0, hW0⟩ : ∃ W, w.alloc (.cells #[.slice ad l.length cp] 24) = W := ⟨_, rfl⟩
  rw [hW0] at HX HA HA1
  have k0 : W0.cell? ⟨w.heap.size, 0, none⟩ = some (.slice ad l.length cp) := row_cell HX.out.e 0
  go_enter Try.func6, Try.ntmps6
  go_wp2_with fail
  clear hW0
  refine (R.szPl_any ⟨l⟩ 1048576 W0 (by omega) (by omega) HO.out HA.out).mono ?_
  rintro e w1 ⟨⟨r, rfl, _, hr1, h3⟩, hb1⟩
  have HX1 := hid (HX.out.next hb1)
  have HN1 := hid hb1
  have H3 := hid h3
  clear hb1 h3 k0
  by_cases hr : r < 0
  · go_wp2
    go_ret
    exact ⟨rfl, HX1.out.lo⟩
  · have HWT : Hid (R.wSFl l l.length ≤ 1048576) := by
      have h9 := H3.out (by omega)
      have h8 : R.wPl ⟨l⟩ ≤ 1048576 := by omega
      show _ ≤ _
      simpa [R.wPl] using h8
    have HLO := hid (R.loFlS_of HWT.out)
    have HLF := hid (lowF_of HWT.out)
    go_wp2_with fail
    refine (R.szSFl_any fs r _ (by omega) hr1 HO1.out (HA1.out.next HN1.out)).mono ?_
    rintro e w1b ⟨⟨r2, rfl, _, hr2, h4⟩, hb1b⟩
    have HX1b := hid (HX1.out.next hb1b)
    have HN1b := hid (HN1.out.trans (hb1b.mono HN1.out.size))
    have H4 := hid h4
    clear hb1b h4
    have k0 : w1b.cell? ⟨w.heap.size, 0, none⟩ = some (.slice ad l.length cp) := row_cell HX1b.out.e 0
    by_cases hr3 : r2 < 0
    · go_wp2
      go_ret
      exact ⟨rfl, HX1b.out.lo⟩
    · have HWS : Hid (R.wSFl fs fs.length ≤ 1048576) := by
        have h9 := H4.out (by omega)
        show _ ≤ _
        omega
      have HLS := hid (R.loFlS_of HWS.out)
      have HLW := hid (lowF_of HWS.out)
      have hl1 := HLF.out.1
      have hl2 := HLW.out.1
      clear HWS HWT H3 H4
      go_wp2_with fail
      refine (R.toPl_any ⟨l⟩ w1b HLO.out (HA.out.next HN1b.out)).mono ?_
      rintro e w2 ⟨u2, rfl, n2, hb2⟩
      have HX2 := hid (HX1b.out.next hb2)
      have HN2 := hid (HN1b.out.trans (hb2.mono HN1b.out.size))
      have HR2 := hid n2
      obtain ⟨g2, rfl⟩ := n2.sl
      clear hb2 n2 k0
      go_wp2_with fail
      refine (R.toSFl_any fs w2 HLS.out (HA1.out.next HN2.out)).mono ?_
      rintro e w2b ⟨u2b, rfl, n2b, hb2b⟩
      have HX2b := hid (HX2.out.next hb2b)
      have HN2b := hid (HN2.out.trans (hb2b.mono HN2.out.size))
      have HR2b := hid (And.intro (HR2.out.next hb2b) n2b)
      obtain ⟨g2b, rfl⟩ := n2b.sl
      clear hb2b n2b
      go_wp2_with fail
      refine (specLay_any l fs _ HO.out HLF.out HLW.out HR2b.out.1 HR2b.out.2).mono ?_
      rintro e w3 ⟨v3, Z, c, rfl, hi3, ho3, hb3⟩
      have hR : Z.length ≤ 40 := layIs_len hi3
      have HI := hid hi3
      have HX3 := hid (HX2b.out.next hb3)
      have HN3 := hid (HN2b.out.trans (hb3.mono HN2b.out.size))
      have HA6 := hid (B1.start w3 (.cells #[v3] 29))
      have HRD := hid ((RdF.own ho3).next HA6.out.lo)
      have HX6 := hid (HX3.out.next HA6.out.lo)
      have HN6 := hid (HN3.out.trans (HA6.out.lo.mono HN3.out.size))
      obtain ⟨a3, c3, rfl⟩ := own_form2 ho3
      clear hb3 hi3 ho3
      obtain ⟨V6, hV6⟩ : ∃ W, w3.alloc (.cells #[.slice a3 Z.length c3] 29) = W := ⟨_, rfl⟩
      rw [hV6] at HA6 HRD HX6 HN6
      have HS6 : Hid (∀ U, Below V6.heap.size V6 U → U.cell? ⟨w.heap.size, 0, none⟩ = some (.slice ad l.length cp) ∧ U.cell? ⟨w3.heap.size, 0, none⟩ = some (.slice a3 Z.length c3) ∧ SFlA U (.slice ad l.length cp) l ∧ SFlA U (.slice ad1 fs.length cp1) fs ∧ RdF U (.slice a3 Z.length c3) Z ∧ Below w.heap.size w U) := hid fun U hU => ⟨row_cell (HX6.out.next hU).e 0, row_cell (HA6.out.next hU).e 0, HA.out.next (HN6.out.trans (hU.mono HN6.out.size)), HA1.out.next (HN6.out.trans (hU.mono HN6.out.size)), HRD.out.next hU, (HX6.out.next hU).lo⟩
      clear HX1 HN1 HX1b HN1b HX2 HN2 HR2 HX2b HN2b HR2b HX3 HN3
      have k0 := (HS6.out V6 (Below.refl _ _)).1
      go_wp2_with fail
      clear hV6
      refine (R.toPl_any ⟨l⟩ V6 HLO.out (HS6.out V6 (Below.refl _ _)).2.2.1).mono ?_
      rintro e w4 ⟨u4, rfl, n4, hb4⟩
      have HA8 := hid (B1.start w4 (.cells #[u4] 29))
      have HB8 := hid (hb4.trans (HA8.out.lo.mono hb4.size))
      have HR4 := hid (n4.next HA8.out.lo)
      obtain ⟨g4, rfl⟩ := n4.sl
      clear hb4 n4 k0
      obtain ⟨V8, hV8⟩ : ∃ W, w4.alloc (.cells #[.slice (some ⟨g4, 0, none⟩) l.length l.length] 29) = W := ⟨_, rfl⟩
      rw [hV8] at HA8 HB8 HR4
      go_wp2_with fail
      clear hV8
      refine (R.toSFl_any fs V8 HLS.out (HS6.out V8 HB8.out).2.2.2.1).mono ?_
      rintro e w4b ⟨u4b, rfl, n4b, hb4b⟩
      have HB9 := hid (HB8.out.trans (hb4b.mono HB8.out.size))
      have HA9 := hid (HA8.out.next hb4b)
      have HR9 := hid (HR4.out.next hb4b)
      have HX9 := hid n4b
      obtain ⟨g4b, rfl⟩ := n4b.sl
      have HZ9 := hid hb4b.size
      have HOU4 := hid (sfl_own HR4.out hl1)
      have HOU9 := hid (sfl_own HX9.out hl2)
      clear hb4b n4b HR4 HA8
      have k0 : w4b.cell? ⟨w4.heap.size, 0, none⟩ = some (.slice (some ⟨g4, 0, none⟩) l.length l.length) := row_cell HA9.out.e 0
      go_wp2_with fail
      refine (implLay_any l fs w4b HLF.out HLW.out HR9.out HX9.out).mono ?_
      rintro e w5 ⟨v5, Z5, c5, rfl, hi5, ho5, hb5⟩
      obtain ⟨rfl, rfl⟩ := HI.out.uniq hi5
      have HA10 := hid (B1.start w5 (.cells #[v5] 29))
      have HO10 := hid (own_next ho5 HA10.out.lo)
      have HQ10 := hid (hb5.trans (HA10.out.lo.mono hb5.size))
      obtain ⟨a5, c8, rfl⟩ := own_form2 ho5
      have HZ5 := hid hb5.size
      clear hi5 ho5 hb5 k0
      obtain ⟨V10, hV10⟩ : ∃ W, w5.alloc (.cells #[.slice a5 Z.length c8] 29) = W := ⟨_, rfl⟩
      rw [hV10] at HA10 HO10 HQ10
      have HB10 := hid (HB9.out.trans (HQ10.out.mono HB9.out.size))
      have HS10 : Hid (∀ U, Below V10.heap.size V10 U → U.cell? ⟨w4.heap.size, 0, none⟩ = some (.slice (some ⟨g4, 0, none⟩) l.length l.length) ∧ U.heap[w5.heap.size]? = some (.cells #[.slice a5 Z.length c8] 29) ∧ OwnF w4b.heap.size U (.slice a5 Z.length c8) Z ∧ SFlR V6.heap.size U (.slice (some ⟨g4, 0, none⟩) l.length l.length) l ∧ SFlR V8.heap.size U (.slice (some ⟨g4b, 0, none⟩) fs.length fs.length) fs ∧ Below V6.heap.size V6 U) := hid fun U hU => by
        have hq := HQ10.out.trans (hU.mono HQ10.out.size)
        exact ⟨row_cell (HA9.out.next hq).e 0, (HA10.out.next hU).e, own_next HO10.out hU, HR9.out.next hq, HX9.out.next hq, HB10.out.trans (hU.mono HB10.out.size)⟩
      have h0 : (c != c) = false := by simp
      have q0 := row_cell (HS10.out V10 (Below.refl _ _)).2.1 0
      have q1 := (HS6.out V10 HB10.out).2.1
      go_wp2_with fail
      clear hV10
      refine (eqP_any Z V10 (by omega) (RdF.own HO10.out) (HS6.out V10 HB10.out).2.2.2.2.1).mono ?_
      rintro e w11 ⟨rfl, hb11⟩
      have HB11 := hid hb11
      clear hb11 q0 q1
      have HU11 : Hid (∀ W, Below w11.heap.size w11 W → Below V10.heap.size V10 W) := hid fun W h => HB11.out.trans (h.mono HB11.out.size)
      have HT6 : Hid (∀ W, Below w11.heap.size w11 W → W.cell? ⟨w.heap.size, 0, none⟩ = some (.slice ad l.length cp) ∧ W.cell? ⟨w4.heap.size, 0, none⟩ = some (.slice (some ⟨g4, 0, none⟩) l.length l.length)) := hid fun W h => by
        have h1 := HS10.out W (HU11.out W h)
        exact ⟨(HS6.out W h1.2.2.2.2.2).1, h1.1⟩
      have HT7 : Hid (∀ W, Below w11.heap.size w11 W → SFlA W (.slice ad l.length cp) l ∧ SFlA W (.slice ad1 fs.length cp1) fs ∧ SFlR 0 W (.slice (some ⟨g4, 0, none⟩) l.length l.length) l ∧ SFlR 0 W (.slice (some ⟨g4b, 0, none⟩) fs.length fs.length) fs) := hid fun W h => by
        have h1 := HS10.out W (HU11.out W h)
        have h2 := HS6.out W h1.2.2.2.2.2
        exact ⟨h2.2.2.1, h2.2.2.2.1, h1.2.2.2.1.mono (Nat.zero_le _), h1.2.2.2.2.1.mono (Nat.zero_le _)⟩
      go_wp2_with fail
      go_region_held3 (fun w' => w'.cell? ⟨w.heap.size, 0, none⟩ = some (.slice ad l.length cp) ∧ w'.cell? ⟨w4.heap.size, 0, none⟩ = some (.slice (some ⟨g4, 0, none⟩) l.length l.length)) (first | (exact HT6.out _ HC7.out) | (exact HT6.out _ HC6.out) | (exact HT6.out _ (Below.refl _ _).drew) | go_keep) (first
        | (go_at_call 9; refine (R.toPl_any ⟨l⟩ _ HLO.out (HT7.out _ (Below.refl _ _).drew).1).mono ?_; rintro e w12 ⟨u12, rfl, n12, hb12⟩; have HC6 := hid ((Below.refl w11.heap.size w11).drew.trans hb12); have NA6 := hid (n12.mono (B' := 0) (Nat.zero_le _)); obtain ⟨g12, rfl⟩ := n12.sl; clear n12 hb12)
        | (go_at_call 11; refine (R.eqPl_same ⟨l⟩ _ HLO.out (HT7.out _ HC6.out).2.2.1 NA6.out).mono ?_; rintro e w13 ⟨rfl, hb13⟩; have HC7 := hid (HC6.out.trans (hb13.mono HC6.out.size)); clear hb13) | fail)
      go_wp2_with fail
      refine (R.toSFl_any fs _ HLS.out (HT7.out _ HC7.out).2.1).mono ?_
      rintro e w14 ⟨u14, rfl, n14, hb14⟩
      have HC8 := hid (HC7.out.trans (hb14.mono HC7.out.size))
      have HR14 := hid (n14.mono (B' := 0) (Nat.zero_le _))
      obtain ⟨g14, rfl⟩ := n14.sl
      clear hb14 n14
      go_wp2_with fail
      refine (R.eqSFl_same fs _ HLS.out (HT7.out _ HC8.out).2.2.2 HR14.out).mono ?_
      rintro e w15 ⟨rfl, hb15⟩
      have HC9 := hid (HC8.out.trans (hb15.mono HC8.out.size))
      clear hb15
      have HF := hid (HS10.out w15 (HU11.out _ HC9.out))
      have k0 := HF.out.1
      obtain ⟨K1, hK1⟩ : ∃ K, 1 + 2 * l.length = K := ⟨_, rfl⟩
      have HM1 := hid (markP_own (sfl_own HF.out.2.2.2.1 hl1) hl1)
      rw [hK1] at HM1
      have hK1b : K1 ≤ 3000000 := by omega
      have hK1c : 0 < K1 := by omega
      clear hK1
      go_wp2_with fail
      refine HM1.out.mono ?_
      rintro e w16 ⟨rfl, hg16, _⟩
      have HB16 : Hid (Below V6.heap.size V6 w16) := hid (HF.out.2.2.2.2.2.trans (own_below (sfl_own HF.out.2.2.2.1 hl1) HF.out.2.2.2.2.2.size hg16))
      have HAB16 : Hid (AbB V8.heap.size w15 w16) := hid (abB_mark HOU4.out (Nat.le_refl _) hg16)
      have HG16 := hid hg16.size
      clear hg16 k0 HM1
      have HO16 : Hid (OwnF V8.heap.size w16 (.slice (some ⟨g4b, 0, none⟩) fs.length fs.length) fs) := hid (own_abB (sfl_own HF.out.2.2.2.2.1 hl2) HAB16.out (Nat.le_refl _))
      have HL15 : Hid (V8.heap.size ≤ w15.heap.size) := hid (Nat.le_trans HZ9.out (Nat.le_trans HQ10.out.size (HU11.out _ HC9.out).size))
      obtain ⟨K2, hK2⟩ : ∃ K, K1 + 2 * fs.length = K := ⟨_, rfl⟩
      have HM2 := hid (markF_own (K := K1) HO16.out hl2 (by omega) (by omega))
      rw [hK2] at HM2
      clear hK2
      go_wp2_with fail
      refine HM2.out.mono ?_
      rintro e w17 ⟨rfl, hg17, _⟩
      have HB17 : Hid (Below V6.heap.size V6 w17) := hid (HB16.out.trans ((own_below HO16.out (Nat.le_trans HL15.out HG16.out) hg17).mono HB8.out.size))
      have HAB17 : Hid (AbB w4b.heap.size w16 w17) := hid (abB_mark HOU9.out (Nat.le_refl _) hg17)
      clear hg17 HM2
      have HO17 : Hid (OwnF w4b.heap.size w17 (.slice a5 Z.length c8) Z) := hid (own_abB (own_abB HF.out.2.2.1 HAB16.out HZ9.out) HAB17.out (Nat.le_refl _))
      have HX17 : Hid (w17.heap[w5.heap.size]? = some (.cells #[.slice a5 Z.length c8] 29)) := hid (by
        have h1 := (HAB16.out _ (Nat.le_trans HZ9.out HZ5.out) (lt_hp HF.out.2.1)).trans HF.out.2.1
        exact (HAB17.out _ HZ5.out (lt_hp h1)).trans h1)
      have q0 := row_cell HX17.out 0
      have q1 := (HS6.out w17 HB17.out).2.1
      have hk2 : ¬ (K2 : Int) < 0 := by omega
      go_wp2_with fail
      refine (eqP_any Z w17 (by omega) (RdF.own HO17.out) (HS6.out w17 HB17.out).2.2.2.2.1).mono ?_
      rintro e w18 ⟨rfl, hb18⟩
      have HB18 := hid (HB17.out.trans (hb18.mono HB17.out.size))
      have HO18 := hid (own_next HO17.out hb18)
      have HX18 := hid (hp_next HX17.out hb18)
      have HL18 : Hid (w4b.heap.size ≤ w18.heap.size) := hid (Nat.le_trans HZ5.out (Nat.le_of_lt (lt_hp HX18.out)))
      clear hb18 q0 q1
      have q0 := row_cell HX18.out 0
      obtain ⟨K3, hK3⟩ : ∃ K, 1 + 2 * Z.length = K := ⟨_, rfl⟩
      have HM3 := hid (markP_own HO18.out (by omega))
      have HM4 : Hid (∀ W, MarkedV 1 W (.slice a5 Z.length c8) Z.length → Calls Try.prog 27 #[.agg #[.slice a5 Z.length c8], .int .i64 1] W fun e W' => e = .returned (.int .i64 (1 + 2 * Z.length : Nat)) ∧ Below W.heap.size W W') := hid fun W h => heldP_own h (by omega)
      rw [hK3] at HM3 HM4
      clear hK3
      have hk3 : ¬ (K3 : Int) < 0 := by omega
      have hk4 : ((K3 : Int) != (K3 : Int)) = false := by simp
      go_wp2_with fail
      refine HM3.out.mono ?_
      rintro e w19 ⟨rfl, hg19, hm19⟩
      have HB19 : Hid (Below V6.heap.size V6 w19) := hid (HB18.out.trans ((own_below HO18.out HL18.out hg19).mono HB9.out.size))
      have HX19 : Hid (w19.heap[w5.heap.size]? = some (.cells #[.slice a5 Z.length c8] 29)) := hid ((hg19.block _ (lt_hp HX18.out) (own_tyF HO18.out HX18.out)).trans HX18.out)
      have HM19 := hid hm19
      clear hg19 hm19 q0 HM3
      have q0 := row_cell HX19.out 0
      go_wp2_with fail
      refine (HM4.out w19 HM19.out).mono ?_
      rintro e w20 ⟨rfl, hb20⟩
      have HC20 := hid hb20
      have HB20 := hid (HB19.out.trans (hb20.mono HB19.out.size))
      clear hb20 q0
      have k0 := (HS6.out w20 HB20.out).1
      go_wp2_with fail
      refine (R.toPl_any ⟨l⟩ w20 HLO.out (HS6.out w20 HB20.out).2.2.1).mono ?_
      rintro e w21 ⟨u21, rfl, n21, hb21⟩
      have HC21 := hid (HC20.out.trans (hb21.mono HC20.out.size))
      have HR21 := hid n21
      obtain ⟨g21, rfl⟩ := n21.sl
      clear hb21 n21 k0
      go_wp2_with fail
      refine (R.toSFl_any fs w21 HLS.out (HS6.out w21 (HB19.out.trans (HC21.out.mono HB19.out.size))).2.2.2.1).mono ?_
      rintro e w22 ⟨u22, rfl, n22, hb22⟩
      have HC22 := hid (HC21.out.trans (hb22.mono HC21.out.size))
      have HR22 := hid (And.intro (HR21.out.next hb22) n22)
      obtain ⟨g22, rfl⟩ := n22.sl
      clear hb22 n22
      go_wp2_with fail
      refine (implLay_any l fs w22 HLF.out HLW.out HR22.out.1 HR22.out.2).mono ?_
      rintro e w23 ⟨v23, Z23, c23, rfl, hi23, ho23, hb23⟩
      obtain ⟨rfl, rfl⟩ := HI.out.uniq hi23
      have HA15 := hid (B1.start w23 (.cells #[v23] 29))
      have HC23 := hid (HC22.out.trans (hb23.mono HC22.out.size))
      have HC15 := hid (HC23.out.trans (HA15.out.lo.mono HC23.out.size))
      have HRD15 := hid ((RdF.own ho23).next HA15.out.lo)
      obtain ⟨a23, c24, rfl⟩ := own_form2 ho23
      clear hi23 ho23 hb23
      obtain ⟨V15, hV15⟩ : ∃ W, w23.alloc (.cells #[.slice a23 Z.length c24] 29) = W := ⟨_, rfl⟩
      rw [hV15] at HA15 HC15 HRD15
      have HB15 := hid (HB19.out.trans (HC15.out.mono HB19.out.size))
      have q0 := row_cell HA15.out.e 0
      have q1 := (HS6.out V15 HB15.out).2.1
      go_wp2_with fail
      clear hV15
      refine (eqP_any Z V15 (by omega) HRD15.out (HS6.out V15 HB15.out).2.2.2.2.1).mono ?_
      rintro e w24 ⟨rfl, hb24⟩
      have HC24 := hid (HC15.out.trans (hb24.mono HC15.out.size))
      clear hb24 q0 q1
      have q0 := row_cell (hp_next HX19.out HC24.out) 0
      go_wp2_with fail
      refine (HM4.out w24 (HM19.out.next HC24.out)).mono ?_
      rintro e w25 ⟨rfl, hb25⟩
      have HC25 := hid (HC24.out.trans (hb25.mono HC24.out.size))
      have HEND := hid (HS6.out w25 (HB19.out.trans (HC25.out.mono HB19.out.size))).2.2.2.2.2
      clear hb25 q0
      go_wp2
      go_ret
      exact ⟨rfl, HEND.out⟩
end Go.Proofs.Ytpligndiomblhaa.P
