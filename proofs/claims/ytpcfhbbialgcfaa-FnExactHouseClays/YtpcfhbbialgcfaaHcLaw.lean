import Derived.Test.YtpcfhbbialgcfaaHnWorld
import Derived.Test.YtpcfhbbialgcfaaPlMarkP
import Derived.Test.YtpcfhbbialgcfaaRkSzPl
import Derived.Test.YtpcfhbbialgcfaaRkToPl
import Derived.Test.YtpcfhbbialgcfaaRkEqPl
/-! The law of packages. -/
namespace Go.Proofs.Ytpcfhbbialgcfaa.P
open Go.RowKit
open Go.Proofs.Ytpcfhbbialgcfaa.R (hid small Fl fl0 OkFlS SFlR SFlA row_cell hp_next lt_hp B1)
set_option maxRecDepth 20000
set_option maxHeartbeats 8000000 in
theorem law_clays {l : List Fl} {w : World} {cv : Value} (hA : SFlA w cv l) (hO : OkFlS l) :
    Calls Try.prog 3 #[.agg #[cv]] w fun e w' => e = .returned (.bool true) ∧ Below w.heap.size w w' := by
  have HO := hid hO
  have HX := hid (B1.start w (.cells #[cv] 24))
  have HA := hid (hA.next HX.out.lo)
  obtain ⟨ad, cp, rfl⟩ := hA.sl
  clear hA hO
  obtain ⟨W0, hW0⟩ : ∃ W, w.alloc (.cells #[.slice ad l.length cp] 24) = W := ⟨_, rfl⟩
  rw [hW0] at HX HA
  have k0 : W0.cell? ⟨w.heap.size, 0, none⟩ = some (.slice ad l.length cp) := row_cell HX.out.e 0
  go_enter Try.func3, Try.ntmps3
  go_wp2_with fail
  clear hW0
  refine (R.szPl_any ⟨l⟩ 1048576 W0 (by omega) (by omega) HO.out HA.out).mono ?_
  rintro e w1 ⟨⟨r, rfl, _, hr1, h3⟩, hb1⟩
  have HX1 := hid (HX.out.next hb1)
  have HN1 := hid hb1
  have H3 := hid h3
  clear hb1 h3 k0
  have k0 : w1.cell? ⟨w.heap.size, 0, none⟩ = some (.slice ad l.length cp) := row_cell HX1.out.e 0
  by_cases hr : r < 0
  · go_wp2
    go_ret
    exact ⟨rfl, HX1.out.lo⟩
  · have HWT : Hid (R.wSFl l l.length ≤ 1048576) := by
      have h9 := H3.out (by omega)
      have h8 : R.wPl ⟨l⟩ ≤ 1048576 := by omega
      show _ ≤ _
      simpa [R.wPl] using h8
    have HLO := hid (R.loFlS_of HWT.out)
    have HLF := hid (lowF_of HWT.out)
    have hl1 := HLF.out.1
    clear H3
    go_wp2_with fail
    refine (R.toPl_any ⟨l⟩ w1 HLO.out (HA.out.next HN1.out)).mono ?_
    rintro e w2 ⟨u2, rfl, n2, hb2⟩
    have HX2 := hid (HX1.out.next hb2)
    have HN2 := hid (HN1.out.trans (hb2.mono HN1.out.size))
    have HR2 := hid n2
    obtain ⟨g2, rfl⟩ := n2.sl
    clear hb2 n2 k0
    go_wp2_with fail
    refine (specClays_any l _ HO.out HLF.out HR2.out).mono ?_
    rintro e w3 ⟨a3, b3, Z, ns, rfl, hi3, hf3, hn3, hb3⟩
    have hZ := hi3.len.1
    have hN := hi3.len.2
    have HI := hid hi3
    have HX3 := hid (HX2.out.next hb3)
    have HN3 := hid (HN2.out.trans (hb3.mono HN2.out.size))
    have HA6 := hid (B1.start w3 (.cells #[a3, b3] 29))
    have HRD := hid (And.intro ((G.RdF.own hf3).next HA6.out.lo) ((RdN.own hn3).next HA6.out.lo))
    have HX6 := hid (HX3.out.next HA6.out.lo)
    have HN6 := hid (HN3.out.trans (HA6.out.lo.mono HN3.out.size))
    obtain ⟨fa3, fc3, rfl⟩ := own_formK hf3
    obtain ⟨na3, nc3, rfl⟩ := own_formK hn3
    clear hb3 hi3 hf3 hn3
    obtain ⟨V6, hV6⟩ : ∃ W, w3.alloc (.cells #[.slice fa3 Z.length fc3, .slice na3 ns.length nc3] 29) = W := ⟨_, rfl⟩
    rw [hV6] at HA6 HRD HX6 HN6
    have HS6 : Hid (∀ U, Below V6.heap.size V6 U → U.cell? ⟨w.heap.size, 0, none⟩ = some (.slice ad l.length cp) ∧ U.cell? ⟨w3.heap.size, 0, none⟩ = some (.slice fa3 Z.length fc3) ∧ U.cell? ⟨w3.heap.size, 1, none⟩ = some (.slice na3 ns.length nc3) ∧ SFlA U (.slice ad l.length cp) l ∧ G.RdF U (.slice fa3 Z.length fc3) Z ∧ RdN U (.slice na3 ns.length nc3) ns ∧ Below w.heap.size w U) := hid fun U hU => ⟨row_cell (HX6.out.next hU).e 0, row_cell (HA6.out.next hU).e 0, row_cell (HA6.out.next hU).e 1, HA.out.next (HN6.out.trans (hU.mono HN6.out.size)), HRD.out.1.next hU, HRD.out.2.next hU, (HX6.out.next hU).lo⟩
    clear HX1 HN1 HX2 HN2 HR2 HX3 HN3 HA6 HRD HX6 HN6
    have k0 := (HS6.out V6 (Below.refl _ _)).1
    go_wp2_with fail
    clear hV6
    refine (R.toPl_any ⟨l⟩ V6 HLO.out (HS6.out V6 (Below.refl _ _)).2.2.2.1).mono ?_
    rintro e w4 ⟨u4, rfl, n4, hb4⟩
    have HA8 := hid (B1.start w4 (.cells #[u4] 33))
    have HB8 := hid (hb4.trans (HA8.out.lo.mono hb4.size))
    have HR8 := hid (n4.next HA8.out.lo)
    obtain ⟨g4, rfl⟩ := n4.sl
    clear hb4 n4 k0
    obtain ⟨V8, hV8⟩ : ∃ W, w4.alloc (.cells #[.slice (some ⟨g4, 0, none⟩) l.length l.length] 33) = W := ⟨_, rfl⟩
    rw [hV8] at HA8 HB8 HR8
    have k0 : V8.cell? ⟨w4.heap.size, 0, none⟩ = some (.slice (some ⟨g4, 0, none⟩) l.length l.length) := row_cell HA8.out.e 0
    go_wp2_with fail
    clear hV8
    refine (implClays_any l V8 HLF.out HR8.out).mono ?_
    rintro e w5 ⟨a5, b5, Z5, ns5, rfl, hi5, hf5, hn5, hb5⟩
    obtain ⟨rfl, rfl⟩ := HI.out.uniq hi5
    have HA10 := hid (B1.start w5 (.cells #[a5, b5] 29))
    have HO10 := hid (And.intro (own_next hf5 HA10.out.lo) (own_next hn5 HA10.out.lo))
    have HQ10 := hid (hb5.trans (HA10.out.lo.mono hb5.size))
    obtain ⟨fa5, fc5, rfl⟩ := own_formK hf5
    obtain ⟨na5, nc5, rfl⟩ := own_formK hn5
    clear hi5 hf5 hn5 hb5 k0
    obtain ⟨V10, hV10⟩ : ∃ W, w5.alloc (.cells #[.slice fa5 Z.length fc5, .slice na5 ns.length nc5] 29) = W := ⟨_, rfl⟩
    rw [hV10] at HA10 HO10 HQ10
    have HB10 := hid (HB8.out.trans (HQ10.out.mono HB8.out.size))
    have HS10 : Hid (∀ U, Below V10.heap.size V10 U → U.cell? ⟨w4.heap.size, 0, none⟩ = some (.slice (some ⟨g4, 0, none⟩) l.length l.length) ∧ U.heap[w5.heap.size]? = some (.cells #[.slice fa5 Z.length fc5, .slice na5 ns.length nc5] 29) ∧ G.OwnF V8.heap.size U (.slice fa5 Z.length fc5) Z ∧ OwnN V8.heap.size U (.slice na5 ns.length nc5) ns ∧ SFlR V6.heap.size U (.slice (some ⟨g4, 0, none⟩) l.length l.length) l ∧ Below V6.heap.size V6 U) := hid fun U hU => by
      have hq := HQ10.out.trans (hU.mono HQ10.out.size)
      exact ⟨row_cell (HA8.out.next hq).e 0, (HA10.out.next hU).e, own_next HO10.out.1 hU, own_next HO10.out.2 hU, HR8.out.next hq, HB10.out.trans (hU.mono HB10.out.size)⟩
    have HZ8 : Hid (V8.heap.size ≤ V10.heap.size) := hid HQ10.out.size
    have p0 := row_cell (HS10.out V10 (Below.refl _ _)).2.1 0
    have p1 := row_cell (HS10.out V10 (Below.refl _ _)).2.1 1
    have q0 := (HS6.out V10 HB10.out).2.1
    have q1 := (HS6.out V10 HB10.out).2.2.1
    go_wp2_with fail
    clear hV10
    refine (eqW_any Z ns V10 (by omega) (by omega) (G.RdF.own (HS10.out V10 (Below.refl _ _)).2.2.1) (RdN.own (HS10.out V10 (Below.refl _ _)).2.2.2.1) (HS6.out V10 HB10.out).2.2.2.2.1 (HS6.out V10 HB10.out).2.2.2.2.2.1).mono ?_
    rintro e w11 ⟨rfl, hb11⟩
    have HB11 := hid hb11
    clear hb11 p0 p1 q0 q1
    have HU11 : Hid (∀ W, Below w11.heap.size w11 W → Below V10.heap.size V10 W) := hid fun W h => HB11.out.trans (h.mono HB11.out.size)
    have HT6 : Hid (∀ W, Below w11.heap.size w11 W → W.cell? ⟨w.heap.size, 0, none⟩ = some (.slice ad l.length cp) ∧ W.cell? ⟨w4.heap.size, 0, none⟩ = some (.slice (some ⟨g4, 0, none⟩) l.length l.length)) := hid fun W h => by
      have h1 := HS10.out W (HU11.out W h)
      exact ⟨(HS6.out W h1.2.2.2.2.2).1, h1.1⟩
    have HT7 : Hid (∀ W, Below w11.heap.size w11 W → SFlA W (.slice ad l.length cp) l ∧ SFlR 0 W (.slice (some ⟨g4, 0, none⟩) l.length l.length) l) := hid fun W h => by
      have h1 := HS10.out W (HU11.out W h)
      exact ⟨(HS6.out W h1.2.2.2.2.2).2.2.2.1, h1.2.2.2.2.1.mono (Nat.zero_le _)⟩
    go_wp2_with fail
    go_region_held3 (fun w' => w'.cell? ⟨w.heap.size, 0, none⟩ = some (.slice ad l.length cp) ∧ w'.cell? ⟨w4.heap.size, 0, none⟩ = some (.slice (some ⟨g4, 0, none⟩) l.length l.length)) (first | (exact HT6.out _ HC7.out) | (exact HT6.out _ HC6.out) | (exact HT6.out _ (Below.refl _ _).drew) | go_keep) (first
      | (go_at_call 6; refine (R.toPl_any ⟨l⟩ _ HLO.out (HT7.out _ (Below.refl _ _).drew).1).mono ?_; rintro e w12 ⟨u12, rfl, n12, hb12⟩; have HC6 := hid ((Below.refl w11.heap.size w11).drew.trans hb12); have NA6 := hid (n12.mono (B' := 0) (Nat.zero_le _)); obtain ⟨g12, rfl⟩ := n12.sl; clear n12 hb12)
      | (go_at_call 9; refine (R.eqPl_same ⟨l⟩ _ HLO.out (HT7.out _ HC6.out).2 NA6.out).mono ?_; rintro e w13 ⟨rfl, hb13⟩; have HC7 := hid (HC6.out.trans (hb13.mono HC6.out.size)); clear hb13) | fail)
    have HF := hid (HS10.out w13 (HU11.out _ HC7.out))
    have HZ13 : Hid (V8.heap.size ≤ w13.heap.size) := hid (Nat.le_trans HZ8.out (HU11.out _ HC7.out).size)
    clear HT6 HT7 HC6 HC7 NA6 HB11 HU11
    have k0 := HF.out.1
    obtain ⟨K1, hK1⟩ : ∃ K, 1 + 2 * l.length = K := ⟨_, rfl⟩
    have HM1 := hid (markP_own (sfl_own HF.out.2.2.2.2.1 hl1) hl1)
    rw [hK1] at HM1
    clear hK1
    have hk1 : ¬ (K1 : Int) < 0 := by omega
    have hk1d : decide ((K1 : Int) < 0) = false := by simp
    go_wp2_with fail
    refine HM1.out.mono ?_
    rintro e w16 ⟨rfl, hg16, _⟩
    have HB16 : Hid (Below V6.heap.size V6 w16) := hid (HF.out.2.2.2.2.2.trans (own_below (sfl_own HF.out.2.2.2.2.1 hl1) HF.out.2.2.2.2.2.size hg16))
    have HX16 : Hid (w16.heap[w5.heap.size]? = some (.cells #[.slice fa5 Z.length fc5, .slice na5 ns.length nc5] 29)) := hid (grown_ty (sfl_own HF.out.2.2.2.2.1 hl1) hg16 HF.out.2.1 (fun cs e => by injection e with _ e; cases e))
    have HF16 : Hid (G.OwnF V8.heap.size w16 (.slice fa5 Z.length fc5) Z) := hid (own_grownK HF.out.2.2.1 (sfl_own HF.out.2.2.2.2.1 hl1) hg16 (by decide))
    have HN16 : Hid (OwnN V8.heap.size w16 (.slice na5 ns.length nc5) ns) := hid (own_grownK HF.out.2.2.2.1 (sfl_own HF.out.2.2.2.2.1 hl1) hg16 (by decide))
    have HZ16 : Hid (V8.heap.size ≤ w16.heap.size) := hid (Nat.le_trans HZ13.out hg16.size)
    clear hg16 k0 HM1 HF
    have p0 := row_cell HX16.out 0
    have p1 := row_cell HX16.out 1
    have q0 := (HS6.out w16 HB16.out).2.1
    have q1 := (HS6.out w16 HB16.out).2.2.1
    go_wp2_with fail
    refine (eqW_any Z ns w16 (by omega) (by omega) (G.RdF.own HF16.out) (RdN.own HN16.out) (HS6.out w16 HB16.out).2.2.2.2.1 (HS6.out w16 HB16.out).2.2.2.2.2.1).mono ?_
    rintro e w18 ⟨rfl, hb18⟩
    have HB18 := hid (HB16.out.trans (hb18.mono HB16.out.size))
    have HF18 := hid (own_next HF16.out hb18)
    have HN18 := hid (own_next HN16.out hb18)
    have HX18 := hid (hp_next HX16.out hb18)
    have HZ18 : Hid (V8.heap.size ≤ w18.heap.size) := hid (Nat.le_trans HZ16.out hb18.size)
    clear hb18 p0 p1 q0 q1
    have p0 := row_cell HX18.out 0
    have p1 := row_cell HX18.out 1
    obtain ⟨K3, hK3⟩ : ∃ K, 1 + 2 * Z.length + ns.length = K := ⟨_, rfl⟩
    have HM3 := hid (markW_own HZ18.out HF18.out HN18.out (by omega) (by omega))
    have HM4 : Hid (∀ W, MarkedW W (.slice fa5 Z.length fc5) (.slice na5 ns.length nc5) Z.length ns.length → Calls Try.prog 12 #[.agg #[.slice fa5 Z.length fc5, .slice na5 ns.length nc5], .int .i64 1] W fun e W' => e = .returned (.int .i64 (1 + 2 * Z.length + ns.length : Nat)) ∧ Below W.heap.size W W') := hid fun W h => heldW_any h (by omega) (by omega)
    rw [hK3] at HM3 HM4
    clear hK3
    have hk3 : ¬ (K3 : Int) < 0 := by omega
    have hk4 : ((K3 : Int) != (K3 : Int)) = false := by simp
    go_wp2_with fail
    refine HM3.out.mono ?_
    rintro e w19 ⟨rfl, hm19, hb19, hr19⟩
    have HB19 : Hid (Below V6.heap.size V6 w19) := hid (HB18.out.trans (hb19.mono HB8.out.size))
    have HX19 : Hid (w19.heap[w5.heap.size]? = some (.cells #[.slice fa5 Z.length fc5, .slice na5 ns.length nc5] 29)) := hid (hr19 _ _ HX18.out (fun cs e => by injection e with _ e; cases e) (fun cs e => by injection e with _ e; cases e))
    have HM19 := hid hm19
    clear hm19 hb19 hr19 p0 p1 HM3
    have p0 := row_cell HX19.out 0
    have p1 := row_cell HX19.out 1
    go_wp2_with fail
    refine (HM4.out w19 HM19.out).mono ?_
    rintro e w20 ⟨rfl, hb20⟩
    have HC20 := hid hb20
    have HB20 := hid (HB19.out.trans (hb20.mono HB19.out.size))
    clear hb20 p0 p1
    have k0 := (HS6.out w20 HB20.out).1
    go_wp2_with fail
    refine (R.toPl_any ⟨l⟩ w20 HLO.out (HS6.out w20 HB20.out).2.2.2.1).mono ?_
    rintro e w21 ⟨u21, rfl, n21, hb21⟩
    have HC21 := hid (HC20.out.trans (hb21.mono HC20.out.size))
    have HR21 := hid n21
    obtain ⟨g21, rfl⟩ := n21.sl
    clear hb21 n21 k0
    go_wp2_with fail
    refine (implClays_any l w21 HLF.out HR21.out).mono ?_
    rintro e w23 ⟨a23, b23, Z23, ns23, rfl, hi23, hf23, hn23, hb23⟩
    obtain ⟨rfl, rfl⟩ := HI.out.uniq hi23
    have HA15 := hid (B1.start w23 (.cells #[a23, b23] 29))
    have HC23 := hid (HC21.out.trans (hb23.mono HC21.out.size))
    have HC15 := hid (HC23.out.trans (HA15.out.lo.mono HC23.out.size))
    have HRD15 := hid (And.intro ((G.RdF.own hf23).next HA15.out.lo) ((RdN.own hn23).next HA15.out.lo))
    obtain ⟨fa7, fc7, rfl⟩ := own_formK hf23
    obtain ⟨na7, nc7, rfl⟩ := own_formK hn23
    clear hi23 hf23 hn23 hb23
    obtain ⟨V15, hV15⟩ : ∃ W, w23.alloc (.cells #[.slice fa7 Z.length fc7, .slice na7 ns.length nc7] 29) = W := ⟨_, rfl⟩
    rw [hV15] at HA15 HC15 HRD15
    have HB15 := hid (HB19.out.trans (HC15.out.mono HB19.out.size))
    have p0 := row_cell HA15.out.e 0
    have p1 := row_cell HA15.out.e 1
    have q0 := (HS6.out V15 HB15.out).2.1
    have q1 := (HS6.out V15 HB15.out).2.2.1
    go_wp2_with fail
    clear hV15
    refine (eqW_any Z ns V15 (by omega) (by omega) HRD15.out.1 HRD15.out.2 (HS6.out V15 HB15.out).2.2.2.2.1 (HS6.out V15 HB15.out).2.2.2.2.2.1).mono ?_
    rintro e w24 ⟨rfl, hb24⟩
    have HC24 := hid (HC15.out.trans (hb24.mono HC15.out.size))
    clear hb24 p0 p1 q0 q1
    have p0 := row_cell (hp_next HX19.out HC24.out) 0
    have p1 := row_cell (hp_next HX19.out HC24.out) 1
    go_wp2_with fail
    refine (HM4.out w24 (HM19.out.next HC24.out)).mono ?_
    rintro e w25 ⟨rfl, hb25⟩
    have HC25 := hid (HC24.out.trans (hb25.mono HC24.out.size))
    have HEND := hid (HS6.out w25 (HB19.out.trans (HC25.out.mono HB19.out.size))).2.2.2.2.2.2
    clear hb25 p0 p1
    go_wp2
    go_ret
    exact ⟨rfl, HEND.out⟩
end Go.Proofs.Ytpcfhbbialgcfaa.P
