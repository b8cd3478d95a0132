import Derived.Test.YtfedmbadhcdpdaaGreatDoorJ47
import Derived.Test.YtfedmbadhcdpdaaGreatDoorJ45
/-! What the law of shapes keeps. -/
namespace Go.Proofs.YtfedmbadhcdpdaaGreatDoor.C
open Go.RowKit
set_option maxRecDepth 20000
theorem MkS.next {B K g j : Nat} {L : List ShE} {cu : Array Value} {W V : World} (h : MkS B L K g j cu W) (hb : Below W.heap.size W V) : MkS B L K g j cu V :=
  ⟨hp_next h.e hb, h.sz, h.bg, h.ref, h.blk, h.asc, fun i h1 h2 => ⟨(h.old i h1 h2).1.next hb, (h.old i h1 h2).2.next hb⟩, fun i hi => ⟨(h.new i hi).1, (h.new i hi).2.1.keep (hb.block _ (h.new i hi).2.1.lt), (h.new i hi).2.2.keep (hb.block _ (h.new i hi).2.2.lt)⟩⟩
theorem MarkedS.next {K : Nat} {W V : World} {v : Value} {L : List ShE} (h : MarkedS K W v L) (hb : Below W.heap.size W V) : MarkedS K V v L := by
  rcases h with h | ⟨B, g, cap, cur, e, h⟩
  · exact .inl h
  · exact .inr ⟨B, g, cap, cur, e, h.next hb⟩
theorem NRow.keepB {B : Nat} {W V : World} {v : Value} {L : List ShE} (h : NRow B W v L) (hk : ∀ i, B ≤ i → i < W.heap.size → V.heap[i]? = W.heap[i]?) : NRow B V v L := by
  refine ⟨?_, fun x hx => ?_, h.asc⟩
  · obtain ⟨hl, h | ⟨g, cap, cur, e, hB, hc, h⟩⟩ := h.own
    · exact ⟨hl, .inl h⟩
    · exact ⟨hl, .inr ⟨g, cap, cur, e, hB, (hk g hB (lt_hp hc)).trans hc, h⟩⟩
  · obtain ⟨h1, h2, h3, h4⟩ := h.ins x hx
    exact ⟨h1, h2, h3.keep (hk _ h1 h3.lt), h4.keep (hk _ (by omega) h4.lt)⟩
theorem shs_low {fns : List Fn} {a : Int} {l : List Sh} (h : ShsIs fns a l) : l.length ≤ 50000 ∧ ∀ x ∈ l, x.sl.length ≤ 600 ∧ x.sk.length ≤ 600 := by
  rcases h with ⟨_, rfl⟩ | ⟨hp, q, _, hq, A, hA, rfl⟩
  · exact ⟨Nat.zero_le _, fun x hx => (by cases hx)⟩
  · have hm : fns.getD q fn0 ∈ fns := by rw [List.getD_eq_getElem?_getD, List.getElem?_eq_getElem hq]; exact List.getElem_mem hq
    have hr := (plain_right hp).1 _ hm
    have h1 := hr.slots
    have h2 := hr.some_
    refine ⟨by rw [List.length_map, List.length_range]; exact h2.2, fun x hx => ?_⟩
    obtain ⟨p, hp2, rfl⟩ := List.mem_map.1 hx
    have h3 := okSh_10 (hA.1.ok p (List.mem_range.1 hp2)) (by unfold Fn.S; omega)
    exact ⟨h3.2.1, h3.2.2.2⟩
theorem low_of {fns : List Fn} {a : Int} {L : List ShE} (h : ShsIs fns a (L.map ShE.s)) : L.length ≤ 50000 ∧ ∀ x ∈ L, x.s.sl.length ≤ 600 ∧ x.s.sk.length ≤ 600 := by
  have h1 := shs_low h
  rw [List.length_map] at h1
  exact ⟨h1.1, fun x hx => h1.2 x.s (List.mem_map.2 ⟨x, hx, rfl⟩)⟩
end Go.Proofs.YtfedmbadhcdpdaaGreatDoor.C
/-! The law of shapes. -/
namespace Go.Proofs.YtfedmbadhcdpdaaGreatDoor.C
open Go.RowKit
set_option maxRecDepth 20000
set_option maxHeartbeats 8000000 in
theorem law_shapes {fns : List Fn} {w : World} {cv : Value} (a : Int) (hA : R.SFnA w cv fns) (hO : R.OkFnS fns) (hE : EnvI w) :
    Calls Tryz.prog 4 #[.agg #[cv], .int .i64 a] w fun e w' => e = .returned (.bool true) ∧ Below w.heap.size w w' := by
  have HO := hid hO
  have HX := hid (R.B1.start w (.cells #[cv] 24))
  have HA := hid (hA.next HX.out.lo)
  have HE := hid (hE.next HX.out.lo)
  have HCS := hid (codeS_of hO)
  obtain ⟨ad, cp, rfl⟩ := hA.sl
  clear hA hO hE
  obtain ⟨W0, hW0⟩ : ∃ W, w.alloc (.cells #[.slice ad fns.length cp] 24) = W := ⟨_, rfl⟩
  rw [hW0] at HX HA HE
  have k0 : W0.cell? ⟨w.heap.size, 0, none⟩ = some (.slice ad fns.length cp) := R.row_cell HX.out.e 0
  go_enter Tryz.func4, Tryz.ntmps4
  go_wp2_with fail
  clear hW0
  refine (R.szCd_any ⟨fns⟩ 1048576 W0 (by omega) (by omega) HO.out HA.out).mono ?_
  rintro e w1 ⟨⟨r, rfl, _, _, h3⟩, hb1⟩
  have HX1 := hid (HX.out.next hb1)
  have HN1 := hid hb1
  have H3 := hid h3
  clear hb1 h3 k0
  have k0 : w1.cell? ⟨w.heap.size, 0, none⟩ = some (.slice ad fns.length cp) := R.row_cell HX1.out.e 0
  by_cases hr : r < 0
  · go_wp2
    go_ret
    exact ⟨rfl, HX1.out.lo⟩
  · have HWS : Hid (R.wSFn fns fns.length ≤ 1048576) := by
      have h9 := H3.out (by omega)
      have h8 : R.wCd ⟨fns⟩ ≤ 1048576 := by omega
      show _ ≤ _
      simpa [R.wCd] using h8
    have HLO := hid (R.loFnS_of HWS.out)
    go_wp2_with fail
    refine (R.toCd_any ⟨fns⟩ w1 HLO.out (HA.out.next HN1.out)).mono ?_
    rintro e w2 ⟨u2, rfl, n2, hb2⟩
    have HX2 := hid (HX1.out.next hb2)
    have HN2 := hid (HN1.out.trans (hb2.mono HN1.out.size))
    have HR2 := hid (fnsRow_of n2 HLO.out)
    obtain ⟨g2, rfl⟩ := n2.sl
    clear hb2 n2 k0
    go_wp2_with fail
    refine (specShapes_any a HR2.out HCS.out).mono ?_
    rintro e w3 ⟨v3, lz, rfl, hi3, hrd3, hb3⟩
    have HX3 := hid (HX2.out.next hb3)
    have HN3 := hid (HN2.out.trans (hb3.mono HN2.out.size))
    have HI := hid hi3
    have HRD := hid hrd3
    have HLZ := hid (shs_low hi3)
    have hlz := HLZ.out.1
    obtain ⟨a3, c3, rfl⟩ := hrd3.sl
    clear hb3 hi3 hrd3
    -- all that stood behind the model's answer
    have HS3 : Hid (∀ U, Below w3.heap.size w3 U → U.cell? ⟨w.heap.size, 0, none⟩ = some (.slice ad fns.length cp) ∧ R.SFnA U (.slice ad fns.length cp) fns ∧ RdS U (.slice a3 lz.length c3) lz ∧ EnvI U ∧ Below w.heap.size w U) := hid fun U hU => ⟨R.row_cell (HX3.out.next hU).e 0, HA.out.next (HN3.out.trans (hU.mono HN3.out.size)), HRD.out.next hU, HE.out.next (HN3.out.trans (hU.mono HN3.out.size)), (HX3.out.next hU).lo⟩
    clear HX1 HN1 HX2 HN2 HR2 HX3 HN3 HRD HA HE HX
    have k0 := (HS3.out w3 (Below.refl _ _)).1
    go_wp2_with fail
    refine (R.toCd_any ⟨fns⟩ w3 HLO.out (HS3.out w3 (Below.refl _ _)).2.1).mono ?_
    rintro e w4 ⟨u4, rfl, n4, hb4⟩
    have HR4 := hid n4
    have HCB := hid (CB.of n4)
    have HA4 := hid (R.B1.start w4 (.cells #[u4] 30))
    have HB4 := hid (hb4.trans (HA4.out.lo.mono hb4.size))
    have HZ4 := hid hb4.size
    obtain ⟨g4, hu4⟩ := n4.sl
    subst hu4
    obtain ⟨g4', e9, hB4, hT4, hcb4⟩ := HCB.out
    injection e9 with e9 _ _
    injection e9 with e9
    injection e9 with e9 _ _
    subst e9
    have HC4 := hid (hcb4.next HA4.out.lo)
    have HR5 := hid (n4.next HA4.out.lo)
    clear hb4 n4 k0 hcb4 HCB HR4
    obtain ⟨V4, hV4⟩ : ∃ W, w4.alloc (.cells #[.slice (some ⟨g4, 0, none⟩) fns.length fns.length] 30) = W := ⟨_, rfl⟩
    have HZV : Hid (w4.heap.size ≤ V4.heap.size) := hid (by rw [← hV4]; exact HA4.out.lo.size)
    rw [hV4] at HA4 HB4 HC4 HR5
    have k0 : V4.cell? ⟨w4.heap.size, 0, none⟩ = some (.slice (some ⟨g4, 0, none⟩) fns.length fns.length) := R.row_cell HA4.out.e 0
    go_wp2_with fail
    clear hV4
    refine (implShapes_any a (fnsRow_of HR5.out HLO.out) HCS.out (HS3.out V4 HB4.out).2.2.2.1).mono ?_
    rintro e w5 ⟨v5, L, rfl, hi5, hnr5, hb5⟩
    have HLL := hid (low_of hi5)
    have HLE := hid (HI.out.uniq hi5)
    have HNR := hid hnr5
    have HB5 := hid (HB4.out.trans (hb5.mono HB4.out.size))
    have HA5 := hid (HA4.out.next hb5)
    have HC5 := hid (HC4.out.next hb5)
    have HR6 := hid (HR5.out.next hb5)
    have HZ5 := hid hb5.size
    obtain ⟨a5, c5, rfl⟩ := own_form3 hnr5.own
    clear hb5 hi5 hnr5 k0
    have hLn := HLL.out.1
    -- the first comparison
    go_wp2_with fail
    refine (eqS_any lz w5 (by omega) HLZ.out.2 (by rw [HLE.out]; exact RdS.own HNR.out HLL.out.2) (HS3.out w5 HB5.out).2.2.1).mono ?_
    rintro e w6 ⟨rfl, hb6⟩
    have HB6 := hid hb6
    clear hb6
    have HT6 : Hid (∀ W, Below w6.heap.size w6 W → W.cell? ⟨w.heap.size, 0, none⟩ = some (.slice ad fns.length cp) ∧ W.cell? ⟨w4.heap.size, 0, none⟩ = some (.slice (some ⟨g4, 0, none⟩) fns.length fns.length)) := hid fun W h => by
      have h1 := HB6.out.trans (h.mono HB6.out.size)
      exact ⟨(HS3.out W (HB5.out.trans (h1.mono HB5.out.size))).1, R.row_cell (HA5.out.next h1).e 0⟩
    have HT7 : Hid (∀ W, Below w6.heap.size w6 W → R.SFnA W (.slice ad fns.length cp) fns ∧ R.SFnR 0 W (.slice (some ⟨g4, 0, none⟩) fns.length fns.length) fns) := hid fun W h => by
      have h1 := HB6.out.trans (h.mono HB6.out.size)
      exact ⟨(HS3.out W (HB5.out.trans (h1.mono HB5.out.size))).2.1, (HR6.out.next h1).mono (Nat.zero_le _)⟩
    go_wp2_with fail
    go_region_held3 (fun w' => w'.cell? ⟨w.heap.size, 0, none⟩ = some (.slice ad fns.length cp) ∧ w'.cell? ⟨w4.heap.size, 0, none⟩ = some (.slice (some ⟨g4, 0, none⟩) fns.length fns.length)) (first | (exact HT6.out _ HC7.out) | (exact HT6.out _ HC6.out) | (exact HT6.out _ (Below.refl _ _).drew) | go_keep) (first
      | (go_at_call 7; refine (R.toCd_any ⟨fns⟩ _ HLO.out (HT7.out _ (Below.refl _ _).drew).1).mono ?_; rintro e w7 ⟨u7, rfl, n7, hb7⟩; have HC6 := hid ((Below.refl w6.heap.size w6).drew.trans hb7); have NA6 := hid (n7.mono (B' := 0) (Nat.zero_le _)); obtain ⟨g7, rfl⟩ := n7.sl; clear n7 hb7)
      | (go_at_call 9; refine (R.eqCd_same ⟨fns⟩ _ HLO.out (HT7.out _ HC6.out).2 NA6.out).mono ?_; rintro e w8 ⟨rfl, hb8⟩; have HC7 := hid (HC6.out.trans (hb8.mono HC6.out.size)); clear hb8) | fail)
    have HW8 : Hid (Below w5.heap.size w5 w8) := hid (HB6.out.trans (HC7.out.mono HB6.out.size))
    clear HT6 HT7 HC6 HC7 NA6 HB6
    have HB8 := hid (HB5.out.trans (HW8.out.mono HB5.out.size))
    have HC8 := hid (HC5.out.next HW8.out)
    have HNR8 := hid (HNR.out.next HW8.out)
    have HA8 := hid (HA5.out.next HW8.out)
    have HZ8 := hid HW8.out.size
    clear HC5 HNR HA5 HR5 HR6 HC4 HA4 HB4
    have k0 : w8.cell? ⟨w4.heap.size, 0, none⟩ = some (.slice (some ⟨g4, 0, none⟩) fns.length fns.length) := R.row_cell HA8.out.e 0
    go_wp2_with fail
    refine (markCode_at (B := w3.heap.size) (T := w4.heap.size) w8 hB4 hT4 HB8.out.size HWS.out HC8.out).mono ?_
    rintro e w9 ⟨K, rfl, hbt⟩
    have HB9 := hid (HB8.out.trans hbt.lo)
    have HNR9 : Hid (NRow V4.heap.size w9 (.slice a5 L.length c5) L) := hid (HNR8.out.keepB fun i h1 h2 => hbt.hi i (Nat.le_trans HZV.out h1) h2)
    have HZ9 : Hid (V4.heap.size ≤ w9.heap.size) := hid (Nat.le_trans HZ5.out (Nat.le_trans HZ8.out hbt.lo.size))
    clear hbt k0 HC8 HNR8 HA8 HB8 HW8
    have hK : ¬ (K : Int) < 0 := by omega
    have hKd : decide ((K : Int) < 0) = false := by simp
    go_wp2_with fail
    refine (eqS_any lz w9 (by omega) HLZ.out.2 (by rw [HLE.out]; exact RdS.own HNR9.out HLL.out.2) (HS3.out w9 HB9.out).2.2.1).mono ?_
    rintro e w10 ⟨rfl, hb10⟩
    have HB10 := hid (HB9.out.trans (hb10.mono HB9.out.size))
    have HNR10 := hid (HNR9.out.next hb10)
    have HZ10 : Hid (V4.heap.size ≤ w10.heap.size) := hid (Nat.le_trans HZ9.out hb10.size)
    clear hb10
    have HMK := hid (markS_any (K := 1) w10 HNR10.out HZ10.out hLn (by omega) HLL.out.2)
    obtain ⟨M, hM⟩ : ∃ M, 1 + kN L = M := ⟨_, rfl⟩
    have HHD : Hid (∀ W, MarkedS 1 W (.slice a5 L.length c5) L → Calls Tryz.prog 15 #[.slice a5 L.length c5, .int .i64 1] W fun e W' => e = .returned (.int .i64 (1 + kN L : Nat)) ∧ W' = W) := hid fun W h => heldS_any (K := 1) W h hLn (by omega) HLL.out.2
    rw [hM] at HMK HHD
    clear hM
    have hM0 : ¬ (M : Int) < 0 := by omega
    have hMd : decide ((M : Int) < 0) = false := by simp
    have hMM : ((M : Int) != (M : Int)) = false := by simp
    go_wp2_with fail
    refine HMK.out.mono ?_
    rintro e w11 ⟨rfl, hb11, hm11⟩
    have HM11 := hid hm11
    have HB11 : Hid (Below w3.heap.size w3 w11) := hid (HB10.out.trans (hb11.mono (Nat.le_trans HZ4.out HZV.out)))
    clear hb11 hm11 HMK
    go_wp2_with fail
    refine (HHD.out w11 HM11.out).mono ?_
    rintro e w12 ⟨rfl, hw12⟩
    have hw13 := hw12.symm
    clear hw12
    subst hw13
    have k0 := (HS3.out w11 HB11.out).1
    go_wp2_with fail
    refine (R.toCd_any ⟨fns⟩ w11 HLO.out (HS3.out w11 HB11.out).2.1).mono ?_
    rintro e w14 ⟨u14, rfl, n14, hb14⟩
    have HB14 := hid hb14
    have HR14 := hid (fnsRow_of n14 HLO.out)
    obtain ⟨g14, rfl⟩ := n14.sl
    clear hb14 n14 k0
    have HE14 := hid (HS3.out w14 (HB11.out.trans (HB14.out.mono HB11.out.size))).2.2.2.1
    go_wp2_with fail
    refine (implShapes_any a HR14.out HCS.out HE14.out).mono ?_
    rintro e w15 ⟨v15, L15, rfl, hi15, hnr15, hb15⟩
    have HL15 := hid (low_of hi15)
    have HE15 := hid (HI.out.uniq hi15)
    have HNR15 := hid hnr15
    have HB15 := hid (HB14.out.trans (hb15.mono HB14.out.size))
    obtain ⟨a15, c15, rfl⟩ := own_form3 hnr15.own
    clear hb15 hi15 hnr15
    go_wp2_with fail
    refine (eqS_any lz w15 (by omega) HLZ.out.2 (by rw [HE15.out]; exact RdS.own HNR15.out HL15.out.2) (HS3.out w15 (HB11.out.trans (HB15.out.mono HB11.out.size))).2.2.1).mono ?_
    rintro e w16 ⟨rfl, hb16⟩
    have HB16 := hid (HB15.out.trans (hb16.mono HB15.out.size))
    clear hb16
    go_wp2_with fail
    refine (HHD.out w16 (HM11.out.next HB16.out)).mono ?_
    rintro e w17 ⟨rfl, hw17⟩
    have hw18 := hw17.symm
    clear hw17
    subst hw18
    have HEND := hid (HS3.out w16 (HB11.out.trans (HB16.out.mono HB11.out.size))).2.2.2.2
    go_wp2
    go_ret
    exact ⟨rfl, HEND.out⟩
end Go.Proofs.YtfedmbadhcdpdaaGreatDoor.C
