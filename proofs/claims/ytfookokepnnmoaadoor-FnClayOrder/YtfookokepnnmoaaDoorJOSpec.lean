import Derived.Test.YtfookokepnnmoaaDoorJSOk
import Derived.Test.YtfookokepnnmoaaDoorJOLeaf
namespace Go.Proofs.YtfookokepnnmoaaDoor
open Go.RowKit
set_option maxRecDepth 20000
/-- The contract of l5Order up to m atoms of the first value. -/
def OrdIH (m : Nat) : Prop := ∀ (b o N cap b' o' N' cap' : Nat) (t t' : Tr) (w : World), N ≤ m → (flat t).length = N → (flat t').length = N' → N ≤ cap → N ≤ 1048576 ∧ cap ≤ 9223372036854775807 → N' ≤ cap' → N' ≤ 1048576 ∧ cap' ≤ 9223372036854775807 → b < w.heap.size → b' < w.heap.size → AtomsAt w b o (flat t) → AtomsAt w b' o' (flat t') → OkT t → OkT t' →
    Calls Tryd.prog 21 #[.agg #[.slice (some ⟨b, o, none⟩) N cap], .agg #[.slice (some ⟨b', o', none⟩) N' cap']] w fun e w' => e = .returned (.int .i64 (ord t t')) ∧ Below w.heap.size w w'
theorem last_any (b o N cap : Nat) (t : Tr) (w : World) (hN : (flat t).length = N) (hcap : N ≤ 1048576) (hb : b < w.heap.size) (hn : AtomsAt w b o (flat t)) :
    Calls Tryd.prog 29 #[.agg #[.slice (some ⟨b, o, none⟩) N cap]] w fun e w' => e = .returned (.agg #[.int .i64 t.kind, .int .i64 t.num, .string t.text, .int .i64 t.kids.length]) ∧ Below w.heap.size w w' := by
  obtain ⟨h3, _, h4⟩ := flat_last (congrArg flat (Tr.eta t)) hN
  exact l5Last_any b o N cap (lastA t) w h3 hcap hb (hn _ _ h4)
theorem okT_kind {t : Tr} (h : OkT t) : t.kind = 1 ∨ t.kind = 2 ∨ t.kind = 3 ∨ t.kind = 4 ∨ t.kind = 5 ∨ t.kind = 6 := by
  cases t
  simp only [OkT] at h
  have := h.1
  unfold LocOk at this
  simp only [Tr.kind]
  omega
theorem okT_kid {t : Tr} (h : OkT t) : ∀ x ∈ t.kids, OkT x := by
  cases t
  simp only [OkT, okTs_iff] at h
  exact h.2
theorem four_keep {W W' : World} {g : Nat} {a b c d : Value} {t : TypeId} (hb : Below (W.alloc (.cells #[a, b, c, d] t)).heap.size (W.alloc (.cells #[a, b, c, d] t)) W') (hg : W.heap.size = g) : W'.cell? ⟨g, 0, none⟩ = some a ∧ W'.cell? ⟨g, 1, none⟩ = some b ∧ W'.cell? ⟨g, 2, none⟩ = some c ∧ W'.cell? ⟨g, 3, none⟩ = some d := by
  subst hg
  have f : ∀ i, W'.cell? ⟨W.heap.size, i, none⟩ = #[a, b, c, d][i]? := fun i => by
    rw [hb.cell (p := ⟨W.heap.size, i, none⟩) (by simp), cell_new_row]
  exact ⟨f 0, f 1, f 2, f 3⟩
theorem four_keep2 {W W' : World} {g : Nat} {a b c d a' b' c' d' : Value} {t t' : TypeId} (hb : Below (W.alloc (.cells #[a, b, c, d] t)).heap.size (W.alloc (.cells #[a, b, c, d] t)) W') (hg : W.heap.size = g) :
    ((W'.alloc (.cells #[a', b', c', d'] t')).cell? ⟨g, 0, none⟩ = some a ∧ (W'.alloc (.cells #[a', b', c', d'] t')).cell? ⟨g, 1, none⟩ = some b ∧ (W'.alloc (.cells #[a', b', c', d'] t')).cell? ⟨g, 2, none⟩ = some c ∧ (W'.alloc (.cells #[a', b', c', d'] t')).cell? ⟨g, 3, none⟩ = some d) ∧
    (W'.alloc (.cells #[a', b', c', d'] t')).cell? ⟨W'.heap.size, 0, none⟩ = some a' ∧ (W'.alloc (.cells #[a', b', c', d'] t')).cell? ⟨W'.heap.size, 1, none⟩ = some b' ∧ (W'.alloc (.cells #[a', b', c', d'] t')).cell? ⟨W'.heap.size, 2, none⟩ = some c' ∧ (W'.alloc (.cells #[a', b', c', d'] t')).cell? ⟨W'.heap.size, 3, none⟩ = some d' := by
  have f : ∀ i, (W'.alloc (.cells #[a', b', c', d'] t')).cell? ⟨W'.heap.size, i, none⟩ = #[a', b', c', d'][i]? := fun i => cell_new_row _ _ _ i
  have hb2 := hb.alloc hb.size (.cells #[a', b', c', d'] t')
  exact ⟨four_keep hb2 hg, f 0, f 1, f 2, f 3⟩
/-- What the kids' row holds. -/
def KidsHold (b cap N go : Nat) (ks : List Tr) (w1 : World) : Prop := ∀ q (h : q < ks.length), ∃ o' c', (flat ks[q]).length + 1 ≤ N ∧ (flat ks[q]).length ≤ c' ∧ c' ≤ cap ∧ ∀ W, Below w1.heap.size w1 W → W.cell? ⟨go, q, none⟩ = some (.slice (some ⟨b, o', none⟩) (flat ks[q]).length c') ∧ AtomsAt W b o' (flat ks[q])
theorem KidsHold.up {b cap N go : Nat} {ks : List Tr} {w1 w2 : World} (h : KidsHold b cap N go ks w1) (hb : Below w1.heap.size w1 w2) : KidsHold b cap N go ks w2 := fun q hq => by
  obtain ⟨o', c', h1, h2, h3, h4⟩ := h q hq
  exact ⟨o', c', h1, h2, h3, fun W hW => h4 W (hb.trans (hW.mono hb.size))⟩
theorem kids_any (b o N cap : Nat) (t : Tr) (w : World) (hN : (flat t).length = N) (hcap : N ≤ cap) (hcm : N ≤ 1048576 ∧ cap ≤ 9223372036854775807) (hb : b < w.heap.size) (hn : AtomsAt w b o (flat t)) :
    Calls Tryd.prog 39 #[.agg #[.slice (some ⟨b, o, none⟩) N cap]] w fun e w' => Below w.heap.size w w' ∧ ∃ go co, e = .returned (.tuple #[.slice (some ⟨go, 0, none⟩) t.kids.length co, .bool true]) ∧ KidsHold b cap N go t.kids w' := by
  refine (l5Kids_any b o N cap (flat t) w hN hcap hcm hb hn).mono ?_
  rintro e w1 ⟨hb1, ⟨v, _, hno⟩ | ⟨k, n, tx, ks, go, co, rfl, hfl, hgo, hrow⟩⟩
  · exact absurd rfl (hno t)
  obtain rfl := flat_inj hfl
  refine ⟨hb1, go, co, rfl, fun q h => ?_⟩
  simp only [Tr.kids] at h ⊢
  obtain ⟨_, hfn, _⟩ := flat_last rfl hN
  have h1 := flats_take_le ks (q + 1)
  rw [flats_take_succ ks q h, List.length_append, hfn] at h1
  refine ⟨_, cap - (0 + (flats (ks.take q)).length), by omega, by omega, by omega, fun W hW => ⟨?_, kid_at rfl ((hn.below hb1 hb).below hW (by have := hb1.size; omega)) q h⟩⟩
  rw [hW.cell (p := ⟨go, q, none⟩) hrow.lt, hrow.cell q h, kidRow_get _ _ _ _ _ _ h]
set_option maxHeartbeats 8000000 in
theorem l5Order_step (m : Nat) (ih : OrdIH m) : OrdIH (m + 1) := by
  intro b o N cap b' o' N' cap' t t' w hm hN hN' hcap hcm hcap' hcm' hb hb' hn hn' hok hok'
  have IH := hid ih
  have HN := hid hn
  have HN' := hid hn'
  have HL := hid hN
  have HL' := hid hN'
  have HK := hid hok
  have HK' := hid hok'
  have hkk := okT_kind hok
  clear ih hn hn' hN hN' hok hok'
  have HB0 := hid (below_two' w (.cells #[.slice (some ⟨b, o, none⟩) N cap] 25) (.cells #[.slice (some ⟨b', o', none⟩) N' cap'] 25))
  have HC1 : Hid (∀ W, Below w.heap.size w W → Calls Tryd.prog 29 #[.agg #[.slice (some ⟨b, o, none⟩) N cap]] W fun e w' => e = .returned (.agg #[.int .i64 t.kind, .int .i64 t.num, .string t.text, .int .i64 t.kids.length]) ∧ Below W.heap.size W w') := fun W hW => last_any b o N cap t W HL.out (by omega) (by have := hW.size; omega) (HN.out.below hW hb)
  have HC2 : Hid (∀ W, Below w.heap.size w W → Calls Tryd.prog 29 #[.agg #[.slice (some ⟨b', o', none⟩) N' cap']] W fun e w' => e = .returned (.agg #[.int .i64 t'.kind, .int .i64 t'.num, .string t'.text, .int .i64 t'.kids.length]) ∧ Below W.heap.size W w') := fun W hW => last_any b' o' N' cap' t' W HL'.out (by omega) (by have := hW.size; omega) (HN'.out.below hW hb')
  have HBX : Hid (∀ W, Below (w.heap.size + 1 + 1) ((w.alloc (.cells #[.slice (some ⟨b, o, none⟩) N cap] 25)).alloc (.cells #[.slice (some ⟨b', o', none⟩) N' cap'] 25)) W → W.cell? ⟨w.heap.size, 0, none⟩ = some (.slice (some ⟨b, o, none⟩) N cap) ∧ W.cell? ⟨w.heap.size + 1, 0, none⟩ = some (.slice (some ⟨b', o', none⟩) N' cap') ∧ Below w.heap.size w W) := fun W hW => by
    refine ⟨?_, ?_, HB0.out.trans (hW.mono (by omega))⟩
    · rw [hW.cell (p := ⟨w.heap.size, 0, none⟩) (by show w.heap.size < w.heap.size + 1 + 1; omega), ((Below.refl (w.heap.size + 1) (w.alloc (.cells #[.slice (some ⟨b, o, none⟩) N cap] 25))).alloc (by simp) _).cell (p := ⟨w.heap.size, 0, none⟩) (Nat.lt_succ_self _), cell_new_row]; rfl
    · have h := cell_new_row (w.alloc (.cells #[.slice (some ⟨b, o, none⟩) N cap] 25)) #[.slice (some ⟨b', o', none⟩) N' cap'] 25 0
      rw [World.size_alloc] at h
      rw [hW.cell (p := ⟨w.heap.size + 1, 0, none⟩) (Nat.lt_succ_self _)]
      exact h
  have HBR := hid (Below.refl (w.heap.size + 1 + 1) ((w.alloc (.cells #[.slice (some ⟨b, o, none⟩) N cap] 25)).alloc (.cells #[.slice (some ⟨b', o', none⟩) N' cap'] 25)))
  go_enter Tryd.func21, Tryd.ntmps21
  go_wp2_with fail
  refine (HC1.out _ HB0.out).mono ?_
  rintro e w1 ⟨rfl, hb1⟩
  have HB1 := hid (HBR.out.trans (hb1.mono (by simp)))
  have hz1 : w.heap.size + 1 + 1 ≤ w1.heap.size := by have := HB1.out.size; simpa using this
  obtain ⟨p0, p1, _⟩ := HBX.out _ HB1.out
  clear hb1
  have HB1a := hid (HB1.out.alloc hz1 (.cells #[.int .i64 t.kind, .int .i64 t.num, .string t.text, .int .i64 t.kids.length] 51))
  have p1a := (HBX.out _ HB1a.out).2.1
  go_wp2_with fail
  refine (HC2.out _ (HBX.out _ HB1a.out).2.2).mono ?_
  rintro e w2 ⟨rfl, hb2⟩
  obtain ⟨⟨x0, x1, x2, x3⟩, y0, y1, y2, y3⟩ := four_keep2 (a' := .int .i64 t'.kind) (b' := .int .i64 t'.num) (c' := .string t'.text) (d' := .int .i64 t'.kids.length) (t' := 51) hb2 rfl
  have HB2 := hid (HB1a.out.trans (hb2.mono (by simp; omega)))
  have hz2 : w1.heap.size + 1 ≤ w2.heap.size := by have := hb2.size; simpa using this
  obtain ⟨p2, p3, _⟩ := HBX.out _ HB2.out
  have HBW : Hid (Below w.heap.size w (w2.alloc (.cells #[.int .i64 t'.kind, .int .i64 t'.num, .string t'.text, .int .i64 t'.kids.length] 51))) := ((HBX.out _ HB2.out).2.2).alloc (HBX.out _ HB2.out).2.2.size _
  clear hb2
  by_cases hk : t.kind = t'.kind
  · have hkb : (t.kind != t'.kind) = false := by simpa using hk
    have HKE := hid hk
    by_cases h23 : t.kind = 2 ∨ t.kind = 3
    · have HOR := hid (ord_num hk h23)
      clear hk hkk
      rcases h23 with h2 | h3
      · have k2 : (t.kind == 2) = true := by simpa using h2
        clear h2
        by_cases hlt : t.num < t'.num
        · have hne : (t.num == t'.num) = false := by simp; omega
          have HV : Hid (ord t t' = -1) := by show _ = _; rw [HOR.out]; unfold cmpI; rw [if_pos hlt]
          go_wp2_with (go_at_call 38; refine (l5Cmp_any _ _ _).mono ?_; rintro e w' ⟨rfl, hw⟩; have hw2 := hw.symm; clear hw; subst hw2)
          go_ret
          exact ⟨ret_int (by rw [HV.out]), HBW.out⟩
        · by_cases he : t.num = t'.num
          · have hne : (t.num == t'.num) = true := by simpa using he
            have HV : Hid (ord t t' = 0) := by show _ = _; rw [HOR.out]; unfold cmpI; rw [if_neg hlt, if_pos he]
            clear he
            go_wp2_with (go_at_call 38; refine (l5Cmp_any _ _ _).mono ?_; rintro e w' ⟨rfl, hw⟩; have hw2 := hw.symm; clear hw; subst hw2)
            go_ret
            exact ⟨ret_int (by rw [HV.out]), HBW.out⟩
          · have hne : (t.num == t'.num) = false := by simpa using he
            have HV : Hid (ord t t' = 1) := by show _ = _; rw [HOR.out]; unfold cmpI; rw [if_neg hlt, if_neg he]
            go_wp2_with (go_at_call 38; refine (l5Cmp_any _ _ _).mono ?_; rintro e w' ⟨rfl, hw⟩; have hw2 := hw.symm; clear hw; subst hw2)
            go_ret
            exact ⟨ret_int (by rw [HV.out]), HBW.out⟩
      · have k2 : (t.kind == 2) = false := by simp; omega
        have k3 : (t.kind == 3) = true := by simpa using h3
        clear h3
        by_cases hlt : t.num < t'.num
        · have hne : (t.num == t'.num) = false := by simp; omega
          have HV : Hid (ord t t' = -1) := by show _ = _; rw [HOR.out]; unfold cmpI; rw [if_pos hlt]
          go_wp2_with (go_at_call 38; refine (l5Cmp_any _ _ _).mono ?_; rintro e w' ⟨rfl, hw⟩; have hw2 := hw.symm; clear hw; subst hw2)
          go_ret
          exact ⟨ret_int (by rw [HV.out]), HBW.out⟩
        · by_cases he : t.num = t'.num
          · have hne : (t.num == t'.num) = true := by simpa using he
            have HV : Hid (ord t t' = 0) := by show _ = _; rw [HOR.out]; unfold cmpI; rw [if_neg hlt, if_pos he]
            clear he
            go_wp2_with (go_at_call 38; refine (l5Cmp_any _ _ _).mono ?_; rintro e w' ⟨rfl, hw⟩; have hw2 := hw.symm; clear hw; subst hw2)
            go_ret
            exact ⟨ret_int (by rw [HV.out]), HBW.out⟩
          · have hne : (t.num == t'.num) = false := by simpa using he
            have HV : Hid (ord t t' = 1) := by show _ = _; rw [HOR.out]; unfold cmpI; rw [if_neg hlt, if_neg he]
            go_wp2_with (go_at_call 38; refine (l5Cmp_any _ _ _).mono ?_; rintro e w' ⟨rfl, hw⟩; have hw2 := hw.symm; clear hw; subst hw2)
            go_ret
            exact ⟨ret_int (by rw [HV.out]), HBW.out⟩
    · have k2 : (t.kind == 2) = false := by simp; omega
      have k3 : (t.kind == 3) = false := by simp; omega
      by_cases h4 : t.kind = 4
      · have HOR := hid (ord_text hk h4)
        have k4 : (t.kind == 4) = true := by simpa using h4
        clear hk h4 h23 hkk
        by_cases he : t.text.toList = t'.text.toList
        · have hne : (t.text.toList == t'.text.toList) = true := by simpa using he
          have HV : Hid (ord t t' = 0) := by show _ = _; rw [HOR.out]; unfold cmpT; rw [if_pos he]
          clear he
          go_wp2_with (go_at_call 38; refine (l5Cmp_any _ _ _).mono ?_; rintro e w' ⟨rfl, hw⟩; have hw2 := hw.symm; clear hw; subst hw2)
          go_ret
          exact ⟨ret_int (by rw [HV.out]), HBW.out⟩
        · have hne : (t.text.toList == t'.text.toList) = false := by simpa using he
          cases hl : less t.text.toList t'.text.toList
          · have HV : Hid (ord t t' = 1) := by show _ = _; rw [HOR.out]; unfold cmpT; rw [if_neg he, if_neg (by rw [hl]; simp)]
            clear he
            go_wp2_with (go_at_call 38; refine (l5Cmp_any _ _ _).mono ?_; rintro e w' ⟨rfl, hw⟩; have hw2 := hw.symm; clear hw; subst hw2)
            go_ret
            exact ⟨ret_int (by rw [HV.out]), HBW.out⟩
          · have HV : Hid (ord t t' = -1) := by show _ = _; rw [HOR.out]; unfold cmpT; rw [if_neg he, if_pos hl]
            clear he
            go_wp2_with (go_at_call 38; refine (l5Cmp_any _ _ _).mono ?_; rintro e w' ⟨rfl, hw⟩; have hw2 := hw.symm; clear hw; subst hw2)
            go_ret
            exact ⟨ret_int (by rw [HV.out]), HBW.out⟩
      · have k4 : (t.kind == 4) = false := by simpa using h4
        have HOR := hid (ord_kids hk (by omega))
        clear hk h4 h23 hkk
        have HM := hid (rfl : t.kids.length = t.kids.length)
        have hM : t.kids.length ≤ N := by
          have h1 := flats_len_ge t.kids
          have h2 := (flat_last (congrArg flat (Tr.eta t)) HL.out).2.1
          omega
        have hM' : t'.kids.length ≤ N' := by
          have h1 := flats_len_ge t'.kids
          have h2 := (flat_last (congrArg flat (Tr.eta t')) HL'.out).2.1
          omega
        have HK1 : Hid (∀ W, Below w.heap.size w W → Calls Tryd.prog 39 #[.agg #[.slice (some ⟨b, o, none⟩) N cap]] W fun e w' => Below W.heap.size W w' ∧ ∃ go co, e = .returned (.tuple #[.slice (some ⟨go, 0, none⟩) t.kids.length co, .bool true]) ∧ KidsHold b cap N go t.kids w') := fun W hW => kids_any b o N cap t W HL.out hcap hcm (by have := hW.size; omega) (HN.out.below hW hb)
        have HK2 : Hid (∀ W, Below w.heap.size w W → Calls Tryd.prog 39 #[.agg #[.slice (some ⟨b', o', none⟩) N' cap']] W fun e w' => Below W.heap.size W w' ∧ ∃ go co, e = .returned (.tuple #[.slice (some ⟨go, 0, none⟩) t'.kids.length co, .bool true]) ∧ KidsHold b' cap' N' go t'.kids w') := fun W hW => kids_any b' o' N' cap' t' W HL'.out hcap' hcm' (by have := hW.size; omega) (HN'.out.below hW hb')
        have HB3 := hid (HB2.out.alloc (by have := HB2.out.size; simpa using this) (.cells #[.int .i64 t'.kind, .int .i64 t'.num, .string t'.text, .int .i64 t'.kids.length] 51))
        obtain ⟨r0, r1, _⟩ := HBX.out _ HB3.out
        go_wp2_with fail
        refine (HK1.out _ HBW.out).mono ?_
        rintro e w4 ⟨hb4, go, co, rfl, hk4⟩
        have HG1 := hid hk4
        have HB4 := hid (HB3.out.trans (hb4.mono (by have := HB3.out.size; simpa using this)))
        obtain ⟨s0, s1, hw4⟩ := HBX.out _ HB4.out
        have HW4 := hid hw4
        clear hb4 hk4 hw4
        go_wp2_with fail
        refine (HK2.out _ HW4.out).mono ?_
        rintro e w5 ⟨hb5, go', co', rfl, hk5⟩
        have HG2 := hid hk5
        have HG1' := hid (HG1.out.up hb5)
        have HW5 := hid (HW4.out.trans (hb5.mono HW4.out.size))
        clear hb5 hk5 HG1
        have HKK := hid (okT_kid HK.out)
        have HKK' := hid (okT_kid HK'.out)
        generalize hq1 : t.kids = ks at *
        generalize hq2 : t'.kids = ks' at *
        generalize hl1 : ks.length = M at *
        generalize hl2 : ks'.length = M' at *
        have HM1 := hid hl1
        have HM2 := hid hl2
        clear hq1 hq2 hl1 hl2
        have HCALL : Hid (∀ q (h : q < ks.length) (h' : q < ks'.length), ∃ o1 c1 o2 c2, (flat ks[q]).length ≤ 1048576 ∧ (flat ks'[q]).length ≤ 1048576 ∧ ∀ W, Below w5.heap.size w5 W → W.cell? ⟨go, q, none⟩ = some (.slice (some ⟨b, o1, none⟩) (flat ks[q]).length c1) ∧ W.cell? ⟨go', q, none⟩ = some (.slice (some ⟨b', o2, none⟩) (flat ks'[q]).length c2) ∧ Calls Tryd.prog 21 #[.agg #[.slice (some ⟨b, o1, none⟩) (flat ks[q]).length c1], .agg #[.slice (some ⟨b', o2, none⟩) (flat ks'[q]).length c2]] W fun e w' => e = .returned (.int .i64 (ord ks[q] ks'[q])) ∧ Below W.heap.size W w') := fun q h h' => by
          obtain ⟨o1, c1, e3, e4, e5, e6⟩ := HG1'.out q h
          obtain ⟨o2, c2, f3, f4, f5, f6⟩ := HG2.out q h'
          refine ⟨o1, c1, o2, c2, by omega, by omega, fun W hW => ⟨(e6 W hW).1, (f6 W hW).1, ?_⟩⟩
          have z := hW.size
          have z2 := HW5.out.size
          exact IH.out b o1 _ c1 b' o2 _ c2 ks[q] ks'[q] W (by omega) rfl rfl e4 (by omega) f4 (by omega) (by omega) (by omega) (e6 W hW).2 (f6 W hW).2 (HKK.out _ (List.getElem_mem h)) (HKK'.out _ (List.getElem_mem h'))
        go_wp2_with fail
        go_loopw [11] (fun i wr => ∃ q : Nat, q ≤ M ∧ q ≤ M' ∧ i = .int .i64 q ∧ ord t t' = ords (ks.drop q) (ks'.drop q) ∧ Below w5.heap.size w5 wr) (fun i _ => M - (intOf i).toNat)
        case atStart => exact ⟨0, Nat.zero_le _, Nat.zero_le _, rfl, HOR.out, Below.refl _ _⟩
        case round =>
          obtain ⟨q, hq, hq', rfl, hor, hbw⟩ := hrel
          have HO := hid hor
          have HBQ := hid hbw
          clear hor hbw
          by_cases hlt : q < M
          · by_cases hlt' : q < M'
            · have hqs : q < ks.length := by rw [HM1.out]; exact hlt
              have hqs' : q < ks'.length := by rw [HM2.out]; exact hlt'
              obtain ⟨o1, c1, o2, c2, hfl, hfl', hcall⟩ := HCALL.out q hqs hqs'
              have HO2 := hid (HO.out.trans (ords_step ks ks' q hqs hqs'))
              generalize (flat ks[q]).length = n1 at hcall hfl
              generalize (flat ks'[q]).length = n2 at hcall hfl'
              generalize ord ks[q] ks'[q] = c at hcall HO2
              have HC := hid hcall
              clear hcall
              go_wp2_with fail
              have q0 := fun p : Gr wr => (HC.out p.W (HBQ.out.trans (p.h.mono HBQ.out.size))).1
              have q1 := fun p : Gr wr => (HC.out p.W (HBQ.out.trans (p.h.mono HBQ.out.size))).2.1
              have hne : Nonempty (Gr wr) := ⟨⟨_, Below.refl _ _⟩⟩
              refine wp_region_gr (by kernel_rfl) (by kernel_rfl) ?_
              repeat (first | go_big_quiet_step ((refine Calls.gr_of (v := .int .i64 c) fun hp => ?_; exact (HC.out _ (HBQ.out.trans (hp.mono HBQ.out.size))).2.2)) | quiet_step ((refine Calls.gr_of (v := .int .i64 c) fun hp => ?_; exact (HC.out _ (HBQ.out.trans (hp.mono HBQ.out.size))).2.2)))
              refine wpQuiet_nil ?_
              intro _ hw'
              obtain ⟨pw, rfl⟩ := hw'
              have HB6 := hid (HBQ.out.trans (pw.h.mono HBQ.out.size))
              clear q0 q1
              by_cases hc : c = 0
              · subst hc
                have HO3 : Hid (ord t t' = ords (ks.drop (q + 1)) (ks'.drop (q + 1))) := by have h := HO2.out; rw [if_neg (by simp)] at h; exact h
                clear HO2
                go_wp2
                go_roundw
                case rel => exact ⟨q + 1, by omega, by omega, by go_num, HO3.out, HB6.out⟩
                case measure => simp [intOf]; omega
              · have HO3 : Hid (ord t t' = c) := by have h := HO2.out; rw [if_pos hc] at h; exact h
                have hcb : (c != 0) = true := by simpa using hc
                clear HO2
                go_wp2
                go_ret
                exact ⟨ret_int (by rw [HO3.out]), HW5.out.trans (HB6.out.mono HW5.out.size)⟩
            · have HV : Hid (ord t t' = 1) := by
                show ord t t' = 1
                rw [HO.out, ords_end ks ks' q (by rw [HM1.out]; exact hq) (by rw [HM2.out]; exact hq') (.inr (by have := HM2.out; omega)), HM1.out, HM2.out]
                unfold cmpI; rw [if_neg (by omega), if_neg (by omega)]
              have e1 : ¬ (M : Int) < (M' : Int) := by omega
              have e2 : ((M : Int) == (M' : Int)) = false := by simp; omega
              go_wp2_with (go_at_call 38; refine (l5Cmp_any _ _ _).mono ?_; rintro e w' ⟨rfl, hw⟩; have hw2 := hw.symm; clear hw; subst hw2)
              go_ret
              exact ⟨ret_int (by rw [HV.out]), HW5.out.trans (HBQ.out.mono HW5.out.size)⟩
          · by_cases hmm : M < M'
            · have HV : Hid (ord t t' = -1) := by
                show ord t t' = -1
                rw [HO.out, ords_end ks ks' q (by rw [HM1.out]; exact hq) (by rw [HM2.out]; exact hq') (.inl (by have := HM1.out; omega)), HM1.out, HM2.out]
                unfold cmpI; rw [if_pos (by omega)]
              have e1 : (M : Int) < (M' : Int) := by omega
              have e2 : ((M : Int) == (M' : Int)) = false := by simp; omega
              go_wp2_with (go_at_call 38; refine (l5Cmp_any _ _ _).mono ?_; rintro e w' ⟨rfl, hw⟩; have hw2 := hw.symm; clear hw; subst hw2)
              go_ret
              exact ⟨ret_int (by rw [HV.out]), HW5.out.trans (HBQ.out.mono HW5.out.size)⟩
            · have HV : Hid (ord t t' = 0) := by
                show ord t t' = 0
                rw [HO.out, ords_end ks ks' q (by rw [HM1.out]; exact hq) (by rw [HM2.out]; exact hq') (.inl (by have := HM1.out; omega)), HM1.out, HM2.out]
                unfold cmpI; rw [if_neg (by omega), if_pos (by omega)]
              obtain rfl : M = M' := by omega
              go_wp2_with (go_at_call 38; refine (l5Cmp_any _ _ _).mono ?_; rintro e w' ⟨rfl, hw⟩; have hw2 := hw.symm; clear hw; subst hw2)
              go_ret
              exact ⟨ret_int (by rw [HV.out]), HW5.out.trans (HBQ.out.mono HW5.out.size)⟩
  · have HOR := hid (ord_kind hk)
    have hkb : (t.kind != t'.kind) = true := by simpa using hk
    by_cases hlt : t.kind < t'.kind
    · have HV : Hid (ord t t' = -1) := by show _ = _; rw [HOR.out]; unfold cmpI; rw [if_pos hlt]
      go_wp2_with (go_at_call 38; refine (l5Cmp_any _ _ _).mono ?_; rintro e w' ⟨rfl, hw⟩; have hw2 := hw.symm; clear hw; subst hw2)
      go_ret
      exact ⟨ret_int (by rw [HV.out]), HBW.out⟩
    · have HV : Hid (ord t t' = 1) := by show _ = _; rw [HOR.out]; unfold cmpI; rw [if_neg hlt, if_neg hk]
      go_wp2_with (go_at_call 38; refine (l5Cmp_any _ _ _).mono ?_; rintro e w' ⟨rfl, hw⟩; have hw2 := hw.symm; clear hw; subst hw2)
      go_ret
      exact ⟨ret_int (by rw [HV.out]), HBW.out⟩
theorem l5Order_any (m : Nat) : OrdIH m := by
  induction m with
  | zero =>
    intro b o N cap b' o' N' cap' t t' w hm hN
    have := flat_pos t
    omega
  | succ m ih => exact l5Order_step m ih
end Go.Proofs.YtfookokepnnmoaaDoor
namespace Go.Proofs.YtfookokepnnmoaaDoor
open Go.RowKit
set_option maxRecDepth 20000
/-- What the order of two rows of atoms is. -/
def OrdV (l l' : List At) (x : Int) : Prop := (¬ (ValidV l ∧ ValidV l') ∧ x = 0) ∨ ∃ t t', l = flat t ∧ l' = flat t' ∧ ValidV l ∧ ValidV l' ∧ x = ord t t'
set_option maxHeartbeats 2000000 in
theorem specOrder_any (b o N cap b' o' N' cap' : Nat) (l l' : List At) (w : World) (hl : l.length = N) (hl' : l'.length = N') (hcap : N ≤ cap) (hcm : N ≤ 1048576 ∧ cap ≤ 9223372036854775807) (hcap' : N' ≤ cap') (hcm' : N' ≤ 1048576 ∧ cap' ≤ 9223372036854775807) (hb : b < w.heap.size) (hb' : b' < w.heap.size) (hn : AtomsAt w b o l) (hn' : AtomsAt w b' o' l') (hx : ∀ x ∈ l, x.text.size ≤ maxLen) (hx' : ∀ x ∈ l', x.text.size ≤ maxLen) :
    Calls Tryd.prog 8 #[.agg #[.slice (some ⟨b, o, none⟩) N cap], .agg #[.slice (some ⟨b', o', none⟩) N' cap']] w fun e w' => (∃ x, e = .returned (.int .i64 x) ∧ OrdV l l' x) ∧ Below w.heap.size w w' := by
  have HB0 := hid (below_two' w (.cells #[.slice (some ⟨b, o, none⟩) N cap] 25) (.cells #[.slice (some ⟨b', o', none⟩) N' cap'] 25))
  have HC1 : Hid (∀ W, Below w.heap.size w W → Calls Tryd.prog 9 #[.agg #[.slice (some ⟨b, o, none⟩) N cap]] W fun e w' => Says e (ValidV l) ∧ Below W.heap.size W w') := fun W hW => specValue_any b o N cap l W hl hcap hcm (by have := hW.size; omega) (hn.below hW hb) hx
  have HC2 : Hid (∀ W, Below w.heap.size w W → Calls Tryd.prog 9 #[.agg #[.slice (some ⟨b', o', none⟩) N' cap']] W fun e w' => Says e (ValidV l') ∧ Below W.heap.size W w') := fun W hW => specValue_any b' o' N' cap' l' W hl' hcap' hcm' (by have := hW.size; omega) (hn'.below hW hb') hx'
  have HC3 : Hid (∀ t t', l = flat t → l' = flat t' → OkT t → OkT t' → ∀ W, Below w.heap.size w W → Calls Tryd.prog 21 #[.agg #[.slice (some ⟨b, o, none⟩) N cap], .agg #[.slice (some ⟨b', o', none⟩) N' cap']] W fun e w' => e = .returned (.int .i64 (ord t t')) ∧ Below W.heap.size W w') := fun t t' h1 h2 h3 h4 W hW => l5Order_any N b o N cap b' o' N' cap' t t' W (Nat.le_refl _) (by rw [← h1]; exact hl) (by rw [← h2]; exact hl') hcap hcm hcap' hcm' (by have := hW.size; omega) (by have := hW.size; omega) (by rw [← h1]; exact hn.below hW hb) (by rw [← h2]; exact hn'.below hW hb') h3 h4
  have HBX : Hid (∀ W, Below (w.heap.size + 1 + 1) ((w.alloc (.cells #[.slice (some ⟨b, o, none⟩) N cap] 25)).alloc (.cells #[.slice (some ⟨b', o', none⟩) N' cap'] 25)) W → W.cell? ⟨w.heap.size, 0, none⟩ = some (.slice (some ⟨b, o, none⟩) N cap) ∧ W.cell? ⟨w.heap.size + 1, 0, none⟩ = some (.slice (some ⟨b', o', none⟩) N' cap') ∧ Below w.heap.size w W) := fun W hW => by
    refine ⟨?_, ?_, HB0.out.trans (hW.mono (by omega))⟩
    · rw [hW.cell (p := ⟨w.heap.size, 0, none⟩) (by show w.heap.size < w.heap.size + 1 + 1; omega), ((Below.refl (w.heap.size + 1) (w.alloc (.cells #[.slice (some ⟨b, o, none⟩) N cap] 25))).alloc (by simp) _).cell (p := ⟨w.heap.size, 0, none⟩) (Nat.lt_succ_self _), cell_new_row]; rfl
    · have h := cell_new_row (w.alloc (.cells #[.slice (some ⟨b, o, none⟩) N cap] 25)) #[.slice (some ⟨b', o', none⟩) N' cap'] 25 0
      rw [World.size_alloc] at h
      rw [hW.cell (p := ⟨w.heap.size + 1, 0, none⟩) (Nat.lt_succ_self _)]
      exact h
  have HBR := hid (Below.refl (w.heap.size + 1 + 1) ((w.alloc (.cells #[.slice (some ⟨b, o, none⟩) N cap] 25)).alloc (.cells #[.slice (some ⟨b', o', none⟩) N' cap'] 25)))
  clear hn hn' hx hx' hl hl'
  have HPV : Hid (¬ ValidV l → OrdV l l' 0) := fun h => .inl ⟨fun h2 => h h2.1, rfl⟩
  have HPW : Hid (¬ ValidV l' → OrdV l l' 0) := fun h => .inl ⟨fun h2 => h h2.2, rfl⟩
  have HPO : Hid (∀ t t', l = flat t → l' = flat t' → ValidV l → ValidV l' → OrdV l l' (ord t t')) := fun t t' h1 h2 h3 h4 => .inr ⟨t, t', h1, h2, h3, h4, rfl⟩
  by_cases hv : ValidV l
  · by_cases hv' : ValidV l'
    · obtain ⟨t, e1, k1, _⟩ := hv.2
      obtain ⟨t', e2, k2, _⟩ := hv'.2
      have HX := hid (HPO.out t t' e1 e2 hv hv')
      have HC4 := hid (HC3.out t t' e1 e2 k1 k2)
      clear e1 e2 k1 k2
      go_enter Tryd.func8, Tryd.ntmps8
      go_wp2_with fail
      refine (HC1.out _ HB0.out).mono ?_
      rintro e w1 ⟨hs, hb1⟩
      obtain rfl := hs.pos hv
      have HB1 := hid (HBR.out.trans (hb1.mono (by simp)))
      obtain ⟨p0, p1, hw1⟩ := HBX.out _ HB1.out
      have HW1 := hid hw1
      clear hs hb1 hw1
      go_wp2_with fail
      refine (HC2.out _ HW1.out).mono ?_
      rintro e w2 ⟨hs, hb2⟩
      obtain rfl := hs.pos hv'
      have HB2 := hid (HB1.out.trans (hb2.mono (by simpa using HB1.out.size)))
      obtain ⟨q0, q1, hw2⟩ := HBX.out _ HB2.out
      have HW2 := hid hw2
      clear hs hb2 hw2
      go_wp2_with fail
      refine (HC4.out _ HW2.out).mono ?_
      rintro e w3 ⟨rfl, hb3⟩
      have HB3 := hid (HW2.out.trans (hb3.mono HW2.out.size))
      clear hb3
      go_wp2
      go_ret
      exact ⟨⟨_, rfl, HX.out⟩, HB3.out⟩
    · have HX := hid (HPW.out hv')
      go_enter Tryd.func8, Tryd.ntmps8
      go_wp2_with fail
      refine (HC1.out _ HB0.out).mono ?_
      rintro e w1 ⟨hs, hb1⟩
      obtain rfl := hs.pos hv
      have HB1 := hid (HBR.out.trans (hb1.mono (by simp)))
      obtain ⟨p0, p1, hw1⟩ := HBX.out _ HB1.out
      have HW1 := hid hw1
      clear hs hb1 hw1
      go_wp2_with fail
      refine (HC2.out _ HW1.out).mono ?_
      rintro e w2 ⟨hs, hb2⟩
      obtain rfl := hs.neg hv'
      have HB2 := hid (HB1.out.trans (hb2.mono (by simpa using HB1.out.size)))
      obtain ⟨q0, q1, hw2⟩ := HBX.out _ HB2.out
      have HW2 := hid hw2
      clear hs hb2 hw2
      go_wp2
      go_ret
      exact ⟨⟨_, rfl, HX.out⟩, HW2.out⟩
  · have HX := hid (HPV.out hv)
    go_enter Tryd.func8, Tryd.ntmps8
    go_wp2_with fail
    refine (HC1.out _ HB0.out).mono ?_
    rintro e w1 ⟨hs, hb1⟩
    obtain rfl := hs.neg hv
    have HB1 := hid (HBR.out.trans (hb1.mono (by simp)))
    obtain ⟨p0, p1, hw1⟩ := HBX.out _ HB1.out
    have HW1 := hid hw1
    clear hs hb1 hw1
    go_wp2
    go_ret
    exact ⟨⟨_, rfl, HX.out⟩, HW1.out⟩
end Go.Proofs.YtfookokepnnmoaaDoor
