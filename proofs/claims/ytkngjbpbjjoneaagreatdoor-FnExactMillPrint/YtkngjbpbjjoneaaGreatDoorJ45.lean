import Derived.Test.YtkngjbpbjjoneaaGreatDoorJ44
import Derived.Test.YtkngjbpbjjoneaaGreatDoorJ40b
/-! Printed by gen_we.py. -/
namespace Go.Proofs.YtkngjbpbjjoneaaGreatDoor.Q
open Go.RowKit Go.Shelf
set_option maxRecDepth 20000
set_option maxHeartbeats 4000000 in
theorem wb_22 {nd : Nat → Nd} {O : List (List Nat)} {N : Nat} {pv : Nat → Value} {B b d : Nat} {j : Nat} {op ty n kids : Int} {t : ByteArray} {ks : List Nat} (C : PCtx nd O N j ⟨22, op, ty, n, t, kids⟩ ks) : CallOk 15 nd O N pv B b d (pv j) (parOf nd j) := by
  intro l W h hl
  have H := hid h
  have HC := hid C
  have hpl := (plain_22 _ _ _ _ _).1 C.plain
  have hko := (ko_22 _ _ _ _ _ _ _).1 C.kidsOk
  have hbl := h.wr.lt
  have hv := pa_22.1 (C.part h)
  rw [hv]
  clear hv
  clear h C
  obtain ⟨rfl, rfl, hnm, hty1, hty2⟩ := hpl
  have hts : t.size ≤ 30 := by obtain ⟨_, h2, _⟩ := hnm; exact h2
  clear hnm hko
  obtain ⟨P, rfl⟩ := Int.eq_ofNat_of_zero_le (show 0 ≤ ty by omega)
  have i1 : (P : Int) < 11 := by omega
  have i0 : (0 : Int) ≤ (P : Int) := by omega
  have HT : Hid (parOf nd j = t.data.toList ++ [32] ++ twB (P : Int)) := by show parOf nd j = _; unfold parOf; rw [HC.out.hx]
  rw [HT.out] at hl ⊢
  simp only [List.length_append, List.length_cons, List.length_nil, len_size] at hl
  obtain ⟨Y, hY⟩ : ∃ Y : ByteArray, (⟨(twB (P : Int)).toArray⟩ : ByteArray) = Y := ⟨_, rfl⟩
  have HY : Hid (Y.data.toList = twB (P : Int)) := by show _ = _; rw [← hY]
  have HEN : Hid (∀ V, EnvP V → V.cell? ⟨0, P, none⟩ = some (.string Y)) := fun V hV => by rw [← hY]; exact hV.tw P (by omega) (by omega)
  have hYs : Y.size ≤ 4 := by rw [← len_size, HY.out]; exact twB_len _
  clear hY
  have H0 := hid (H.out.next ((Below.refl W.heap.size W).alloc (Nat.le_refl _) (.cells #[.string t, .int .i64 (P : Int)] 87)))
  have HK0 := hid (Wk.refl B b (W.alloc (.cells #[.string t, .int .i64 (P : Int)] 87)))
  have HX : Hid (∀ V, Wk B b (W.alloc (.cells #[.string t, .int .i64 (P : Int)] 87)) V → V.cell? ⟨W.heap.size, 0, none⟩ = some (.string t) ∧ V.cell? ⟨W.heap.size, 1, none⟩ = some (.int .i64 (P : Int))) := fun V h => ⟨box_keep (by decide) hbl h 0, box_keep (by decide) hbl h 1⟩
  have HWK : Hid (∀ V, Wk B b (W.alloc (.cells #[.string t, .int .i64 (P : Int)] 87)) V → Wk B b W V) := fun V h => (Wk.of_below ((Below.refl W.heap.size W).alloc (Nat.le_refl _) (.cells #[.string t, .int .i64 (P : Int)] 87))).trans h
  have t24 := fun (v : Value) (W : World) => tn_24 87 v W (by decide)
  have t23 := fun (v : Value) (W : World) => tn_23 87 v W (by decide)
  have t22 := ta_22
  go_enter Tryz.func15, Tryz.ntmps15
  go_wp2_with fail
  refine (lenS _ H.out).mono ?_
  rintro e w1 ⟨⟨nl, rfl, hn⟩, hw1⟩
  have e1 := hw1.symm
  subst e1
  by_cases h12 : 12000 < nl
  · have HS := hid (hn h12 (t.data.toList ++ [32] ++ twB (P : Int)))
    have h12' : (12000 : Int) < (nl : Int) := by omega
    clear hn
    go_wp2
    go_end0
    exact ⟨rfl, HS.out, Wk.refl _ _ _⟩
  have h12' : (nl : Int) ≤ 12000 := by omega
  clear hn h12
  go_wp2_with fail
  obtain ⟨w0, hw0⟩ : ∃ w0, W.alloc (.cells #[.string t, .int .i64 (P : Int)] 87) = w0 := ⟨_, rfl⟩
  obtain ⟨gx, hgx⟩ : ∃ gx, W.heap.size = gx := ⟨_, rfl⟩
  have HGX := hid hgx
  have HW0 := hid hw0
  have hgl0 : gx < w0.heap.size := by rw [← hw0, ← hgx]; simp
  rw [hw0] at H0 HK0 HX HWK
  rw [hgx] at HX
  rw [hw0, hgx]
  clear hw0 hgx
  have HD0 := hid (H0.out.next (Below.refl (w0).heap.size (w0)).drew)
  have HKD0 := hid (HK0.out.trans (Wk.of_below (Below.refl (w0).heap.size (w0)).drew))
  have HKA0 := hid (fun X => HK0.out.trans (Wk.of_below (((Below.refl (w0).heap.size (w0)).alloc (Nat.le_refl _) X).drew)))
  have HSA0 := hid (fun X => H0.out.next (((Below.refl (w0).heap.size (w0)).alloc (Nat.le_refl _) X).drew))
  go_region_held3 (fun V => (V.cell? ⟨gx, 0, none⟩ = some (.string t) ∧ V.cell? ⟨gx, 1, none⟩ = some (.int .i64 (P : Int))) ∧ V.cell? ⟨0, P, none⟩ = some (.string Y)) (first | (exact ⟨HX.out _ HK1.out, HEN.out _ (H1.out).env⟩) | (exact ⟨HX.out _ (HKB0.out _), HEN.out _ (HSB0.out _).env⟩) | (exact ⟨HX.out _ HKM0.out, HEN.out _ (HM0.out).env⟩) | (exact ⟨HX.out _ (HKA0.out _), HEN.out _ (HSA0.out _).env⟩) | (exact ⟨HX.out _ HKD0.out, HEN.out _ (HD0.out).env⟩) | go_keep) (first
    | (go_at_call 30; refine (put3S t ⟨#[32]⟩ Y _ HD0.out (by show _ + (_ + 1 + _) ≤ _; omega)).mono ?_; rintro e w1 ⟨rfl, hs, hk⟩; have H1 := hid hs; have HK1 := hid (HKD0.out.trans hk); clear hs hk)
    | fail)
  go_wp2
  go_end0
  exact ⟨rfl, by have := H1.out; simpa [HY.out] using this, HWK.out _ HK1.out⟩
end Go.Proofs.YtkngjbpbjjoneaaGreatDoor.Q
/-! Printed by gen_we.py. -/
namespace Go.Proofs.YtkngjbpbjjoneaaGreatDoor.Q
open Go.RowKit Go.Shelf
set_option maxRecDepth 20000
set_option maxHeartbeats 4000000 in
theorem wb_23 {nd : Nat → Nd} {O : List (List Nat)} {N : Nat} {pv : Nat → Value} {B b : Nat} {j : Nat} {op ty n kids : Int} {t : ByteArray} {ks : List Nat} (C : PCtx nd O N j ⟨23, op, ty, n, t, kids⟩ ks) (hW : ∀ k ∈ ks, WriteOk nd O N pv B b 0 (pv k) (txt nd O 0 k)) : CallOk 15 nd O N pv B b 0 (pv j) (fnT nd O j) := by
  intro l W h hl
  have H := hid h
  have HC := hid C
  obtain ⟨rfl, rfl, hnm, hty1, hty2⟩ := (plain_23 _ _ _ _ _).1 C.plain
  obtain ⟨hm1, hm9, hpar, hlast⟩ := (ko_23 _ _ _ _ _ _ _).1 C.kidsOk
  have hbl := h.wr.lt
  have hts : t.size ≤ 30 := by obtain ⟨_, h2, _⟩ := hnm; exact h2
  obtain ⟨ad, cap, hv, hrow⟩ := pa_23.1 (C.part h)
  have hif := C.ifs h
  obtain ⟨m, hm⟩ : ∃ m, ks.length = m + 1 := ⟨ks.length - 1, by omega⟩
  rw [hm, Nat.add_sub_cancel] at hv hlast
  obtain ⟨Tl, yl, el⟩ := hif.get m (by omega)
  rw [el] at hv
  rw [hv]
  have hme : ks.getD m 0 ∈ ks := getD_mem (by omega)
  have HWL := hid (hW _ hme)
  rw [txt_21 hlast, el] at HWL
  have HPW : Hid (∀ k ∈ ks.take m, WriteOk nd O N pv B b 0 (pv k) (parOf nd k)) := fun k hk => by
    have h2 := hW k (List.mem_of_mem_take hk)
    obtain ⟨i, hi, e⟩ := mem_getD hk
    rw [List.length_take] at hi
    have e2 : ks.getD i 0 = k := by rw [← e, List.getD_eq_getElem?_getD, List.getD_eq_getElem?_getD, List.getElem?_take_of_lt (by omega)]
    have h3 := hpar i (by omega)
    rw [e2] at h3
    rw [txt_22 h3] at h2
    exact h2
  have HPR : Hid (RowP (fun _ => True) W ad ((ks.take m).map pv)) := by
    rcases hrow with h0 | ⟨g, h1, h2, h3, h4⟩
    · exact .inl (by rw [List.map_take, h0]; simp)
    · refine .inr ⟨g, h1, h2, h3, fun i u hi => h4 i u ?_⟩
      rw [List.map_take] at hi
      have hil := (List.getElem?_eq_some_iff.1 hi).1
      rw [List.length_take] at hil
      rwa [List.getElem?_take_of_lt (by omega)] at hi
  have HPI : Hid (Ifs (ks.take m) pv) := fun k hk => hif k (List.mem_of_mem_take hk)
  have HML : Hid ((ks.take m).length = m) := by show _ = _; rw [List.length_take]; omega
  have HTT : Hid (fnT nd O j = [102, 110, 32] ++ t.data.toList ++ [40] ++ joinOf (parOf nd) (ks.take m) ++ [41] ++ (if ty = 0 then [] else [32, 45, 62, 32] ++ twB ty) ++ [32] ++ bodyOf O (svS nd O) 0 (ks.getD m 0)) := by
    have e1 : ks.drop (ks.length - 1) = [ks.getD m 0] := by
      rw [hm, Nat.add_sub_cancel, List.drop_eq_getElem_cons (by omega), List.drop_of_length_le (by omega), List.getD_eq_getElem?_getD, List.getElem?_eq_getElem (by omega)]; rfl
    show fnT nd O j = _
    unfold fnT
    rw [C.hks, C.hx, e1, hm, Nat.add_sub_cancel]
    simp
  have hm8 : m ≤ 8 := by omega
  clear h C hv hrow hif el hnm hpar hlast hme hm hm1 hm9 hW
  generalize bodyOf O (svS nd O) 0 (ks.getD m 0) = Tb at *
  obtain ⟨P, rfl⟩ := Int.eq_ofNat_of_zero_le hty1
  rw [HTT.out] at hl
  have H0 := hid (H.out.next ((Below.refl W.heap.size W).alloc (Nat.le_refl _) (.cells #[.string t, .int .i64 (P : Int), .slice ad m cap, .iface Tl yl] 81)))
  have HK0 := hid (Wk.refl B b (W.alloc (.cells #[.string t, .int .i64 (P : Int), .slice ad m cap, .iface Tl yl] 81)))
  have HX : Hid (∀ V, Wk B b (W.alloc (.cells #[.string t, .int .i64 (P : Int), .slice ad m cap, .iface Tl yl] 81)) V → V.cell? ⟨W.heap.size, 0, none⟩ = some (.string t) ∧ V.cell? ⟨W.heap.size, 1, none⟩ = some (.int .i64 (P : Int)) ∧ V.cell? ⟨W.heap.size, 2, none⟩ = some (.slice ad m cap) ∧ V.cell? ⟨W.heap.size, 3, none⟩ = some (.iface Tl yl)) := fun V h => ⟨box_keep (by decide) hbl h 0, box_keep (by decide) hbl h 1, box_keep (by decide) hbl h 2, box_keep (by decide) hbl h 3⟩
  have HWK : Hid (∀ V, Wk B b (W.alloc (.cells #[.string t, .int .i64 (P : Int), .slice ad m cap, .iface Tl yl] 81)) V → Wk B b W V) := fun V h => (Wk.of_below ((Below.refl W.heap.size W).alloc (Nat.le_refl _) (.cells #[.string t, .int .i64 (P : Int), .slice ad m cap, .iface Tl yl] 81))).trans h
  have t24 := fun (v : Value) (W : World) => tn_24 81 v W (by decide)
  have t23 := ta_23
  go_enter Tryz.func15, Tryz.ntmps15
  go_wp2_with fail
  refine (lenS _ H.out).mono ?_
  rintro e w1 ⟨⟨nl, rfl, hn⟩, hw1⟩
  have e1 := hw1.symm
  subst e1
  by_cases h12 : 12000 < nl
  · have HS := hid (hn h12 (fnT nd O j))
    have h12' : (12000 : Int) < (nl : Int) := by omega
    clear hn
    go_wp2
    go_end0
    exact ⟨rfl, HS.out, Wk.refl _ _ _⟩
  have h12' : (nl : Int) ≤ 12000 := by omega
  clear hn h12
  go_wp2_with fail
  obtain ⟨w0, hw0⟩ : ∃ w0, W.alloc (.cells #[.string t, .int .i64 (P : Int), .slice ad m cap, .iface Tl yl] 81) = w0 := ⟨_, rfl⟩
  obtain ⟨gx, hgx⟩ : ∃ gx, W.heap.size = gx := ⟨_, rfl⟩
  have HGX := hid hgx
  have HW0 := hid hw0
  have hgl0 : gx < w0.heap.size := by rw [← hw0, ← hgx]; simp
  rw [hw0] at H0 HK0 HX HWK
  rw [hgx] at HX
  rw [hw0, hgx]
  clear hw0 hgx
  have HL0 : Hid (l.length + 3 + t.size + (joinOf (parOf nd) (ks.take m)).length + 2 + 1 + Tb.length ≤ 100000000000) := by
    show _ ≤ _
    simp only [List.length_append, List.length_cons, List.length_nil, len_size] at hl
    omega
  have hl0 := HL0.out
  have HD0 := hid (H0.out.next (Below.refl (w0).heap.size (w0)).drew)
  have HKD0 := hid (HK0.out.trans (Wk.of_below (Below.refl (w0).heap.size (w0)).drew))
  have HKA0 := hid (fun X => HK0.out.trans (Wk.of_below (((Below.refl (w0).heap.size (w0)).alloc (Nat.le_refl _) X).drew)))
  have HSA0 := hid (fun X => H0.out.next (((Below.refl (w0).heap.size (w0)).alloc (Nat.le_refl _) X).drew))
  go_region_held3 (fun V => V.cell? ⟨gx, 0, none⟩ = some (.string t) ∧ V.cell? ⟨gx, 1, none⟩ = some (.int .i64 (P : Int)) ∧ V.cell? ⟨gx, 2, none⟩ = some (.slice ad m cap) ∧ V.cell? ⟨gx, 3, none⟩ = some (.iface Tl yl)) (first | (exact HX.out _ HK1.out) | (exact HX.out _ (HKB0.out _)) | (exact HX.out _ HKM0.out) | (exact HX.out _ (HKA0.out _)) | (exact HX.out _ HKD0.out) | go_keep) (first
    | (go_at_call 30; refine (put2S ⟨#[102, 110, 32]⟩ t _ HD0.out (by show _ + (3 + _) ≤ _; omega)).mono ?_; rintro e w1 ⟨rfl, hs, hk⟩; have H1 := hid hs; have HK1 := hid (HKD0.out.trans hk); clear hs hk)
    | fail)
  have HBR := hid (bracketed_any (parOf nd) (ks.take m) ad cap w1 H1.out ((HPR.out.below (by rw [← HW0.out]; exact (Below.refl W.heap.size W).alloc (Nat.le_refl _) _ : Below W.heap.size W w0)).wk HK1.out H0.out.wr.blk) HPI.out (by rw [HML.out]; omega) HPW.out (by simp only [List.length_append, len_size]; show _ + (3 + _) + _ + 2 ≤ _; omega))
  rw [HML.out] at HBR
  obtain ⟨x0, x1, x2, x3⟩ := HX.out _ HK1.out
  go_wp2_with fail
  refine HBR.out.mono ?_
  rintro e w2 ⟨rfl, hs, hk⟩
  have H2 := hid hs
  have HK2 := hid (HK1.out.trans hk)
  clear hs hk
  clear x0 x1 x2 x3 HBR
  obtain ⟨x0, x1, x2, x3⟩ := HX.out _ HK2.out
  by_cases hP0 : P = 0
  · subst hP0
    have x1' : w2.cell? ⟨gx, 1, none⟩ = some (.int .i64 0) := x1
    clear x1
    rw [if_pos (show ((0 : Nat) : Int) = 0 from rfl)] at HTT hl
    go_wp2_with fail
    refine (put1S ⟨#[32]⟩ w2 H2.out (by simp only [List.length_append, List.length_cons, List.length_nil, len_size]; show _ + 1 ≤ _; omega)).mono ?_
    rintro e w3 ⟨rfl, hs, hk⟩
    have H3 := hid hs
    have HK3 := hid (HK2.out.trans hk)
    clear hs hk
    obtain ⟨x0, x1, x2, x3⟩ := HX.out _ HK3.out
    go_wp2_with fail
    refine (HWL.out _ _ H3.out (by simp only [List.length_append, List.length_cons, List.length_nil, len_size]; show _ + 1 + _ ≤ _; omega)).mono ?_
    rintro e w4 ⟨rfl, hs, hk⟩
    have H4 := hid hs
    have HK4 := hid (HK3.out.trans hk)
    clear hs hk
    go_wp2
    go_end0
    exact ⟨rfl, by have := H4.out; rw [HTT.out]; simpa using this, HWK.out _ HK4.out⟩
  · have hPn : ((P : Int) == 0) = false := by simpa using hP0
    rw [if_neg (by omega)] at HTT hl
    simp only [List.length_append, List.length_cons, List.length_nil, len_size] at hl
    have i1 : (P : Int) < 11 := by omega
    have i0 : (0 : Int) ≤ (P : Int) := by omega
    obtain ⟨Y, hY⟩ : ∃ Y : ByteArray, (⟨(twB (P : Int)).toArray⟩ : ByteArray) = Y := ⟨_, rfl⟩
    have HY : Hid (Y.data.toList = twB (P : Int)) := by show _ = _; rw [← hY]
    have HEN : Hid (∀ V, EnvP V → V.cell? ⟨0, P, none⟩ = some (.string Y)) := fun V hV => by rw [← hY]; exact hV.tw P (by omega) (by omega)
    have hYs : Y.size ≤ 4 := by rw [← len_size, HY.out]; exact twB_len _
    clear hY
    clear hP0
    go_wp2_with fail
    clear x0 x1 x2 x3
    have HD2 := hid (H2.out.next (Below.refl (w2).heap.size (w2)).drew)
    have HKD2 := hid (HK2.out.trans (Wk.of_below (Below.refl (w2).heap.size (w2)).drew))
    have HKA2 := hid (fun X => HK2.out.trans (Wk.of_below (((Below.refl (w2).heap.size (w2)).alloc (Nat.le_refl _) X).drew)))
    have HSA2 := hid (fun X => H2.out.next (((Below.refl (w2).heap.size (w2)).alloc (Nat.le_refl _) X).drew))
    go_region_held3 (fun V => (V.cell? ⟨gx, 0, none⟩ = some (.string t) ∧ V.cell? ⟨gx, 1, none⟩ = some (.int .i64 (P : Int)) ∧ V.cell? ⟨gx, 2, none⟩ = some (.slice ad m cap) ∧ V.cell? ⟨gx, 3, none⟩ = some (.iface Tl yl)) ∧ V.cell? ⟨0, P, none⟩ = some (.string Y)) (first | (exact ⟨HX.out _ HK3.out, HEN.out _ (H3.out).env⟩) | (exact ⟨HX.out _ (HKB2.out _), HEN.out _ (HSB2.out _).env⟩) | (exact ⟨HX.out _ HKM2.out, HEN.out _ (HM2.out).env⟩) | (exact ⟨HX.out _ (HKA2.out _), HEN.out _ (HSA2.out _).env⟩) | (exact ⟨HX.out _ HKD2.out, HEN.out _ (HD2.out).env⟩) | go_keep) (first
      | (go_at_call 30; refine (put2S ⟨#[32, 45, 62, 32]⟩ Y _ HD2.out (by simp only [List.length_append, List.length_cons, List.length_nil, len_size]; show _ + (4 + _) ≤ _; omega)).mono ?_; rintro e w3 ⟨rfl, hs, hk⟩; have H3 := hid hs; have HK3 := hid (HKD2.out.trans hk); clear hs hk)
      | fail)
    go_wp2_with fail
    refine (put1S ⟨#[32]⟩ w3 H3.out (by simp only [List.length_append, List.length_cons, List.length_nil, len_size, HY.out]; show _ + 1 ≤ _; omega)).mono ?_
    rintro e w4 ⟨rfl, hs, hk⟩
    have H4 := hid hs
    have HK4 := hid (HK3.out.trans hk)
    clear hs hk
    obtain ⟨x0, x1, x2, x3⟩ := HX.out _ HK4.out
    go_wp2_with fail
    refine (HWL.out _ _ H4.out (by simp only [List.length_append, List.length_cons, List.length_nil, len_size, HY.out]; show _ + 1 + _ ≤ _; omega)).mono ?_
    rintro e w5 ⟨rfl, hs, hk⟩
    have H5 := hid hs
    have HK5 := hid (HK4.out.trans hk)
    clear hs hk
    go_wp2
    go_end0
    exact ⟨rfl, by have := H5.out; rw [HTT.out]; simpa [HY.out] using this, HWK.out _ HK5.out⟩
end Go.Proofs.YtkngjbpbjjoneaaGreatDoor.Q
/-! Printed by gen_we.py. -/
namespace Go.Proofs.YtkngjbpbjjoneaaGreatDoor.Q
open Go.RowKit Go.Shelf
set_option maxRecDepth 20000
set_option maxHeartbeats 4000000 in
theorem wb_24 {nd : Nat → Nd} {O : List (List Nat)} {N : Nat} {pv : Nat → Value} {B b d : Nat} {j : Nat} {op ty n kids : Int} {t : ByteArray} {ks : List Nat} (C : PCtx nd O N j ⟨24, op, ty, n, t, kids⟩ ks) (hW : ∀ k ∈ ks, WriteOk nd O N pv B b d (pv k) (fnT nd O k)) : CallOk 15 nd O N pv B b d (pv j) (progT nd O ks) := by
  intro l W h hl
  have H := hid h
  have HC := hid C
  have hpl := (plain_24 _ _ _ _ _).1 C.plain
  have hko := (ko_24 _ _ _ _ _ _ _).1 C.kidsOk
  have hbl := h.wr.lt
  obtain ⟨ad, cap, hv, hrow⟩ := pa_24.1 (C.part h)
  have HROW := hid hrow
  have HIF := hid (C.ifs h)
  clear hrow
  rw [hv]
  clear hv
  clear h C
  obtain ⟨_, hm60, _⟩ := hko
  clear hpl
  have HW := hid hW
  clear hW
  have H0 := hid (H.out.next ((Below.refl W.heap.size W).alloc (Nat.le_refl _) (.cells #[.slice ad ks.length cap] 78)))
  have HK0 := hid (Wk.refl B b (W.alloc (.cells #[.slice ad ks.length cap] 78)))
  have HX : Hid (∀ V, Wk B b (W.alloc (.cells #[.slice ad ks.length cap] 78)) V → V.cell? ⟨W.heap.size, 0, none⟩ = some (.slice ad ks.length cap)) := fun V h => box_keep (by decide) hbl h 0
  have HWK : Hid (∀ V, Wk B b (W.alloc (.cells #[.slice ad ks.length cap] 78)) V → Wk B b W V) := fun V h => (Wk.of_below ((Below.refl W.heap.size W).alloc (Nat.le_refl _) (.cells #[.slice ad ks.length cap] 78))).trans h
  have t24 := ta_24
  go_enter Tryz.func15, Tryz.ntmps15
  go_wp2_with fail
  refine (lenS _ H.out).mono ?_
  rintro e w1 ⟨⟨nl, rfl, hn⟩, hw1⟩
  have e1 := hw1.symm
  subst e1
  by_cases h12 : 12000 < nl
  · have HS := hid (hn h12 (progT nd O ks))
    have h12' : (12000 : Int) < (nl : Int) := by omega
    clear hn
    go_wp2
    go_end0
    exact ⟨rfl, HS.out, Wk.refl _ _ _⟩
  have h12' : (nl : Int) ≤ 12000 := by omega
  clear hn h12
  go_wp2_with fail
  obtain ⟨w0, hw0⟩ : ∃ w0, W.alloc (.cells #[.slice ad ks.length cap] 78) = w0 := ⟨_, rfl⟩
  obtain ⟨gx, hgx⟩ : ∃ gx, W.heap.size = gx := ⟨_, rfl⟩
  have HGX := hid hgx
  have HW0 := hid hw0
  have hgl0 : gx < w0.heap.size := by rw [← hw0, ← hgx]; simp
  rw [hw0] at H0 HK0 HX HWK
  rw [hgx] at HX
  rw [hw0, hgx]
  clear hw0 hgx
  have HRW := hid (HROW.out.below (by rw [← HW0.out]; exact (Below.refl W.heap.size W).alloc (Nat.le_refl _) _ : Below W.heap.size W w0))
  have HLE : Hid (∀ q, (progT nd O (ks.take q)).length ≤ (progT nd O ks).length) := fun q => by
    have e : progT nd O ks = progT nd O (ks.take q) ++ progT nd O (ks.drop q) := by unfold progT; rw [← List.flatMap_append, List.take_append_drop]
    rw [e, List.length_append]
    omega
  go_loopw [29] (fun a wr => ∃ q : Nat, q ≤ ks.length ∧ a = .int .i64 q ∧ St nd O N pv B b d (l ++ progT nd O (ks.take q)) wr ∧ Wk B b w0 wr) (fun a _ => ks.length - (intOf a).toNat)
  case atStart => exact ⟨0, Nat.zero_le _, rfl, by simpa [progT] using H0.out, Wk.refl _ _ _⟩
  case round =>
    obtain ⟨q, hq, rfl, hs, hk⟩ := hrel
    have HS := hid hs
    have HK := hid hk
    have hll := HLE.out q
    clear hs hk
    by_cases hlt : q < ks.length
    · obtain ⟨g, rfl, hgl, hcell⟩ := (HRW.out.wk HK.out H0.out.wr.blk).get (by omega)
      have c0 := hcell q hlt
      have e : ks.getD q 0 = ks[q] := by rw [List.getD_eq_getElem?_getD, List.getElem?_eq_getElem hlt]; rfl
      rw [e] at c0
      have HJ := hid (progT_snoc nd O (ks.take q) ks[q])
      rw [← List.take_succ_eq_append_getElem hlt] at HJ
      have HN1 := hid (HLE.out (q + 1))
      rw [HJ.out] at HN1
      have HWQ := hid (HW.out ks[q] (List.getElem_mem hlt))
      obtain ⟨T, y, hv⟩ := HIF.out ks[q] (List.getElem_mem hlt)
      generalize ks[q] = k at *
      rw [hv] at c0 HWQ
      clear hcell e hv
      obtain ⟨Q, hQ⟩ : ∃ Q, progT nd O (ks.take q) = Q := ⟨_, rfl⟩
      rw [hQ] at HS hll HJ HN1
      clear hQ
      have hn1 := HN1.out
      simp only [List.length_append, List.length_cons, List.length_nil] at hn1
      go_wp2_with fail
      refine (HWQ.out _ _ HS.out (by rw [List.length_append]; omega)).mono ?_
      rintro e w2 ⟨rfl, hs2, hk2⟩
      have H2 := hid hs2
      have HK2 := hid (HK.out.trans hk2)
      clear hs2 hk2
      go_wp2_with fail
      refine (put1S ⟨#[10]⟩ w2 H2.out (by simp only [List.length_append]; show _ + _ + _ + 1 ≤ _; omega)).mono ?_
      rintro e w3 ⟨rfl, hs3, hk3⟩
      have H3 := hid hs3
      have HK3 := hid (HK2.out.trans hk3)
      clear hs3 hk3
      go_wp2
      go_roundw
      case rel => exact ⟨q + 1, by omega, by go_num, by rw [HJ.out]; have := H3.out; simpa using this, HK3.out⟩
      case measure => simp [intOf]; omega
    · obtain rfl : q = ks.length := by omega
      have HT : Hid (ks.take ks.length = ks) := List.take_of_length_le (Nat.le_refl _)
      rw [HT.out] at HS
      go_wp2
      go_end0
      exact ⟨rfl, HS.out, HWK.out _ HK.out⟩
end Go.Proofs.YtkngjbpbjjoneaaGreatDoor.Q
/-! Printed by gen_we.py. -/
namespace Go.Proofs.YtkngjbpbjjoneaaGreatDoor.Q
open Go.RowKit Go.Shelf
set_option maxRecDepth 20000
set_option maxHeartbeats 4000000 in
theorem ws_10 {nd : Nat → Nd} {O : List (List Nat)} {N : Nat} {pv : Nat → Value} {B b d : Nat} {j : Nat} {op ty n kids : Int} {t : ByteArray} {ks : List Nat} (C : PCtx nd O N j ⟨10, op, ty, n, t, kids⟩ ks) (hW : ∀ k ∈ ks, WriteOk nd O N pv B b d (pv k) (txt nd O d k)) : CallOk 33 nd O N pv B b d (pv j) (svS nd O d j) := by
  intro l W h hl
  have H := hid h
  have HC := hid C
  have hpl := (plain_10 _ _ _ _ _).1 C.plain
  have hko := (ko_10 _ _ _ _ _ _ _).1 C.kidsOk
  have hbl := h.wr.lt
  have hv := pa_10.1 (C.part h)
  have hif := C.ifs h
  obtain ⟨a, rfl⟩ := List.length_eq_one_iff.1 hko.1
  obtain ⟨T0, y0, e0⟩ : ∃ T y, pv a = .iface T y := hif a (by simp)
  have E0 := hid e0
  have hv2 : pv j = .iface 119 (.agg #[.string t, .iface T0 y0]) := by rw [hv]; show _ = _; rw [← e0]; rfl
  rw [hv2]
  clear hif hv hv2 e0
  clear h C
  obtain ⟨rfl, rfl, rfl, hnm⟩ := hpl
  have hts : t.size ≤ 30 := by obtain ⟨_, h2, _⟩ := hnm; exact h2
  have HWa := hid (hW a (by simp))
  rw [txt_E (by have := hko.2 0 (by simp); exact this)] at HWa
  clear hnm hko
  have HT : Hid (svS nd O d j = [108, 101, 116, 32] ++ t.data.toList ++ [32, 61, 32] ++ tvE nd O a ++ [59]) := HC.out.sv d |>.trans (by unfold sOf; rw [HC.out.hks, HC.out.hx]; simp)
  rw [HT.out] at hl ⊢
  simp only [List.length_append, List.length_cons, List.length_nil, len_size] at hl
  have HEN := hid (fun (V : World) (hV : St nd O N pv B b d l V) => ended1 (T := tvE nd O a) (⟨#[108, 101, 116, 32]⟩ ++ t ++ ⟨#[32, 61, 32]⟩) a V hV ⟨_, _, E0.out⟩ HWa.out (by simp only [ByteArray.size_append]; show _ + (4 + _ + 3) + _ + 1 ≤ _; omega))
  rw [E0.out] at HEN
  have k0 : ¬ (9223372036854775807 < 4 + t.size) := by omega
  have k1 : ¬ (9223372036854775807 < 4 + t.size + 3) := by omega
  have H0 := hid (H.out.next ((Below.refl W.heap.size W).alloc (Nat.le_refl _) (.cells #[.string t, .iface T0 y0] 119)))
  have HK0 := hid (Wk.refl B b (W.alloc (.cells #[.string t, .iface T0 y0] 119)))
  have HX : Hid (∀ V, Wk B b (W.alloc (.cells #[.string t, .iface T0 y0] 119)) V → V.cell? ⟨W.heap.size, 0, none⟩ = some (.string t) ∧ V.cell? ⟨W.heap.size, 1, none⟩ = some (.iface T0 y0)) := fun V h => ⟨box_keep (by decide) hbl h 0, box_keep (by decide) hbl h 1⟩
  have HWK : Hid (∀ V, Wk B b (W.alloc (.cells #[.string t, .iface T0 y0] 119)) V → Wk B b W V) := fun V h => (Wk.of_below ((Below.refl W.heap.size W).alloc (Nat.le_refl _) (.cells #[.string t, .iface T0 y0] 119))).trans h
  have t10 := ta_10
  go_enter Tryz.func33, Tryz.ntmps33
  go_wp2_with fail
  obtain ⟨w0, hw0⟩ : ∃ w0, W.alloc (.cells #[.string t, .iface T0 y0] 119) = w0 := ⟨_, rfl⟩
  obtain ⟨gx, hgx⟩ : ∃ gx, W.heap.size = gx := ⟨_, rfl⟩
  have HGX := hid hgx
  have HW0 := hid hw0
  have hgl0 : gx < w0.heap.size := by rw [← hw0, ← hgx]; simp
  rw [hw0] at H0 HK0 HX HWK
  rw [hgx] at HX
  rw [hw0, hgx]
  clear hw0 hgx
  try rw [show gx + 1 = w0.heap.size by rw [← HW0.out, World.size_alloc, HGX.out]]
  refine (HEN.out _ H0.out).mono ?_
  rintro e w1 ⟨rfl, hs, hk⟩
  have H1 := hid hs
  have HK1 := hid (HK0.out.trans hk)
  clear hs hk
  go_wp2
  go_end0
  exact ⟨rfl, by have := H1.out; simpa using this, HWK.out _ HK1.out⟩
end Go.Proofs.YtkngjbpbjjoneaaGreatDoor.Q
