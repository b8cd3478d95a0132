import Derived.Test.YtkngjbpbjjoneaaGreatDoorJ42
import Derived.Test.YtkngjbpbjjoneaaGreatDoorJ13
/-! Printed by gen_we.py. -/
namespace Go.Proofs.YtkngjbpbjjoneaaGreatDoor.Q
open Go.RowKit Go.Shelf
set_option maxRecDepth 20000
set_option maxHeartbeats 4000000 in
theorem we_5 {nd : Nat → Nd} {O : List (List Nat)} {N : Nat} {pv : Nat → Value} {B b d : Nat} {j : Nat} {op ty n kids : Int} {t : ByteArray} {ks : List Nat} (C : PCtx nd O N j ⟨5, op, ty, n, t, kids⟩ ks) (hW : ∀ k ∈ ks, WriteOk nd O N pv B b d (pv k) (tvE nd O k)) : CallOk 58 nd O N pv B b d (pv j) (tvE nd O j) := by
  intro l W h hl
  have H := hid h
  have HC := hid C
  have hpl := (plain_5 _ _ _ _ _).1 C.plain
  have hko := (ko_5 _ _ _ _ _ _ _).1 C.kidsOk
  have hbl := h.wr.lt
  have hv := pa_5.1 (C.part h)
  have hif := C.ifs h
  obtain ⟨a, rfl⟩ := List.length_eq_one_iff.1 hko.1
  obtain ⟨T0, y0, e0⟩ : ∃ T y, pv a = .iface T y := hif a (by simp)
  have E0 := hid e0
  have hv2 : pv j = .iface 147 (.agg #[.int .i64 op, .iface T0 y0]) := by rw [hv]; show _ = _; rw [← e0]; rfl
  rw [hv2]
  clear hif hv hv2 e0
  clear h C
  obtain ⟨rfl, rfl, _, hop1, hop2⟩ := hpl
  have HH0 := hid (heldW_any (d := d) HC.out.good (k := a) (by have := HC.out.lt (a := a) (by simp); have := HC.out.hj; omega) (by have := hko.2 0 (by simp); exact this) (hW a (by simp)))
  rw [E0.out] at HH0
  clear hko
  obtain ⟨P, rfl⟩ := Int.eq_ofNat_of_zero_le (show 0 ≤ op by omega)
  have HT : Hid (tvE nd O j = unB (P : Int) ++ heldOf nd (tvE nd O) a) := HC.out.tv.trans (by simp [eOf])
  rw [HT.out] at hl ⊢
  rw [List.length_append] at hl
  have i1 : (P : Int) < 4 := by omega
  have i0 : (0 : Int) ≤ (P : Int) := by omega
  have H0 := hid (H.out.next ((Below.refl W.heap.size W).alloc (Nat.le_refl _) (.cells #[.int .i64 (P : Int), .iface T0 y0] 147)))
  have HK0 := hid (Wk.refl B b (W.alloc (.cells #[.int .i64 (P : Int), .iface T0 y0] 147)))
  have HX : Hid (∀ V, Wk B b (W.alloc (.cells #[.int .i64 (P : Int), .iface T0 y0] 147)) V → V.cell? ⟨W.heap.size, 0, none⟩ = some (.int .i64 (P : Int)) ∧ V.cell? ⟨W.heap.size, 1, none⟩ = some (.iface T0 y0)) := fun V h => ⟨box_keep (by decide) hbl h 0, box_keep (by decide) hbl h 1⟩
  have HWK : Hid (∀ V, Wk B b (W.alloc (.cells #[.int .i64 (P : Int), .iface T0 y0] 147)) V → Wk B b W V) := fun V h => (Wk.of_below ((Below.refl W.heap.size W).alloc (Nat.le_refl _) (.cells #[.int .i64 (P : Int), .iface T0 y0] 147))).trans h
  obtain ⟨Y, hY⟩ : ∃ Y : ByteArray, (⟨(unB (P : Int)).toArray⟩ : ByteArray) = Y := ⟨_, rfl⟩
  have HY : Hid (Y.data.toList = unB (P : Int)) := by show _ = _; rw [← hY]
  have HEN : Hid (∀ V, EnvP V → V.cell? ⟨2, P, none⟩ = some (.string Y)) := fun V hV => by rw [← hY]; exact hV.um P (by omega) (by omega)
  have hYs : Y.size ≤ 4 := by rw [← len_size, HY.out]; exact by rw [unB_len]; omega
  clear hY
  have t1 := fun (v : Value) (W : World) => tn_1 147 v W (by decide)
  have t2 := fun (v : Value) (W : World) => tn_2 147 v W (by decide)
  have t3 := fun (v : Value) (W : World) => tn_3 147 v W (by decide)
  have t4 := fun (v : Value) (W : World) => tn_4 147 v W (by decide)
  have t5 := ta_5
  go_enter Tryz.func58, Tryz.ntmps58
  go_wp2_with fail
  obtain ⟨w0, hw0⟩ : ∃ w0, W.alloc (.cells #[.int .i64 (P : Int), .iface T0 y0] 147) = w0 := ⟨_, rfl⟩
  obtain ⟨gx, hgx⟩ : ∃ gx, W.heap.size = gx := ⟨_, rfl⟩
  have HGX := hid hgx
  have HW0 := hid hw0
  have hgl0 : gx < w0.heap.size := by rw [← hw0, ← hgx]; simp
  rw [hw0] at H0 HK0 HX HWK
  rw [hgx] at HX
  rw [hw0, hgx]
  clear hw0 hgx
  have HD0 := hid (H0.out.next (Below.refl (w0).heap.size (w0)).drew)
  have HKD0 := hid (HK0.out.trans (Wk.of_below (Below.refl (w0).heap.size (w0)).drew))
  have HKA0 := hid (fun X => HK0.out.trans (Wk.of_below (((Below.refl (w0).heap.size (w0)).alloc (Nat.le_refl _) X).drew)))
  have HSA0 := hid (fun X => H0.out.next (((Below.refl (w0).heap.size (w0)).alloc (Nat.le_refl _) X).drew))
  go_region_held3 (fun V => (V.cell? ⟨gx, 0, none⟩ = some (.int .i64 (P : Int)) ∧ V.cell? ⟨gx, 1, none⟩ = some (.iface T0 y0)) ∧ V.cell? ⟨2, P, none⟩ = some (.string Y)) (first | (exact ⟨HX.out _ HK1.out, HEN.out _ (H1.out).env⟩) | (exact ⟨HX.out _ (HKB0.out _), HEN.out _ (HSB0.out _).env⟩) | (exact ⟨HX.out _ HKM0.out, HEN.out _ (HM0.out).env⟩) | (exact ⟨HX.out _ (HKA0.out _), HEN.out _ (HSA0.out _).env⟩) | (exact ⟨HX.out _ HKD0.out, HEN.out _ (HD0.out).env⟩) | go_keep) (first
    | (go_at_call 30; refine (put1S Y _ HD0.out (by omega)).mono ?_; rintro e w1 ⟨rfl, hs, hk⟩; have H1 := hid hs; have HK1 := hid (HKD0.out.trans hk); clear hs hk)
    | fail)
  obtain ⟨x0, x1⟩ := HX.out _ HK1.out
  go_wp2_with fail
  refine (HH0.out _ _ H1.out (by rw [HY.out, List.length_append]; omega)).mono ?_
  rintro e w2 ⟨rfl, hs, hk⟩
  have H2 := hid hs
  have HK2 := hid (HK1.out.trans hk)
  clear hs hk
  go_wp2
  go_end0
  exact ⟨rfl, by have := H2.out; simpa [HY.out] using this, HWK.out _ HK2.out⟩
end Go.Proofs.YtkngjbpbjjoneaaGreatDoor.Q
/-! Printed by gen_we.py. -/
namespace Go.Proofs.YtkngjbpbjjoneaaGreatDoor.Q
open Go.RowKit Go.Shelf
set_option maxRecDepth 20000
set_option maxHeartbeats 4000000 in
theorem we_6 {nd : Nat → Nd} {O : List (List Nat)} {N : Nat} {pv : Nat → Value} {B b d : Nat} {j : Nat} {op ty n kids : Int} {t : ByteArray} {ks : List Nat} (C : PCtx nd O N j ⟨6, op, ty, n, t, kids⟩ ks) (hW : ∀ k ∈ ks, WriteOk nd O N pv B b d (pv k) (tvE nd O k)) : CallOk 58 nd O N pv B b d (pv j) (tvE nd O j) := by
  intro l W h hl
  have H := hid h
  have HC := hid C
  have hpl := (plain_6 _ _ _ _ _).1 C.plain
  have hko := (ko_6 _ _ _ _ _ _ _).1 C.kidsOk
  have hbl := h.wr.lt
  have hv := pa_6.1 (C.part h)
  have hif := C.ifs h
  obtain ⟨a, c, rfl⟩ : ∃ a c, ks = [a, c] := by
    match ks, hko.1 with
    | [a, c], _ => exact ⟨a, c, rfl⟩
  obtain ⟨T0, y0, e0⟩ : ∃ T y, pv a = .iface T y := hif a (by simp)
  have E0 := hid e0
  obtain ⟨T1, y1, e1⟩ : ∃ T y, pv c = .iface T y := hif c (by simp)
  have E1 := hid e1
  have hv2 : pv j = .iface 149 (.agg #[.int .i64 op, .iface T0 y0, .iface T1 y1]) := by rw [hv]; show _ = _; rw [← e0, ← e1]; rfl
  rw [hv2]
  clear hif hv hv2 e0 e1
  clear h C
  obtain ⟨rfl, rfl, _, hop1, hop2⟩ := hpl
  have HH0 := hid (heldW_any (d := d) HC.out.good (k := a) (by have := HC.out.lt (a := a) (by simp); have := HC.out.hj; omega) (by have := hko.2 0 (by simp); exact this) (hW a (by simp)))
  rw [E0.out] at HH0
  have HH1 := hid (heldW_any (d := d) HC.out.good (k := c) (by have := HC.out.lt (a := c) (by simp); have := HC.out.hj; omega) (by have := hko.2 1 (by simp); exact this) (hW c (by simp)))
  rw [E1.out] at HH1
  clear hko
  obtain ⟨P, rfl⟩ := Int.eq_ofNat_of_zero_le (show 0 ≤ op by omega)
  have HT : Hid (tvE nd O j = heldOf nd (tvE nd O) a ++ [32] ++ mkB (P : Int) ++ [32] ++ heldOf nd (tvE nd O) c) := HC.out.tv.trans (by simp [eOf])
  rw [HT.out] at hl ⊢
  simp only [List.length_append, List.length_cons, List.length_nil] at hl
  have i1 : (P : Int) < 19 := by omega
  have i0 : (0 : Int) ≤ (P : Int) := by omega
  have H0 := hid (H.out.next ((Below.refl W.heap.size W).alloc (Nat.le_refl _) (.cells #[.int .i64 (P : Int), .iface T0 y0, .iface T1 y1] 149)))
  have HK0 := hid (Wk.refl B b (W.alloc (.cells #[.int .i64 (P : Int), .iface T0 y0, .iface T1 y1] 149)))
  have HX : Hid (∀ V, Wk B b (W.alloc (.cells #[.int .i64 (P : Int), .iface T0 y0, .iface T1 y1] 149)) V → V.cell? ⟨W.heap.size, 0, none⟩ = some (.int .i64 (P : Int)) ∧ V.cell? ⟨W.heap.size, 1, none⟩ = some (.iface T0 y0) ∧ V.cell? ⟨W.heap.size, 2, none⟩ = some (.iface T1 y1)) := fun V h => ⟨box_keep (by decide) hbl h 0, box_keep (by decide) hbl h 1, box_keep (by decide) hbl h 2⟩
  have HWK : Hid (∀ V, Wk B b (W.alloc (.cells #[.int .i64 (P : Int), .iface T0 y0, .iface T1 y1] 149)) V → Wk B b W V) := fun V h => (Wk.of_below ((Below.refl W.heap.size W).alloc (Nat.le_refl _) (.cells #[.int .i64 (P : Int), .iface T0 y0, .iface T1 y1] 149))).trans h
  obtain ⟨Y, hY⟩ : ∃ Y : ByteArray, (⟨(mkB (P : Int)).toArray⟩ : ByteArray) = Y := ⟨_, rfl⟩
  have HY : Hid (Y.data.toList = mkB (P : Int)) := by show _ = _; rw [← hY]
  have HEN : Hid (∀ V, EnvP V → V.cell? ⟨3, P * 2, none⟩ = some (.string Y)) := fun V hV => by rw [← hY]; exact hV.om P (by omega) (by omega)
  have hYs : Y.size ≤ 4 := by rw [← len_size, HY.out]; exact by have := mkB_len (P : Int); omega
  clear hY
  have t1 := fun (v : Value) (W : World) => tn_1 149 v W (by decide)
  have t2 := fun (v : Value) (W : World) => tn_2 149 v W (by decide)
  have t3 := fun (v : Value) (W : World) => tn_3 149 v W (by decide)
  have t4 := fun (v : Value) (W : World) => tn_4 149 v W (by decide)
  have t5 := fun (v : Value) (W : World) => tn_5 149 v W (by decide)
  have t6 := ta_6
  go_enter Tryz.func58, Tryz.ntmps58
  go_wp2_with fail
  obtain ⟨w0, hw0⟩ : ∃ w0, W.alloc (.cells #[.int .i64 (P : Int), .iface T0 y0, .iface T1 y1] 149) = w0 := ⟨_, rfl⟩
  obtain ⟨gx, hgx⟩ : ∃ gx, W.heap.size = gx := ⟨_, rfl⟩
  have HGX := hid hgx
  have HW0 := hid hw0
  have hgl0 : gx < w0.heap.size := by rw [← hw0, ← hgx]; simp
  rw [hw0] at H0 HK0 HX HWK
  rw [hgx] at HX
  rw [hw0, hgx]
  clear hw0 hgx
  obtain ⟨x0, x1, x2⟩ := HX.out _ HK0.out
  refine (HH0.out _ _ H0.out (by omega)).mono ?_
  rintro e w1 ⟨rfl, hs, hk⟩
  have H1 := hid hs
  have HK1 := hid (HK0.out.trans hk)
  clear hs hk
  clear x0 x1 x2
  go_wp2_with fail
  have HD1 := hid (H1.out.next (Below.refl (w1).heap.size (w1)).drew)
  have HKD1 := hid (HK1.out.trans (Wk.of_below (Below.refl (w1).heap.size (w1)).drew))
  have HKA1 := hid (fun X => HK1.out.trans (Wk.of_below (((Below.refl (w1).heap.size (w1)).alloc (Nat.le_refl _) X).drew)))
  have HSA1 := hid (fun X => H1.out.next (((Below.refl (w1).heap.size (w1)).alloc (Nat.le_refl _) X).drew))
  go_region_held3 (fun V => (V.cell? ⟨gx, 0, none⟩ = some (.int .i64 (P : Int)) ∧ V.cell? ⟨gx, 1, none⟩ = some (.iface T0 y0) ∧ V.cell? ⟨gx, 2, none⟩ = some (.iface T1 y1)) ∧ V.cell? ⟨3, P * 2, none⟩ = some (.string Y)) (first | (exact ⟨HX.out _ HK2.out, HEN.out _ (H2.out).env⟩) | (exact ⟨HX.out _ (HKB1.out _), HEN.out _ (HSB1.out _).env⟩) | (exact ⟨HX.out _ HKM1.out, HEN.out _ (HM1.out).env⟩) | (exact ⟨HX.out _ (HKA1.out _), HEN.out _ (HSA1.out _).env⟩) | (exact ⟨HX.out _ HKD1.out, HEN.out _ (HD1.out).env⟩) | go_keep) (first
    | (go_at_call 30; refine (put3S ⟨#[32]⟩ Y ⟨#[32]⟩ _ HD1.out (by rw [List.length_append]; show _ + (1 + _ + 1) ≤ _; omega)).mono ?_; rintro e w2 ⟨rfl, hs, hk⟩; have H2 := hid hs; have HK2 := hid (HKD1.out.trans hk); clear hs hk)
    | fail)
  obtain ⟨x0, x1, x2⟩ := HX.out _ HK2.out
  go_wp2_with fail
  refine (HH1.out _ _ H2.out (by have := HY.out; simp only [List.length_append, HY.out]; show _ + _ + (1 + _ + 1) + _ ≤ _; omega)).mono ?_
  rintro e w3 ⟨rfl, hs, hk⟩
  have H3 := hid hs
  have HK3 := hid (HK2.out.trans hk)
  clear hs hk
  go_wp2
  go_end0
  exact ⟨rfl, by have := H3.out; simpa [HY.out] using this, HWK.out _ HK3.out⟩
end Go.Proofs.YtkngjbpbjjoneaaGreatDoor.Q
/-! Printed by gen_we.py. -/
namespace Go.Proofs.YtkngjbpbjjoneaaGreatDoor.Q
open Go.RowKit Go.Shelf
set_option maxRecDepth 20000
set_option maxHeartbeats 4000000 in
theorem we_7 {nd : Nat → Nd} {O : List (List Nat)} {N : Nat} {pv : Nat → Value} {B b d : Nat} {j : Nat} {op ty n kids : Int} {t : ByteArray} {ks : List Nat} (C : PCtx nd O N j ⟨7, op, ty, n, t, kids⟩ ks) (hW : ∀ k ∈ ks, WriteOk nd O N pv B b d (pv k) (tvE nd O k)) : CallOk 58 nd O N pv B b d (pv j) (tvE nd O j) := by
  intro l W h hl
  have H := hid h
  have HC := hid C
  have hpl := (plain_7 _ _ _ _ _).1 C.plain
  have hko := (ko_7 _ _ _ _ _ _ _).1 C.kidsOk
  have hbl := h.wr.lt
  obtain ⟨ad, cap, hv, hrow⟩ := pa_7.1 (C.part h)
  have HROW := hid hrow
  have HIF := hid (C.ifs h)
  clear hrow
  rw [hv]
  clear hv
  clear h C
  obtain ⟨rfl, rfl, rfl, hnm⟩ := hpl
  have hts : t.size ≤ 30 := by obtain ⟨_, h2, _⟩ := hnm; exact h2
  clear hnm hko
  have HT : Hid (tvE nd O j = t.data.toList ++ [40] ++ joinOf (tvE nd O) ks ++ [41]) := HC.out.tv.trans (by simp [eOf])
  rw [HT.out] at hl ⊢
  simp only [List.length_append, List.length_cons, List.length_nil, len_size] at hl
  have HW := hid hW
  have hkl : ks.length ≤ 12001 := by have := HC.out.good.kl j HC.out.hj; rwa [HC.out.hks] at this
  have H0 := hid (H.out.next ((Below.refl W.heap.size W).alloc (Nat.le_refl _) (.cells #[.string t, .slice ad ks.length cap] 151)))
  have HK0 := hid (Wk.refl B b (W.alloc (.cells #[.string t, .slice ad ks.length cap] 151)))
  have HX : Hid (∀ V, Wk B b (W.alloc (.cells #[.string t, .slice ad ks.length cap] 151)) V → V.cell? ⟨W.heap.size, 0, none⟩ = some (.string t) ∧ V.cell? ⟨W.heap.size, 1, none⟩ = some (.slice ad ks.length cap)) := fun V h => ⟨box_keep (by decide) hbl h 0, box_keep (by decide) hbl h 1⟩
  have HWK : Hid (∀ V, Wk B b (W.alloc (.cells #[.string t, .slice ad ks.length cap] 151)) V → Wk B b W V) := fun V h => (Wk.of_below ((Below.refl W.heap.size W).alloc (Nat.le_refl _) (.cells #[.string t, .slice ad ks.length cap] 151))).trans h
  have t1 := fun (v : Value) (W : World) => tn_1 151 v W (by decide)
  have t2 := fun (v : Value) (W : World) => tn_2 151 v W (by decide)
  have t3 := fun (v : Value) (W : World) => tn_3 151 v W (by decide)
  have t4 := fun (v : Value) (W : World) => tn_4 151 v W (by decide)
  have t5 := fun (v : Value) (W : World) => tn_5 151 v W (by decide)
  have t6 := fun (v : Value) (W : World) => tn_6 151 v W (by decide)
  have t7 := ta_7
  go_enter Tryz.func58, Tryz.ntmps58
  go_wp2_with fail
  obtain ⟨w0, hw0⟩ : ∃ w0, W.alloc (.cells #[.string t, .slice ad ks.length cap] 151) = w0 := ⟨_, rfl⟩
  obtain ⟨gx, hgx⟩ : ∃ gx, W.heap.size = gx := ⟨_, rfl⟩
  have HGX := hid hgx
  have HW0 := hid hw0
  have hgl0 : gx < w0.heap.size := by rw [← hw0, ← hgx]; simp
  rw [hw0] at H0 HK0 HX HWK
  rw [hgx] at HX
  rw [hw0, hgx]
  clear hw0 hgx
  have HD0 := hid (H0.out.next (Below.refl (w0).heap.size (w0)).drew)
  have HKD0 := hid (HK0.out.trans (Wk.of_below (Below.refl (w0).heap.size (w0)).drew))
  have HKA0 := hid (fun X => HK0.out.trans (Wk.of_below (((Below.refl (w0).heap.size (w0)).alloc (Nat.le_refl _) X).drew)))
  have HSA0 := hid (fun X => H0.out.next (((Below.refl (w0).heap.size (w0)).alloc (Nat.le_refl _) X).drew))
  go_region_held3 (fun V => V.cell? ⟨gx, 0, none⟩ = some (.string t) ∧ V.cell? ⟨gx, 1, none⟩ = some (.slice ad ks.length cap)) (first | (exact HX.out _ HK1.out) | (exact HX.out _ (HKB0.out _)) | (exact HX.out _ HKM0.out) | (exact HX.out _ (HKA0.out _)) | (exact HX.out _ HKD0.out) | go_keep) (first
    | (go_at_call 30; refine (put1S t _ HD0.out (by omega)).mono ?_; rintro e w1 ⟨rfl, hs, hk⟩; have H1 := hid hs; have HK1 := hid (HKD0.out.trans hk); clear hs hk)
    | fail)
  obtain ⟨x0, x1⟩ := HX.out _ HK1.out
  go_wp2_with fail
  refine (bracketed_any (tvE nd O) ks ad cap w1 H1.out ((HROW.out.below (by have := HGX.out; have hw := HW0.out; rw [← hw]; exact (Below.refl W.heap.size W).alloc (Nat.le_refl _) _)).wk HK1.out H0.out.wr.blk) HIF.out hkl HW.out (by rw [List.length_append, len_size]; omega)).mono ?_
  rintro e w2 ⟨rfl, hs, hk⟩
  have H2 := hid hs
  have HK2 := hid (HK1.out.trans hk)
  clear hs hk
  go_wp2
  go_end0
  exact ⟨rfl, by have := H2.out; simpa using this, HWK.out _ HK2.out⟩
end Go.Proofs.YtkngjbpbjjoneaaGreatDoor.Q
/-! Printed by gen_we.py. -/
namespace Go.Proofs.YtkngjbpbjjoneaaGreatDoor.Q
open Go.RowKit Go.Shelf
set_option maxRecDepth 20000
set_option maxHeartbeats 4000000 in
theorem we_8 {nd : Nat → Nd} {O : List (List Nat)} {N : Nat} {pv : Nat → Value} {B b d : Nat} {j : Nat} {op ty n kids : Int} {t : ByteArray} {ks : List Nat} (C : PCtx nd O N j ⟨8, op, ty, n, t, kids⟩ ks) (hW : ∀ k ∈ ks, WriteOk nd O N pv B b d (pv k) (tvE nd O k)) : CallOk 58 nd O N pv B b d (pv j) (tvE nd O j) := by
  intro l W h hl
  have H := hid h
  have HC := hid C
  have hpl := (plain_8 _ _ _ _ _).1 C.plain
  have hko := (ko_8 _ _ _ _ _ _ _).1 C.kidsOk
  have hbl := h.wr.lt
  obtain ⟨ad, cap, hv, hrow⟩ := pa_8.1 (C.part h)
  have HROW := hid hrow
  have HIF := hid (C.ifs h)
  clear hrow
  rw [hv]
  clear hv
  clear h C
  obtain ⟨rfl, rfl, _, hop1, hop2⟩ := hpl
  clear hko
  obtain ⟨P, rfl⟩ := Int.eq_ofNat_of_zero_le (show 0 ≤ op by omega)
  have i1 : (P : Int) < 13 := by omega
  have i0 : (0 : Int) ≤ (P : Int) := by omega
  have HT : Hid (tvE nd O j = bwB (P : Int) ++ [40] ++ joinOf (tvE nd O) ks ++ [41]) := HC.out.tv.trans (by simp [eOf])
  rw [HT.out] at hl ⊢
  simp only [List.length_append, List.length_cons, List.length_nil] at hl
  obtain ⟨Y, hY⟩ : ∃ Y : ByteArray, (⟨(bwB (P : Int)).toArray⟩ : ByteArray) = Y := ⟨_, rfl⟩
  have HY : Hid (Y.data.toList = bwB (P : Int)) := by show _ = _; rw [← hY]
  have HEN : Hid (∀ V, EnvP V → V.cell? ⟨1, P * 2, none⟩ = some (.string Y)) := fun V hV => by rw [← hY]; exact hV.bw P (by omega) (by omega)
  have hYs : Y.size ≤ 4 := by rw [← len_size, HY.out]; exact bwB_len _
  clear hY
  have HW := hid hW
  have hkl : ks.length ≤ 12001 := by have := HC.out.good.kl j HC.out.hj; rwa [HC.out.hks] at this
  have H0 := hid (H.out.next ((Below.refl W.heap.size W).alloc (Nat.le_refl _) (.cells #[.int .i64 (P : Int), .slice ad ks.length cap] 153)))
  have HK0 := hid (Wk.refl B b (W.alloc (.cells #[.int .i64 (P : Int), .slice ad ks.length cap] 153)))
  have HX : Hid (∀ V, Wk B b (W.alloc (.cells #[.int .i64 (P : Int), .slice ad ks.length cap] 153)) V → V.cell? ⟨W.heap.size, 0, none⟩ = some (.int .i64 (P : Int)) ∧ V.cell? ⟨W.heap.size, 1, none⟩ = some (.slice ad ks.length cap)) := fun V h => ⟨box_keep (by decide) hbl h 0, box_keep (by decide) hbl h 1⟩
  have HWK : Hid (∀ V, Wk B b (W.alloc (.cells #[.int .i64 (P : Int), .slice ad ks.length cap] 153)) V → Wk B b W V) := fun V h => (Wk.of_below ((Below.refl W.heap.size W).alloc (Nat.le_refl _) (.cells #[.int .i64 (P : Int), .slice ad ks.length cap] 153))).trans h
  have t1 := fun (v : Value) (W : World) => tn_1 153 v W (by decide)
  have t2 := fun (v : Value) (W : World) => tn_2 153 v W (by decide)
  have t3 := fun (v : Value) (W : World) => tn_3 153 v W (by decide)
  have t4 := fun (v : Value) (W : World) => tn_4 153 v W (by decide)
  have t5 := fun (v : Value) (W : World) => tn_5 153 v W (by decide)
  have t6 := fun (v : Value) (W : World) => tn_6 153 v W (by decide)
  have t7 := fun (v : Value) (W : World) => tn_7 153 v W (by decide)
  have t8 := ta_8
  go_enter Tryz.func58, Tryz.ntmps58
  go_wp2_with fail
  obtain ⟨w0, hw0⟩ : ∃ w0, W.alloc (.cells #[.int .i64 (P : Int), .slice ad ks.length cap] 153) = w0 := ⟨_, rfl⟩
  obtain ⟨gx, hgx⟩ : ∃ gx, W.heap.size = gx := ⟨_, rfl⟩
  have HGX := hid hgx
  have HW0 := hid hw0
  have hgl0 : gx < w0.heap.size := by rw [← hw0, ← hgx]; simp
  rw [hw0] at H0 HK0 HX HWK
  rw [hgx] at HX
  rw [hw0, hgx]
  clear hw0 hgx
  have HD0 := hid (H0.out.next (Below.refl (w0).heap.size (w0)).drew)
  have HKD0 := hid (HK0.out.trans (Wk.of_below (Below.refl (w0).heap.size (w0)).drew))
  have HKA0 := hid (fun X => HK0.out.trans (Wk.of_below (((Below.refl (w0).heap.size (w0)).alloc (Nat.le_refl _) X).drew)))
  have HSA0 := hid (fun X => H0.out.next (((Below.refl (w0).heap.size (w0)).alloc (Nat.le_refl _) X).drew))
  go_region_held3 (fun V => (V.cell? ⟨gx, 0, none⟩ = some (.int .i64 (P : Int)) ∧ V.cell? ⟨gx, 1, none⟩ = some (.slice ad ks.length cap)) ∧ V.cell? ⟨1, P * 2, none⟩ = some (.string Y)) (first | (exact ⟨HX.out _ HK1.out, HEN.out _ (H1.out).env⟩) | (exact ⟨HX.out _ (HKB0.out _), HEN.out _ (HSB0.out _).env⟩) | (exact ⟨HX.out _ HKM0.out, HEN.out _ (HM0.out).env⟩) | (exact ⟨HX.out _ (HKA0.out _), HEN.out _ (HSA0.out _).env⟩) | (exact ⟨HX.out _ HKD0.out, HEN.out _ (HD0.out).env⟩) | go_keep) (first
    | (go_at_call 30; refine (put1S Y _ HD0.out (by omega)).mono ?_; rintro e w1 ⟨rfl, hs, hk⟩; have H1 := hid hs; have HK1 := hid (HKD0.out.trans hk); clear hs hk)
    | fail)
  obtain ⟨x0, x1⟩ := HX.out _ HK1.out
  go_wp2_with fail
  refine (bracketed_any (tvE nd O) ks ad cap w1 H1.out ((HROW.out.below (by have := HGX.out; have hw := HW0.out; rw [← hw]; exact (Below.refl W.heap.size W).alloc (Nat.le_refl _) _)).wk HK1.out H0.out.wr.blk) HIF.out hkl HW.out (by rw [List.length_append, HY.out]; omega)).mono ?_
  rintro e w2 ⟨rfl, hs, hk⟩
  have H2 := hid hs
  have HK2 := hid (HK1.out.trans hk)
  clear hs hk
  go_wp2
  go_end0
  exact ⟨rfl, by have := H2.out; simpa [HY.out] using this, HWK.out _ HK2.out⟩
end Go.Proofs.YtkngjbpbjjoneaaGreatDoor.Q
