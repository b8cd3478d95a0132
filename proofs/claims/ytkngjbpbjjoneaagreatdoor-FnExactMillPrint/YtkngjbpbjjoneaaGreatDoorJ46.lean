import Derived.Test.YtkngjbpbjjoneaaGreatDoorJ44
/-! Printed by gen_we.py. -/
namespace Go.Proofs.YtkngjbpbjjoneaaGreatDoor.Q
open Go.RowKit Go.Shelf
set_option maxRecDepth 20000
set_option maxHeartbeats 4000000 in
theorem ws_11 {nd : Nat → Nd} {O : List (List Nat)} {N : Nat} {pv : Nat → Value} {B b d : Nat} {j : Nat} {op ty n kids : Int} {t : ByteArray} {ks : List Nat} (C : PCtx nd O N j ⟨11, op, ty, n, t, kids⟩ ks) (hW : ∀ k ∈ ks, WriteOk nd O N pv B b d (pv k) (txt nd O d k)) : CallOk 33 nd O N pv B b d (pv j) (svS nd O d j) := by
  intro l W h hl
  have H := hid h
  have HC := hid C
  have hpl := (plain_11 _ _ _ _ _).1 C.plain
  have hko := (ko_11 _ _ _ _ _ _ _).1 C.kidsOk
  have hbl := h.wr.lt
  have hv := pa_11.1 (C.part h)
  have hif := C.ifs h
  obtain ⟨a, rfl⟩ := List.length_eq_one_iff.1 hko.1
  obtain ⟨T0, y0, e0⟩ : ∃ T y, pv a = .iface T y := hif a (by simp)
  have E0 := hid e0
  have hv2 : pv j = .iface 121 (.agg #[.string t, .iface T0 y0]) := by rw [hv]; show _ = _; rw [← e0]; rfl
  rw [hv2]
  clear hif hv hv2 e0
  clear h C
  obtain ⟨rfl, rfl, rfl, hnm⟩ := hpl
  have hts : t.size ≤ 30 := by obtain ⟨_, h2, _⟩ := hnm; exact h2
  have HWa := hid (hW a (by simp))
  rw [txt_E (by have := hko.2 0 (by simp); exact this)] at HWa
  clear hnm hko
  have HT : Hid (svS nd O d j = t.data.toList ++ [32, 61, 32] ++ tvE nd O a ++ [59]) := HC.out.sv d |>.trans (by unfold sOf; rw [HC.out.hks, HC.out.hx]; simp)
  rw [HT.out] at hl ⊢
  simp only [List.length_append, List.length_cons, List.length_nil, len_size] at hl
  have HEN := hid (fun (V : World) (hV : St nd O N pv B b d l V) => ended1 (T := tvE nd O a) (t ++ ⟨#[32, 61, 32]⟩) a V hV ⟨_, _, E0.out⟩ HWa.out (by simp only [ByteArray.size_append]; show _ + (_ + 3) + _ + 1 ≤ _; omega))
  rw [E0.out] at HEN
  have k1 : ¬ (9223372036854775807 < t.size + 3) := by omega
  have H0 := hid (H.out.next ((Below.refl W.heap.size W).alloc (Nat.le_refl _) (.cells #[.string t, .iface T0 y0] 121)))
  have HK0 := hid (Wk.refl B b (W.alloc (.cells #[.string t, .iface T0 y0] 121)))
  have HX : Hid (∀ V, Wk B b (W.alloc (.cells #[.string t, .iface T0 y0] 121)) V → V.cell? ⟨W.heap.size, 0, none⟩ = some (.string t) ∧ V.cell? ⟨W.heap.size, 1, none⟩ = some (.iface T0 y0)) := fun V h => ⟨box_keep (by decide) hbl h 0, box_keep (by decide) hbl h 1⟩
  have HWK : Hid (∀ V, Wk B b (W.alloc (.cells #[.string t, .iface T0 y0] 121)) V → Wk B b W V) := fun V h => (Wk.of_below ((Below.refl W.heap.size W).alloc (Nat.le_refl _) (.cells #[.string t, .iface T0 y0] 121))).trans h
  have t10 := fun (v : Value) (W : World) => tn_10 121 v W (by decide)
  have t11 := ta_11
  go_enter Tryz.func33, Tryz.ntmps33
  go_wp2_with fail
  obtain ⟨w0, hw0⟩ : ∃ w0, W.alloc (.cells #[.string t, .iface T0 y0] 121) = w0 := ⟨_, rfl⟩
  obtain ⟨gx, hgx⟩ : ∃ gx, W.heap.size = gx := ⟨_, rfl⟩
  have HGX := hid hgx
  have HW0 := hid hw0
  have hgl0 : gx < w0.heap.size := by rw [← hw0, ← hgx]; simp
  rw [hw0] at H0 HK0 HX HWK
  rw [hgx] at HX
  rw [hw0, hgx]
  clear hw0 hgx
  try rw [show gx + 1 = w0.heap.size by rw [← HW0.out, World.size_alloc, HGX.out]]
  refine (HEN.out _ H0.out).mono ?_
  rintro e w1 ⟨rfl, hs, hk⟩
  have H1 := hid hs
  have HK1 := hid (HK0.out.trans hk)
  clear hs hk
  go_wp2
  go_end0
  exact ⟨rfl, by have := H1.out; simpa using this, HWK.out _ HK1.out⟩
end Go.Proofs.YtkngjbpbjjoneaaGreatDoor.Q
/-! Printed by gen_we.py. -/
namespace Go.Proofs.YtkngjbpbjjoneaaGreatDoor.Q
open Go.RowKit Go.Shelf
set_option maxRecDepth 20000
set_option maxHeartbeats 4000000 in
theorem ws_12 {nd : Nat → Nd} {O : List (List Nat)} {N : Nat} {pv : Nat → Value} {B b d : Nat} {j : Nat} {op ty n kids : Int} {t : ByteArray} {ks : List Nat} (C : PCtx nd O N j ⟨12, op, ty, n, t, kids⟩ ks) (hW : ∀ k ∈ ks, WriteOk nd O N pv B b d (pv k) (txt nd O d k)) : CallOk 33 nd O N pv B b d (pv j) (svS nd O d j) := by
  intro l W h hl
  have H := hid h
  have HC := hid C
  have hpl := (plain_12 _ _ _ _ _).1 C.plain
  have hko := (ko_12 _ _ _ _ _ _ _).1 C.kidsOk
  have hbl := h.wr.lt
  have hv := pa_12.1 (C.part h)
  have hif := C.ifs h
  clear h C
  have hm : ks.length = 2 ∨ ks.length = 3 := hko.1
  rcases hm with hm | hm
  · obtain ⟨a, c, rfl⟩ : ∃ a c, ks = [a, c] := by
      match ks, hm with
      | [a, c], _ => exact ⟨a, c, rfl⟩
    obtain ⟨T0, y0, e0'⟩ : ∃ T y, pv a = .iface T y := hif a (by simp)
    have E0 := hid e0'
    obtain ⟨T1, y1, e1'⟩ : ∃ T y, pv c = .iface T y := hif c (by simp)
    have E1 := hid e1'
    have hv2 : pv j = .iface 123 (.agg #[.iface T0 y0, .iface T1 y1, .nilIface]) := by rw [hv]; show _ = _; rw [← e0', ← e1']; rfl
    rw [hv2]
    have HWa := hid (hW a (by simp))
    rw [txt_E (by have := hko.2.1; exact this), E0.out] at HWa
    have HWc := hid (hW c (by simp))
    rw [txt_21 (by have := hko.2.2.1; exact this), E1.out] at HWc
    clear hif hv hv2 hko hm hpl e0' e1'
    have HT : Hid (svS nd O d j = [105, 102, 32] ++ tvE nd O a ++ [32] ++ bodyOf O (svS nd O) d c) := HC.out.sv d |>.trans (by unfold sOf; rw [HC.out.hks, HC.out.hx]; simp)
    rw [HT.out] at hl ⊢
    simp only [List.length_append, List.length_cons, List.length_nil] at hl
    generalize bodyOf O (svS nd O) d c = Tc at *
    skip
    have H0 := hid (H.out.next ((Below.refl W.heap.size W).alloc (Nat.le_refl _) (.cells #[.iface T0 y0, .iface T1 y1, .nilIface] 123)))
    have HK0 := hid (Wk.refl B b (W.alloc (.cells #[.iface T0 y0, .iface T1 y1, .nilIface] 123)))
    have HX : Hid (∀ V, Wk B b (W.alloc (.cells #[.iface T0 y0, .iface T1 y1, .nilIface] 123)) V → V.cell? ⟨W.heap.size, 0, none⟩ = some (.iface T0 y0) ∧ V.cell? ⟨W.heap.size, 1, none⟩ = some (.iface T1 y1) ∧ V.cell? ⟨W.heap.size, 2, none⟩ = some (.nilIface)) := fun V h => ⟨box_keep (by decide) hbl h 0, box_keep (by decide) hbl h 1, box_keep (by decide) hbl h 2⟩
    have HWK : Hid (∀ V, Wk B b (W.alloc (.cells #[.iface T0 y0, .iface T1 y1, .nilIface] 123)) V → Wk B b W V) := fun V h => (Wk.of_below ((Below.refl W.heap.size W).alloc (Nat.le_refl _) (.cells #[.iface T0 y0, .iface T1 y1, .nilIface] 123))).trans h
    have nn := isNil
    have t10 := fun (v : Value) (W : World) => tn_10 123 v W (by decide)
    have t11 := fun (v : Value) (W : World) => tn_11 123 v W (by decide)
    have t12 := ta_12
    go_enter Tryz.func33, Tryz.ntmps33
    go_wp2_with fail
    obtain ⟨w0, hw0⟩ : ∃ w0, W.alloc (.cells #[.iface T0 y0, .iface T1 y1, .nilIface] 123) = w0 := ⟨_, rfl⟩
    obtain ⟨gx, hgx⟩ : ∃ gx, W.heap.size = gx := ⟨_, rfl⟩
    have HGX := hid hgx
    have HW0 := hid hw0
    have hgl0 : gx < w0.heap.size := by rw [← hw0, ← hgx]; simp
    rw [hw0] at H0 HK0 HX HWK
    rw [hgx] at HX
    rw [hw0, hgx]
    clear hw0 hgx
    try rw [show gx + 1 = w0.heap.size by rw [← HW0.out, World.size_alloc, HGX.out]]
    refine (put1S ⟨#[105, 102, 32]⟩ w0 H0.out (by show _ + 3 ≤ _; omega)).mono ?_
    rintro e w1 ⟨rfl, hs, hk⟩
    have H1 := hid hs
    have HK1 := hid (HK0.out.trans hk)
    clear hs hk
    obtain ⟨x0, x1, x2⟩ := HX.out _ HK1.out
    go_wp2_with fail
    clear x0 x1 x2
    refine (HWa.out _ _ H1.out (by simp only [List.length_append]; show _ + 3 + _ ≤ _; omega)).mono ?_
    rintro e w2 ⟨rfl, hs, hk⟩
    have H2 := hid hs
    have HK2 := hid (HK1.out.trans hk)
    clear hs hk
    go_wp2_with fail
    refine (put1S ⟨#[32]⟩ w2 H2.out (by simp only [List.length_append]; show _ + 3 + _ + 1 ≤ _; omega)).mono ?_
    rintro e w3 ⟨rfl, hs, hk⟩
    have H3 := hid hs
    have HK3 := hid (HK2.out.trans hk)
    clear hs hk
    obtain ⟨x0, x1, x2⟩ := HX.out _ HK3.out
    go_wp2_with fail
    clear x0 x1 x2
    refine (HWc.out _ _ H3.out (by simp only [List.length_append]; show _ + 3 + _ + 1 + _ ≤ _; omega)).mono ?_
    rintro e w4 ⟨rfl, hs, hk⟩
    have H4 := hid hs
    have HK4 := hid (HK3.out.trans hk)
    clear hs hk
    obtain ⟨x0, x1, x2⟩ := HX.out _ HK4.out
    go_wp2
    go_end0
    exact ⟨rfl, by have := H4.out; simpa using this, HWK.out _ HK4.out⟩
  · obtain ⟨a, c, e0, rfl⟩ : ∃ a c e0, ks = [a, c, e0] := by
      match ks, hm with
      | [a, c, e0], _ => exact ⟨a, c, e0, rfl⟩
    obtain ⟨T0, y0, e0'⟩ : ∃ T y, pv a = .iface T y := hif a (by simp)
    have E0 := hid e0'
    obtain ⟨T1, y1, e1'⟩ : ∃ T y, pv c = .iface T y := hif c (by simp)
    have E1 := hid e1'
    obtain ⟨T2, y2, e2'⟩ : ∃ T y, pv e0 = .iface T y := hif e0 (by simp)
    have E2 := hid e2'
    have hv2 : pv j = .iface 123 (.agg #[.iface T0 y0, .iface T1 y1, .iface T2 y2]) := by rw [hv]; show _ = _; rw [← e0', ← e1', ← e2']; rfl
    rw [hv2]
    have HWa := hid (hW a (by simp))
    rw [txt_E (by have := hko.2.1; exact this), E0.out] at HWa
    have HWc := hid (hW c (by simp))
    rw [txt_21 (by have := hko.2.2.1; exact this), E1.out] at HWc
    have hke : (nd e0).kind = 21 ∨ (nd e0).kind = 12 := hko.2.2.2 rfl
    have HWe := hid (hW e0 (by simp))
    rw [E2.out] at HWe
    have HTE : Hid (txt nd O d e0 = if (nd e0).kind = 12 then svS nd O d e0 else bodyOf O (svS nd O) d e0) := by
      rcases hke with hke | hke
      · rw [if_neg (by rw [hke]; decide)]; exact txt_21 hke
      · rw [if_pos hke]; exact txt_S (by rw [hke]; unfold mS; omega)
    clear hif hv hv2 hko hm hpl hke e0' e1' e2'
    have HT : Hid (svS nd O d j = [105, 102, 32] ++ tvE nd O a ++ [32] ++ bodyOf O (svS nd O) d c ++ ([32, 101, 108, 115, 101, 32] ++ txt nd O d e0)) := HC.out.sv d |>.trans (by unfold sOf; rw [HC.out.hks, HC.out.hx, HTE.out]; simp)
    rw [HT.out] at hl ⊢
    simp only [List.length_append, List.length_cons, List.length_nil] at hl
    generalize bodyOf O (svS nd O) d c = Tc at *
    generalize txt nd O d e0 = Te at *
    have H0 := hid (H.out.next ((Below.refl W.heap.size W).alloc (Nat.le_refl _) (.cells #[.iface T0 y0, .iface T1 y1, .iface T2 y2] 123)))
    have HK0 := hid (Wk.refl B b (W.alloc (.cells #[.iface T0 y0, .iface T1 y1, .iface T2 y2] 123)))
    have HX : Hid (∀ V, Wk B b (W.alloc (.cells #[.iface T0 y0, .iface T1 y1, .iface T2 y2] 123)) V → V.cell? ⟨W.heap.size, 0, none⟩ = some (.iface T0 y0) ∧ V.cell? ⟨W.heap.size, 1, none⟩ = some (.iface T1 y1) ∧ V.cell? ⟨W.heap.size, 2, none⟩ = some (.iface T2 y2)) := fun V h => ⟨box_keep (by decide) hbl h 0, box_keep (by decide) hbl h 1, box_keep (by decide) hbl h 2⟩
    have HWK : Hid (∀ V, Wk B b (W.alloc (.cells #[.iface T0 y0, .iface T1 y1, .iface T2 y2] 123)) V → Wk B b W V) := fun V h => (Wk.of_below ((Below.refl W.heap.size W).alloc (Nat.le_refl _) (.cells #[.iface T0 y0, .iface T1 y1, .iface T2 y2] 123))).trans h
    have nn := fun (W : World) => notNil W T2 y2
    have t10 := fun (v : Value) (W : World) => tn_10 123 v W (by decide)
    have t11 := fun (v : Value) (W : World) => tn_11 123 v W (by decide)
    have t12 := ta_12
    go_enter Tryz.func33, Tryz.ntmps33
    go_wp2_with fail
    obtain ⟨w0, hw0⟩ : ∃ w0, W.alloc (.cells #[.iface T0 y0, .iface T1 y1, .iface T2 y2] 123) = w0 := ⟨_, rfl⟩
    obtain ⟨gx, hgx⟩ : ∃ gx, W.heap.size = gx := ⟨_, rfl⟩
    have HGX := hid hgx
    have HW0 := hid hw0
    have hgl0 : gx < w0.heap.size := by rw [← hw0, ← hgx]; simp
    rw [hw0] at H0 HK0 HX HWK
    rw [hgx] at HX
    rw [hw0, hgx]
    clear hw0 hgx
    try rw [show gx + 1 = w0.heap.size by rw [← HW0.out, World.size_alloc, HGX.out]]
    refine (put1S ⟨#[105, 102, 32]⟩ w0 H0.out (by show _ + 3 ≤ _; omega)).mono ?_
    rintro e w1 ⟨rfl, hs, hk⟩
    have H1 := hid hs
    have HK1 := hid (HK0.out.trans hk)
    clear hs hk
    obtain ⟨x0, x1, x2⟩ := HX.out _ HK1.out
    go_wp2_with fail
    clear x0 x1 x2
    refine (HWa.out _ _ H1.out (by simp only [List.length_append]; show _ + 3 + _ ≤ _; omega)).mono ?_
    rintro e w2 ⟨rfl, hs, hk⟩
    have H2 := hid hs
    have HK2 := hid (HK1.out.trans hk)
    clear hs hk
    go_wp2_with fail
    refine (put1S ⟨#[32]⟩ w2 H2.out (by simp only [List.length_append]; show _ + 3 + _ + 1 ≤ _; omega)).mono ?_
    rintro e w3 ⟨rfl, hs, hk⟩
    have H3 := hid hs
    have HK3 := hid (HK2.out.trans hk)
    clear hs hk
    obtain ⟨x0, x1, x2⟩ := HX.out _ HK3.out
    go_wp2_with fail
    clear x0 x1 x2
    refine (HWc.out _ _ H3.out (by simp only [List.length_append]; show _ + 3 + _ + 1 + _ ≤ _; omega)).mono ?_
    rintro e w4 ⟨rfl, hs, hk⟩
    have H4 := hid hs
    have HK4 := hid (HK3.out.trans hk)
    clear hs hk
    obtain ⟨x0, x1, x2⟩ := HX.out _ HK4.out
    go_wp2_with fail
    clear x0 x1 x2
    refine (put1S ⟨#[32, 101, 108, 115, 101, 32]⟩ w4 H4.out (by simp only [List.length_append]; show _ + 3 + _ + 1 + _ + 6 ≤ _; omega)).mono ?_
    rintro e w5 ⟨rfl, hs, hk⟩
    have H5 := hid hs
    have HK5 := hid (HK4.out.trans hk)
    clear hs hk
    obtain ⟨x0, x1, x2⟩ := HX.out _ HK5.out
    go_wp2_with fail
    clear x0 x1 x2
    refine (HWe.out _ _ H5.out (by simp only [List.length_append]; show _ + 3 + _ + 1 + _ + 6 + _ ≤ _; omega)).mono ?_
    rintro e w6 ⟨rfl, hs, hk⟩
    have H6 := hid hs
    have HK6 := hid (HK5.out.trans hk)
    clear hs hk
    go_wp2
    go_end0
    exact ⟨rfl, by have := H6.out; simpa using this, HWK.out _ HK6.out⟩
end Go.Proofs.YtkngjbpbjjoneaaGreatDoor.Q
/-! Printed by gen_we.py. -/
namespace Go.Proofs.YtkngjbpbjjoneaaGreatDoor.Q
open Go.RowKit Go.Shelf
set_option maxRecDepth 20000
set_option maxHeartbeats 4000000 in
theorem ws_13 {nd : Nat → Nd} {O : List (List Nat)} {N : Nat} {pv : Nat → Value} {B b d : Nat} {j : Nat} {op ty n kids : Int} {t : ByteArray} {ks : List Nat} (C : PCtx nd O N j ⟨13, op, ty, n, t, kids⟩ ks) (hW : ∀ k ∈ ks, WriteOk nd O N pv B b d (pv k) (txt nd O d k)) : CallOk 33 nd O N pv B b d (pv j) (svS nd O d j) := by
  intro l W h hl
  have H := hid h
  have HC := hid C
  have hpl := (plain_13 _ _ _ _ _).1 C.plain
  have hko := (ko_13 _ _ _ _ _ _ _).1 C.kidsOk
  have hbl := h.wr.lt
  have hv := pa_13.1 (C.part h)
  have hif := C.ifs h
  obtain ⟨a, c, rfl⟩ : ∃ a c, ks = [a, c] := by
    match ks, hko.1 with
    | [a, c], _ => exact ⟨a, c, rfl⟩
  obtain ⟨T0, y0, e0⟩ : ∃ T y, pv a = .iface T y := hif a (by simp)
  have E0 := hid e0
  obtain ⟨T1, y1, e1⟩ : ∃ T y, pv c = .iface T y := hif c (by simp)
  have E1 := hid e1
  have hv2 : pv j = .iface 125 (.agg #[.iface T0 y0, .iface T1 y1]) := by rw [hv]; show _ = _; rw [← e0, ← e1]; rfl
  rw [hv2]
  clear hif hv hv2 e0 e1
  clear h C
  have HWa := hid (hW a (by simp))
  rw [txt_E (by have := hko.2.1; exact this)] at HWa
  have HWc := hid (hW c (by simp))
  rw [txt_21 (by have := hko.2.2; exact this)] at HWc
  rw [E0.out] at HWa
  rw [E1.out] at HWc
  clear hpl hko
  have HT : Hid (svS nd O d j = [119, 104, 105, 108, 101, 32] ++ tvE nd O a ++ [32] ++ bodyOf O (svS nd O) d c) := HC.out.sv d |>.trans (by unfold sOf; rw [HC.out.hks, HC.out.hx]; simp)
  rw [HT.out] at hl ⊢
  simp only [List.length_append, List.length_cons, List.length_nil] at hl
  generalize bodyOf O (svS nd O) d c = Tc at *
  have H0 := hid (H.out.next ((Below.refl W.heap.size W).alloc (Nat.le_refl _) (.cells #[.iface T0 y0, .iface T1 y1] 125)))
  have HK0 := hid (Wk.refl B b (W.alloc (.cells #[.iface T0 y0, .iface T1 y1] 125)))
  have HX : Hid (∀ V, Wk B b (W.alloc (.cells #[.iface T0 y0, .iface T1 y1] 125)) V → V.cell? ⟨W.heap.size, 0, none⟩ = some (.iface T0 y0) ∧ V.cell? ⟨W.heap.size, 1, none⟩ = some (.iface T1 y1)) := fun V h => ⟨box_keep (by decide) hbl h 0, box_keep (by decide) hbl h 1⟩
  have HWK : Hid (∀ V, Wk B b (W.alloc (.cells #[.iface T0 y0, .iface T1 y1] 125)) V → Wk B b W V) := fun V h => (Wk.of_below ((Below.refl W.heap.size W).alloc (Nat.le_refl _) (.cells #[.iface T0 y0, .iface T1 y1] 125))).trans h
  have t10 := fun (v : Value) (W : World) => tn_10 125 v W (by decide)
  have t11 := fun (v : Value) (W : World) => tn_11 125 v W (by decide)
  have t12 := fun (v : Value) (W : World) => tn_12 125 v W (by decide)
  have t13 := ta_13
  go_enter Tryz.func33, Tryz.ntmps33
  go_wp2_with fail
  obtain ⟨w0, hw0⟩ : ∃ w0, W.alloc (.cells #[.iface T0 y0, .iface T1 y1] 125) = w0 := ⟨_, rfl⟩
  obtain ⟨gx, hgx⟩ : ∃ gx, W.heap.size = gx := ⟨_, rfl⟩
  have HGX := hid hgx
  have HW0 := hid hw0
  have hgl0 : gx < w0.heap.size := by rw [← hw0, ← hgx]; simp
  rw [hw0] at H0 HK0 HX HWK
  rw [hgx] at HX
  rw [hw0, hgx]
  clear hw0 hgx
  try rw [show gx + 1 = w0.heap.size by rw [← HW0.out, World.size_alloc, HGX.out]]
  refine (put1S ⟨#[119, 104, 105, 108, 101, 32]⟩ w0 H0.out (by show _ + 6 ≤ _; omega)).mono ?_
  rintro e w1 ⟨rfl, hs, hk⟩
  have H1 := hid hs
  have HK1 := hid (HK0.out.trans hk)
  clear hs hk
  obtain ⟨x0, x1⟩ := HX.out _ HK1.out
  go_wp2_with fail
  clear x0 x1
  refine (HWa.out _ _ H1.out (by simp only [List.length_append]; show _ + 6 + _ ≤ _; omega)).mono ?_
  rintro e w2 ⟨rfl, hs, hk⟩
  have H2 := hid hs
  have HK2 := hid (HK1.out.trans hk)
  clear hs hk
  go_wp2_with fail
  refine (put1S ⟨#[32]⟩ w2 H2.out (by simp only [List.length_append]; show _ + 6 + _ + 1 ≤ _; omega)).mono ?_
  rintro e w3 ⟨rfl, hs, hk⟩
  have H3 := hid hs
  have HK3 := hid (HK2.out.trans hk)
  clear hs hk
  obtain ⟨x0, x1⟩ := HX.out _ HK3.out
  go_wp2_with fail
  clear x0 x1
  refine (HWc.out _ _ H3.out (by simp only [List.length_append]; show _ + 6 + _ + 1 + _ ≤ _; omega)).mono ?_
  rintro e w4 ⟨rfl, hs, hk⟩
  have H4 := hid hs
  have HK4 := hid (HK3.out.trans hk)
  clear hs hk
  go_wp2
  go_end0
  exact ⟨rfl, by have := H4.out; simpa using this, HWK.out _ HK4.out⟩
end Go.Proofs.YtkngjbpbjjoneaaGreatDoor.Q
/-! Printed by gen_we.py. -/
namespace Go.Proofs.YtkngjbpbjjoneaaGreatDoor.Q
open Go.RowKit Go.Shelf
set_option maxRecDepth 20000
set_option maxHeartbeats 4000000 in
theorem ws_14 {nd : Nat → Nd} {O : List (List Nat)} {N : Nat} {pv : Nat → Value} {B b d : Nat} {j : Nat} {op ty n kids : Int} {t : ByteArray} {ks : List Nat} (C : PCtx nd O N j ⟨14, op, ty, n, t, kids⟩ ks) : CallOk 33 nd O N pv B b d (pv j) (svS nd O d j) := by
  intro l W h hl
  have H := hid h
  have HC := hid C
  have hpl := (plain_14 _ _ _ _ _).1 C.plain
  have hko := (ko_14 _ _ _ _ _ _ _).1 C.kidsOk
  have hbl := h.wr.lt
  have hv := pa_14.1 (C.part h)
  rw [hv]
  clear hv
  clear h C
  clear hpl hko
  have HT : Hid (svS nd O d j = [98, 114, 101, 97, 107, 59]) := HC.out.sv d |>.trans (by unfold sOf; rw [HC.out.hks, HC.out.hx]; simp)
  rw [HT.out] at hl ⊢
  simp only [List.length_cons, List.length_nil] at hl
  have H0 := hid (H.out.next ((Below.refl W.heap.size W).alloc (Nat.le_refl _) (.cells #[] 127)))
  have t10 := fun (v : Value) (W : World) => tn_10 127 v W (by decide)
  have t11 := fun (v : Value) (W : World) => tn_11 127 v W (by decide)
  have t12 := fun (v : Value) (W : World) => tn_12 127 v W (by decide)
  have t13 := fun (v : Value) (W : World) => tn_13 127 v W (by decide)
  have t14 := ta_14
  go_enter Tryz.func33, Tryz.ntmps33
  go_wp2_with fail
  refine (ended0 ⟨#[98, 114, 101, 97, 107]⟩ _ H0.out (by show _ + 5 + 1 ≤ _; omega)).mono ?_
  rintro e w1 hwr
  obtain ⟨rfl, hs, hk⟩ := alloc_wrote hwr
  have H1 := hid (And.intro hs hk)
  clear hs hk hwr
  go_wp2
  go_end0
  exact ⟨rfl, by have := H1.out.1; simpa using this, H1.out.2⟩
end Go.Proofs.YtkngjbpbjjoneaaGreatDoor.Q
/-! Printed by gen_we.py. -/
namespace Go.Proofs.YtkngjbpbjjoneaaGreatDoor.Q
open Go.RowKit Go.Shelf
set_option maxRecDepth 20000
set_option maxHeartbeats 4000000 in
theorem ws_15 {nd : Nat → Nd} {O : List (List Nat)} {N : Nat} {pv : Nat → Value} {B b d : Nat} {j : Nat} {op ty n kids : Int} {t : ByteArray} {ks : List Nat} (C : PCtx nd O N j ⟨15, op, ty, n, t, kids⟩ ks) : CallOk 33 nd O N pv B b d (pv j) (svS nd O d j) := by
  intro l W h hl
  have H := hid h
  have HC := hid C
  have hpl := (plain_15 _ _ _ _ _).1 C.plain
  have hko := (ko_15 _ _ _ _ _ _ _).1 C.kidsOk
  have hbl := h.wr.lt
  have hv := pa_15.1 (C.part h)
  rw [hv]
  clear hv
  clear h C
  clear hpl hko
  have HT : Hid (svS nd O d j = [99, 111, 110, 116, 105, 110, 117, 101, 59]) := HC.out.sv d |>.trans (by unfold sOf; rw [HC.out.hks, HC.out.hx]; simp)
  rw [HT.out] at hl ⊢
  simp only [List.length_cons, List.length_nil] at hl
  have H0 := hid (H.out.next ((Below.refl W.heap.size W).alloc (Nat.le_refl _) (.cells #[] 128)))
  have t10 := fun (v : Value) (W : World) => tn_10 128 v W (by decide)
  have t11 := fun (v : Value) (W : World) => tn_11 128 v W (by decide)
  have t12 := fun (v : Value) (W : World) => tn_12 128 v W (by decide)
  have t13 := fun (v : Value) (W : World) => tn_13 128 v W (by decide)
  have t14 := fun (v : Value) (W : World) => tn_14 128 v W (by decide)
  have t15 := ta_15
  go_enter Tryz.func33, Tryz.ntmps33
  go_wp2_with fail
  refine (ended0 ⟨#[99, 111, 110, 116, 105, 110, 117, 101]⟩ _ H0.out (by show _ + 8 + 1 ≤ _; omega)).mono ?_
  rintro e w1 hwr
  obtain ⟨rfl, hs, hk⟩ := alloc_wrote hwr
  have H1 := hid (And.intro hs hk)
  clear hs hk hwr
  go_wp2
  go_end0
  exact ⟨rfl, by have := H1.out.1; simpa using this, H1.out.2⟩
end Go.Proofs.YtkngjbpbjjoneaaGreatDoor.Q
