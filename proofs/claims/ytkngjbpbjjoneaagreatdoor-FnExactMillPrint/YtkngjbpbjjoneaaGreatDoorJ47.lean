import Derived.Test.YtkngjbpbjjoneaaGreatDoorJ44
/-! Printed by gen_we.py. -/
namespace Go.Proofs.YtkngjbpbjjoneaaGreatDoor.Q
open Go.RowKit Go.Shelf
set_option maxRecDepth 20000
set_option maxHeartbeats 4000000 in
theorem ws_16 {nd : Nat → Nd} {O : List (List Nat)} {N : Nat} {pv : Nat → Value} {B b d : Nat} {j : Nat} {op ty n kids : Int} {t : ByteArray} {ks : List Nat} (C : PCtx nd O N j ⟨16, op, ty, n, t, kids⟩ ks) (hW : ∀ k ∈ ks, WriteOk nd O N pv B b d (pv k) (txt nd O d k)) : CallOk 33 nd O N pv B b d (pv j) (svS nd O d j) := by
  intro l W h hl
  have H := hid h
  have HC := hid C
  have hpl := (plain_16 _ _ _ _ _).1 C.plain
  have hko := (ko_16 _ _ _ _ _ _ _).1 C.kidsOk
  have hbl := h.wr.lt
  have hv := pa_16.1 (C.part h)
  have hif := C.ifs h
  clear h C
  have hm : ks.length = 0 ∨ ks.length = 1 := by omega
  rcases hm with hm | hm
  · obtain rfl := List.eq_nil_of_length_eq_zero hm
    have hv2 : pv j = .iface 130 (.agg #[.nilIface]) := by rw [hv]; rfl
    rw [hv2]
    clear hif hv hv2 hko hm hpl
    have HT : Hid (svS nd O d j = [114, 101, 116, 117, 114, 110, 59]) := HC.out.sv d |>.trans (by unfold sOf; rw [HC.out.hks, HC.out.hx]; simp)
    rw [HT.out] at hl ⊢
    simp only [List.length_cons, List.length_nil] at hl
    have H0 := hid (H.out.next ((Below.refl W.heap.size W).alloc (Nat.le_refl _) (.cells #[.nilIface] 130)))
    have HK0 := hid (Wk.refl B b (W.alloc (.cells #[.nilIface] 130)))
    have HX : Hid (∀ V, Wk B b (W.alloc (.cells #[.nilIface] 130)) V → V.cell? ⟨W.heap.size, 0, none⟩ = some (.nilIface)) := fun V h => box_keep (by decide) hbl h 0
    have HWK : Hid (∀ V, Wk B b (W.alloc (.cells #[.nilIface] 130)) V → Wk B b W V) := fun V h => (Wk.of_below ((Below.refl W.heap.size W).alloc (Nat.le_refl _) (.cells #[.nilIface] 130))).trans h
    have nn := eqNil
    have t10 := fun (v : Value) (W : World) => tn_10 130 v W (by decide)
    have t11 := fun (v : Value) (W : World) => tn_11 130 v W (by decide)
    have t12 := fun (v : Value) (W : World) => tn_12 130 v W (by decide)
    have t13 := fun (v : Value) (W : World) => tn_13 130 v W (by decide)
    have t14 := fun (v : Value) (W : World) => tn_14 130 v W (by decide)
    have t15 := fun (v : Value) (W : World) => tn_15 130 v W (by decide)
    have t16 := ta_16
    go_enter Tryz.func33, Tryz.ntmps33
    go_wp2_with fail
    obtain ⟨w0, hw0⟩ : ∃ w0, W.alloc (.cells #[.nilIface] 130) = w0 := ⟨_, rfl⟩
    obtain ⟨gx, hgx⟩ : ∃ gx, W.heap.size = gx := ⟨_, rfl⟩
    have HGX := hid hgx
    have HW0 := hid hw0
    have hgl0 : gx < w0.heap.size := by rw [← hw0, ← hgx]; simp
    rw [hw0] at H0 HK0 HX HWK
    rw [hgx] at HX
    rw [hw0, hgx]
    clear hw0 hgx
    refine (ended0 ⟨#[114, 101, 116, 117, 114, 110]⟩ w0 H0.out (by show _ + 6 + 1 ≤ _; omega)).mono ?_
    rintro e w1 ⟨rfl, hs, hk⟩
    have H1 := hid hs
    have HK1 := hid (HK0.out.trans hk)
    clear hs hk
    go_wp2
    go_end0
    exact ⟨rfl, by have := H1.out; simpa using this, HWK.out _ HK1.out⟩
  · obtain ⟨a, rfl⟩ := List.length_eq_one_iff.1 hm
    obtain ⟨T0, y0, e0⟩ : ∃ T y, pv a = .iface T y := hif a (by simp)
    have E0 := hid e0
    have hv2 : pv j = .iface 130 (.agg #[.iface T0 y0]) := by rw [hv]; show _ = _; rw [← e0]; rfl
    rw [hv2]
    have HWa := hid (hW a (by simp))
    rw [txt_E (by have := hko.2 0 (by simp); exact this)] at HWa
    clear hif hv hv2 hko hm hpl e0
    have HT : Hid (svS nd O d j = [114, 101, 116, 117, 114, 110, 32] ++ tvE nd O a ++ [59]) := HC.out.sv d |>.trans (by unfold sOf; rw [HC.out.hks, HC.out.hx]; simp)
    rw [HT.out] at hl ⊢
    simp only [List.length_append, List.length_cons, List.length_nil] at hl
    have H0 := hid (H.out.next ((Below.refl W.heap.size W).alloc (Nat.le_refl _) (.cells #[.iface T0 y0] 130)))
    have HK0 := hid (Wk.refl B b (W.alloc (.cells #[.iface T0 y0] 130)))
    have HX : Hid (∀ V, Wk B b (W.alloc (.cells #[.iface T0 y0] 130)) V → V.cell? ⟨W.heap.size, 0, none⟩ = some (.iface T0 y0)) := fun V h => box_keep (by decide) hbl h 0
    have HWK : Hid (∀ V, Wk B b (W.alloc (.cells #[.iface T0 y0] 130)) V → Wk B b W V) := fun V h => (Wk.of_below ((Below.refl W.heap.size W).alloc (Nat.le_refl _) (.cells #[.iface T0 y0] 130))).trans h
    have nn := fun (W : World) => neNil W T0 y0
    have t10 := fun (v : Value) (W : World) => tn_10 130 v W (by decide)
    have t11 := fun (v : Value) (W : World) => tn_11 130 v W (by decide)
    have t12 := fun (v : Value) (W : World) => tn_12 130 v W (by decide)
    have t13 := fun (v : Value) (W : World) => tn_13 130 v W (by decide)
    have t14 := fun (v : Value) (W : World) => tn_14 130 v W (by decide)
    have t15 := fun (v : Value) (W : World) => tn_15 130 v W (by decide)
    have t16 := ta_16
    go_enter Tryz.func33, Tryz.ntmps33
    go_wp2_with fail
    obtain ⟨w0, hw0⟩ : ∃ w0, W.alloc (.cells #[.iface T0 y0] 130) = w0 := ⟨_, rfl⟩
    obtain ⟨gx, hgx⟩ : ∃ gx, W.heap.size = gx := ⟨_, rfl⟩
    have HGX := hid hgx
    have HW0 := hid hw0
    have hgl0 : gx < w0.heap.size := by rw [← hw0, ← hgx]; simp
    rw [hw0] at H0 HK0 HX HWK
    rw [hgx] at HX
    rw [hw0, hgx]
    clear hw0 hgx
    have HEN := hid (ended1 (T := tvE nd O a) ⟨#[114, 101, 116, 117, 114, 110, 32]⟩ a w0 H0.out ⟨_, _, E0.out⟩ HWa.out (by show _ + 7 + _ + 1 ≤ _; omega))
    rw [E0.out] at HEN
    try rw [show gx + 1 = w0.heap.size by rw [← HW0.out, World.size_alloc, HGX.out]]
    refine HEN.out.mono ?_
    rintro e w1 ⟨rfl, hs, hk⟩
    have H1 := hid hs
    have HK1 := hid (HK0.out.trans hk)
    clear hs hk
    go_wp2
    go_end0
    exact ⟨rfl, by have := H1.out; simpa using this, HWK.out _ HK1.out⟩
end Go.Proofs.YtkngjbpbjjoneaaGreatDoor.Q
/-! Printed by gen_we.py. -/
namespace Go.Proofs.YtkngjbpbjjoneaaGreatDoor.Q
open Go.RowKit Go.Shelf
set_option maxRecDepth 20000
set_option maxHeartbeats 4000000 in
theorem ws_17 {nd : Nat → Nd} {O : List (List Nat)} {N : Nat} {pv : Nat → Value} {B b d : Nat} {j : Nat} {op ty n kids : Int} {t : ByteArray} {ks : List Nat} (C : PCtx nd O N j ⟨17, op, ty, n, t, kids⟩ ks) (hW : ∀ k ∈ ks, WriteOk nd O N pv B b d (pv k) (txt nd O d k)) : CallOk 33 nd O N pv B b d (pv j) (svS nd O d j) := by
  intro l W h hl
  have H := hid h
  have HC := hid C
  have hpl := (plain_17 _ _ _ _ _).1 C.plain
  have hko := (ko_17 _ _ _ _ _ _ _).1 C.kidsOk
  have hbl := h.wr.lt
  have hv := pa_17.1 (C.part h)
  have hif := C.ifs h
  obtain ⟨a, rfl⟩ := List.length_eq_one_iff.1 hko.1
  obtain ⟨T0, y0, e0⟩ : ∃ T y, pv a = .iface T y := hif a (by simp)
  have E0 := hid e0
  have hv2 : pv j = .iface 132 (.agg #[.iface T0 y0]) := by rw [hv]; show _ = _; rw [← e0]; rfl
  rw [hv2]
  clear hif hv hv2 e0
  clear h C
  have HWa := hid (hW a (by simp))
  rw [txt_E (by have := hko.2 0 (by simp); exact this)] at HWa
  clear hpl hko
  have HT : Hid (svS nd O d j = [102, 97, 105, 108, 32] ++ tvE nd O a ++ [59]) := HC.out.sv d |>.trans (by unfold sOf; rw [HC.out.hks, HC.out.hx]; simp)
  rw [HT.out] at hl ⊢
  simp only [List.length_append, List.length_cons, List.length_nil] at hl
  have H0 := hid (H.out.next ((Below.refl W.heap.size W).alloc (Nat.le_refl _) (.cells #[.iface T0 y0] 132)))
  have HK0 := hid (Wk.refl B b (W.alloc (.cells #[.iface T0 y0] 132)))
  have HX : Hid (∀ V, Wk B b (W.alloc (.cells #[.iface T0 y0] 132)) V → V.cell? ⟨W.heap.size, 0, none⟩ = some (.iface T0 y0)) := fun V h => box_keep (by decide) hbl h 0
  have HWK : Hid (∀ V, Wk B b (W.alloc (.cells #[.iface T0 y0] 132)) V → Wk B b W V) := fun V h => (Wk.of_below ((Below.refl W.heap.size W).alloc (Nat.le_refl _) (.cells #[.iface T0 y0] 132))).trans h
  have t10 := fun (v : Value) (W : World) => tn_10 132 v W (by decide)
  have t11 := fun (v : Value) (W : World) => tn_11 132 v W (by decide)
  have t12 := fun (v : Value) (W : World) => tn_12 132 v W (by decide)
  have t13 := fun (v : Value) (W : World) => tn_13 132 v W (by decide)
  have t14 := fun (v : Value) (W : World) => tn_14 132 v W (by decide)
  have t15 := fun (v : Value) (W : World) => tn_15 132 v W (by decide)
  have t16 := fun (v : Value) (W : World) => tn_16 132 v W (by decide)
  have t17 := ta_17
  go_enter Tryz.func33, Tryz.ntmps33
  go_wp2_with fail
  obtain ⟨w0, hw0⟩ : ∃ w0, W.alloc (.cells #[.iface T0 y0] 132) = w0 := ⟨_, rfl⟩
  obtain ⟨gx, hgx⟩ : ∃ gx, W.heap.size = gx := ⟨_, rfl⟩
  have HGX := hid hgx
  have HW0 := hid hw0
  have hgl0 : gx < w0.heap.size := by rw [← hw0, ← hgx]; simp
  rw [hw0] at H0 HK0 HX HWK
  rw [hgx] at HX
  rw [hw0, hgx]
  clear hw0 hgx
  have HEN := hid (ended1 (T := tvE nd O a) ⟨#[102, 97, 105, 108, 32]⟩ a w0 H0.out ⟨_, _, E0.out⟩ HWa.out (by show _ + 5 + _ + 1 ≤ _; omega))
  rw [E0.out] at HEN
  try rw [show gx + 1 = w0.heap.size by rw [← HW0.out, World.size_alloc, HGX.out]]
  refine HEN.out.mono ?_
  rintro e w1 ⟨rfl, hs, hk⟩
  have H1 := hid hs
  have HK1 := hid (HK0.out.trans hk)
  clear hs hk
  go_wp2
  go_end0
  exact ⟨rfl, by have := H1.out; simpa using this, HWK.out _ HK1.out⟩
end Go.Proofs.YtkngjbpbjjoneaaGreatDoor.Q
/-! Printed by gen_we.py. -/
namespace Go.Proofs.YtkngjbpbjjoneaaGreatDoor.Q
open Go.RowKit Go.Shelf
set_option maxRecDepth 20000
set_option maxHeartbeats 4000000 in
theorem ws_18 {nd : Nat → Nd} {O : List (List Nat)} {N : Nat} {pv : Nat → Value} {B b d : Nat} {j : Nat} {op ty n kids : Int} {t : ByteArray} {ks : List Nat} (C : PCtx nd O N j ⟨18, op, ty, n, t, kids⟩ ks) (hW : ∀ k ∈ ks, WriteOk nd O N pv B b d (pv k) (txt nd O d k)) : CallOk 33 nd O N pv B b d (pv j) (svS nd O d j) := by
  intro l W h hl
  have H := hid h
  have HC := hid C
  have hpl := (plain_18 _ _ _ _ _).1 C.plain
  have hko := (ko_18 _ _ _ _ _ _ _).1 C.kidsOk
  have hbl := h.wr.lt
  have hv := pa_18.1 (C.part h)
  have hif := C.ifs h
  obtain ⟨a, c, rfl⟩ : ∃ a c, ks = [a, c] := by
    match ks, hko.1 with
    | [a, c], _ => exact ⟨a, c, rfl⟩
  obtain ⟨T0, y0, e0⟩ : ∃ T y, pv a = .iface T y := hif a (by simp)
  have E0 := hid e0
  obtain ⟨T1, y1, e1⟩ : ∃ T y, pv c = .iface T y := hif c (by simp)
  have E1 := hid e1
  have hv2 : pv j = .iface 134 (.agg #[.iface T0 y0, .iface T1 y1]) := by rw [hv]; show _ = _; rw [← e0, ← e1]; rfl
  rw [hv2]
  clear hif hv hv2 e0 e1
  clear h C
  have HWa := hid (hW a (by simp))
  rw [txt_E (by have := hko.2 0 (by simp); exact this)] at HWa
  have HWc := hid (hW c (by simp))
  rw [txt_E (by have := hko.2 1 (by simp); exact this)] at HWc
  clear hpl hko
  have HT : Hid (svS nd O d j = [119, 114, 105, 116, 101, 32] ++ joinOf (tvE nd O) [a, c] ++ [59]) := HC.out.sv d |>.trans (by unfold sOf; rw [HC.out.hks, HC.out.hx]; simp)
  rw [HT.out] at hl ⊢
  simp only [List.length_append, List.length_cons, List.length_nil] at hl
  have HEN := hid (fun (V : World) (hV : St nd O N pv B b d l V) => ended2 ⟨#[119, 114, 105, 116, 101, 32]⟩ (tvE nd O) a c V hV (fun x hx => by
    simp at hx
    rcases hx with rfl | rfl
    · exact ⟨_, _, E0.out⟩
    · exact ⟨_, _, E1.out⟩) (fun x hx => by
    simp at hx
    rcases hx with rfl | rfl
    · exact HWa.out
    · exact HWc.out) (by show _ + 6 + _ + 1 ≤ _; omega))
  rw [E0.out, E1.out] at HEN
  have H0 := hid (H.out.next ((Below.refl W.heap.size W).alloc (Nat.le_refl _) (.cells #[.iface T0 y0, .iface T1 y1] 134)))
  have HK0 := hid (Wk.refl B b (W.alloc (.cells #[.iface T0 y0, .iface T1 y1] 134)))
  have HX : Hid (∀ V, Wk B b (W.alloc (.cells #[.iface T0 y0, .iface T1 y1] 134)) V → V.cell? ⟨W.heap.size, 0, none⟩ = some (.iface T0 y0) ∧ V.cell? ⟨W.heap.size, 1, none⟩ = some (.iface T1 y1)) := fun V h => ⟨box_keep (by decide) hbl h 0, box_keep (by decide) hbl h 1⟩
  have HWK : Hid (∀ V, Wk B b (W.alloc (.cells #[.iface T0 y0, .iface T1 y1] 134)) V → Wk B b W V) := fun V h => (Wk.of_below ((Below.refl W.heap.size W).alloc (Nat.le_refl _) (.cells #[.iface T0 y0, .iface T1 y1] 134))).trans h
  have t10 := fun (v : Value) (W : World) => tn_10 134 v W (by decide)
  have t11 := fun (v : Value) (W : World) => tn_11 134 v W (by decide)
  have t12 := fun (v : Value) (W : World) => tn_12 134 v W (by decide)
  have t13 := fun (v : Value) (W : World) => tn_13 134 v W (by decide)
  have t14 := fun (v : Value) (W : World) => tn_14 134 v W (by decide)
  have t15 := fun (v : Value) (W : World) => tn_15 134 v W (by decide)
  have t16 := fun (v : Value) (W : World) => tn_16 134 v W (by decide)
  have t17 := fun (v : Value) (W : World) => tn_17 134 v W (by decide)
  have t18 := ta_18
  go_enter Tryz.func33, Tryz.ntmps33
  go_wp2_with fail
  obtain ⟨w0, hw0⟩ : ∃ w0, W.alloc (.cells #[.iface T0 y0, .iface T1 y1] 134) = w0 := ⟨_, rfl⟩
  obtain ⟨gx, hgx⟩ : ∃ gx, W.heap.size = gx := ⟨_, rfl⟩
  have HGX := hid hgx
  have HW0 := hid hw0
  have hgl0 : gx < w0.heap.size := by rw [← hw0, ← hgx]; simp
  rw [hw0] at H0 HK0 HX HWK
  rw [hgx] at HX
  rw [hw0, hgx]
  clear hw0 hgx
  try rw [show gx + 1 = w0.heap.size by rw [← HW0.out, World.size_alloc, HGX.out]]
  refine (HEN.out _ H0.out).mono ?_
  rintro e w1 ⟨rfl, hs, hk⟩
  have H1 := hid hs
  have HK1 := hid (HK0.out.trans hk)
  clear hs hk
  go_wp2
  go_end0
  exact ⟨rfl, by have := H1.out; simpa using this, HWK.out _ HK1.out⟩
end Go.Proofs.YtkngjbpbjjoneaaGreatDoor.Q
/-! Printed by gen_we.py. -/
namespace Go.Proofs.YtkngjbpbjjoneaaGreatDoor.Q
open Go.RowKit Go.Shelf
set_option maxRecDepth 20000
set_option maxHeartbeats 4000000 in
theorem ws_19 {nd : Nat → Nd} {O : List (List Nat)} {N : Nat} {pv : Nat → Value} {B b d : Nat} {j : Nat} {op ty n kids : Int} {t : ByteArray} {ks : List Nat} (C : PCtx nd O N j ⟨19, op, ty, n, t, kids⟩ ks) (hW : ∀ k ∈ ks, WriteOk nd O N pv B b d (pv k) (txt nd O d k)) : CallOk 33 nd O N pv B b d (pv j) (svS nd O d j) := by
  intro l W h hl
  have H := hid h
  have HC := hid C
  have hpl := (plain_19 _ _ _ _ _).1 C.plain
  have hko := (ko_19 _ _ _ _ _ _ _).1 C.kidsOk
  have hbl := h.wr.lt
  have hv := pa_19.1 (C.part h)
  have hif := C.ifs h
  obtain ⟨a, rfl⟩ := List.length_eq_one_iff.1 hko.1
  obtain ⟨T0, y0, e0⟩ : ∃ T y, pv a = .iface T y := hif a (by simp)
  have E0 := hid e0
  have hv2 : pv j = .iface 135 (.agg #[.iface T0 y0]) := by rw [hv]; show _ = _; rw [← e0]; rfl
  rw [hv2]
  clear hif hv hv2 e0
  clear h C
  have HWa := hid (hW a (by simp))
  rw [txt_E (by have := hko.2 0 (by simp); exact this)] at HWa
  clear hpl hko
  have HT : Hid (svS nd O d j = [115, 97, 121, 32] ++ tvE nd O a ++ [59]) := HC.out.sv d |>.trans (by unfold sOf; rw [HC.out.hks, HC.out.hx]; simp)
  rw [HT.out] at hl ⊢
  simp only [List.length_append, List.length_cons, List.length_nil] at hl
  have H0 := hid (H.out.next ((Below.refl W.heap.size W).alloc (Nat.le_refl _) (.cells #[.iface T0 y0] 135)))
  have HK0 := hid (Wk.refl B b (W.alloc (.cells #[.iface T0 y0] 135)))
  have HX : Hid (∀ V, Wk B b (W.alloc (.cells #[.iface T0 y0] 135)) V → V.cell? ⟨W.heap.size, 0, none⟩ = some (.iface T0 y0)) := fun V h => box_keep (by decide) hbl h 0
  have HWK : Hid (∀ V, Wk B b (W.alloc (.cells #[.iface T0 y0] 135)) V → Wk B b W V) := fun V h => (Wk.of_below ((Below.refl W.heap.size W).alloc (Nat.le_refl _) (.cells #[.iface T0 y0] 135))).trans h
  have t10 := fun (v : Value) (W : World) => tn_10 135 v W (by decide)
  have t11 := fun (v : Value) (W : World) => tn_11 135 v W (by decide)
  have t12 := fun (v : Value) (W : World) => tn_12 135 v W (by decide)
  have t13 := fun (v : Value) (W : World) => tn_13 135 v W (by decide)
  have t14 := fun (v : Value) (W : World) => tn_14 135 v W (by decide)
  have t15 := fun (v : Value) (W : World) => tn_15 135 v W (by decide)
  have t16 := fun (v : Value) (W : World) => tn_16 135 v W (by decide)
  have t17 := fun (v : Value) (W : World) => tn_17 135 v W (by decide)
  have t18 := fun (v : Value) (W : World) => tn_18 135 v W (by decide)
  have t19 := ta_19
  go_enter Tryz.func33, Tryz.ntmps33
  go_wp2_with fail
  obtain ⟨w0, hw0⟩ : ∃ w0, W.alloc (.cells #[.iface T0 y0] 135) = w0 := ⟨_, rfl⟩
  obtain ⟨gx, hgx⟩ : ∃ gx, W.heap.size = gx := ⟨_, rfl⟩
  have HGX := hid hgx
  have HW0 := hid hw0
  have hgl0 : gx < w0.heap.size := by rw [← hw0, ← hgx]; simp
  rw [hw0] at H0 HK0 HX HWK
  rw [hgx] at HX
  rw [hw0, hgx]
  clear hw0 hgx
  have HEN := hid (ended1 (T := tvE nd O a) ⟨#[115, 97, 121, 32]⟩ a w0 H0.out ⟨_, _, E0.out⟩ HWa.out (by show _ + 4 + _ + 1 ≤ _; omega))
  rw [E0.out] at HEN
  try rw [show gx + 1 = w0.heap.size by rw [← HW0.out, World.size_alloc, HGX.out]]
  refine HEN.out.mono ?_
  rintro e w1 ⟨rfl, hs, hk⟩
  have H1 := hid hs
  have HK1 := hid (HK0.out.trans hk)
  clear hs hk
  go_wp2
  go_end0
  exact ⟨rfl, by have := H1.out; simpa using this, HWK.out _ HK1.out⟩
end Go.Proofs.YtkngjbpbjjoneaaGreatDoor.Q
/-! Printed by gen_we.py. -/
namespace Go.Proofs.YtkngjbpbjjoneaaGreatDoor.Q
open Go.RowKit Go.Shelf
set_option maxRecDepth 20000
set_option maxHeartbeats 4000000 in
theorem ws_20 {nd : Nat → Nd} {O : List (List Nat)} {N : Nat} {pv : Nat → Value} {B b d : Nat} {j : Nat} {op ty n kids : Int} {t : ByteArray} {ks : List Nat} (C : PCtx nd O N j ⟨20, op, ty, n, t, kids⟩ ks) (hW : ∀ k ∈ ks, WriteOk nd O N pv B b d (pv k) (txt nd O d k)) : CallOk 33 nd O N pv B b d (pv j) (svS nd O d j) := by
  intro l W h hl
  have H := hid h
  have HC := hid C
  have hpl := (plain_20 _ _ _ _ _).1 C.plain
  have hko := (ko_20 _ _ _ _ _ _ _).1 C.kidsOk
  have hbl := h.wr.lt
  have hv := pa_20.1 (C.part h)
  have hif := C.ifs h
  obtain ⟨a, rfl⟩ := List.length_eq_one_iff.1 hko.1
  obtain ⟨T0, y0, e0⟩ : ∃ T y, pv a = .iface T y := hif a (by simp)
  have E0 := hid e0
  have hv2 : pv j = .iface 137 (.agg #[.iface T0 y0]) := by rw [hv]; show _ = _; rw [← e0]; rfl
  rw [hv2]
  clear hif hv hv2 e0
  clear h C
  have HWa := hid (hW a (by simp))
  rw [txt_E (by have := hko.2; unfold mE; rw [show (nd a).kind = 7 from this]; omega)] at HWa
  clear hpl hko
  have HT : Hid (svS nd O d j = tvE nd O a ++ [59]) := HC.out.sv d |>.trans (by unfold sOf; rw [HC.out.hks, HC.out.hx]; simp)
  rw [HT.out] at hl ⊢
  simp only [List.length_append, List.length_cons, List.length_nil] at hl
  have H0 := hid (H.out.next ((Below.refl W.heap.size W).alloc (Nat.le_refl _) (.cells #[.iface T0 y0] 137)))
  have HK0 := hid (Wk.refl B b (W.alloc (.cells #[.iface T0 y0] 137)))
  have HX : Hid (∀ V, Wk B b (W.alloc (.cells #[.iface T0 y0] 137)) V → V.cell? ⟨W.heap.size, 0, none⟩ = some (.iface T0 y0)) := fun V h => box_keep (by decide) hbl h 0
  have HWK : Hid (∀ V, Wk B b (W.alloc (.cells #[.iface T0 y0] 137)) V → Wk B b W V) := fun V h => (Wk.of_below ((Below.refl W.heap.size W).alloc (Nat.le_refl _) (.cells #[.iface T0 y0] 137))).trans h
  have t10 := fun (v : Value) (W : World) => tn_10 137 v W (by decide)
  have t11 := fun (v : Value) (W : World) => tn_11 137 v W (by decide)
  have t12 := fun (v : Value) (W : World) => tn_12 137 v W (by decide)
  have t13 := fun (v : Value) (W : World) => tn_13 137 v W (by decide)
  have t14 := fun (v : Value) (W : World) => tn_14 137 v W (by decide)
  have t15 := fun (v : Value) (W : World) => tn_15 137 v W (by decide)
  have t16 := fun (v : Value) (W : World) => tn_16 137 v W (by decide)
  have t17 := fun (v : Value) (W : World) => tn_17 137 v W (by decide)
  have t18 := fun (v : Value) (W : World) => tn_18 137 v W (by decide)
  have t19 := fun (v : Value) (W : World) => tn_19 137 v W (by decide)
  have t20 := ta_20
  go_enter Tryz.func33, Tryz.ntmps33
  go_wp2_with fail
  obtain ⟨w0, hw0⟩ : ∃ w0, W.alloc (.cells #[.iface T0 y0] 137) = w0 := ⟨_, rfl⟩
  obtain ⟨gx, hgx⟩ : ∃ gx, W.heap.size = gx := ⟨_, rfl⟩
  have HGX := hid hgx
  have HW0 := hid hw0
  have hgl0 : gx < w0.heap.size := by rw [← hw0, ← hgx]; simp
  rw [hw0] at H0 HK0 HX HWK
  rw [hgx] at HX
  rw [hw0, hgx]
  clear hw0 hgx
  have HEN := hid (ended1 (T := tvE nd O a) ⟨#[]⟩ a w0 H0.out ⟨_, _, E0.out⟩ HWa.out (by show _ + 0 + _ + 1 ≤ _; omega))
  rw [E0.out] at HEN
  try rw [show gx + 1 = w0.heap.size by rw [← HW0.out, World.size_alloc, HGX.out]]
  refine HEN.out.mono ?_
  rintro e w1 ⟨rfl, hs, hk⟩
  have H1 := hid hs
  have HK1 := hid (HK0.out.trans hk)
  clear hs hk
  go_wp2
  go_end0
  exact ⟨rfl, by have := H1.out; simpa using this, HWK.out _ HK1.out⟩
end Go.Proofs.YtkngjbpbjjoneaaGreatDoor.Q
