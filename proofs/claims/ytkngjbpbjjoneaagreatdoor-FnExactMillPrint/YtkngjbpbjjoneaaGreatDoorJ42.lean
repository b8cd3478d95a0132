import Derived.Test.YtkngjbpbjjoneaaGreatDoorJ41
import Derived.Test.YtkngjbpbjjoneaaGreatDoorJ13
/-! Printed by gen_we.py. -/
namespace Go.Proofs.YtkngjbpbjjoneaaGreatDoor.Q
open Go.RowKit Go.Shelf
set_option maxRecDepth 20000
set_option maxHeartbeats 4000000 in
theorem we_2 {nd : Nat → Nd} {O : List (List Nat)} {N : Nat} {pv : Nat → Value} {B b d : Nat} {j : Nat} {op ty n kids : Int} {t : ByteArray} {ks : List Nat} (C : PCtx nd O N j ⟨2, op, ty, n, t, kids⟩ ks) : CallOk 58 nd O N pv B b d (pv j) (tvE nd O j) := by
  intro l W h hl
  have H := hid h
  have HC := hid C
  have hpl := (plain_2 _ _ _ _ _).1 C.plain
  have hko := (ko_2 _ _ _ _ _ _ _).1 C.kidsOk
  have hbl := h.wr.lt
  have hv := pa_2.1 (C.part h)
  rw [hv]
  clear hv
  clear h C
  obtain ⟨rfl, rfl, rfl, hts⟩ := hpl
  clear hko
  have HT : Hid (tvE nd O j = quoteL t.data.toList) := HC.out.tv.trans (by simp [eOf])
  rw [HT.out] at hl ⊢
  have H0 := hid (H.out.next ((Below.refl W.heap.size W).alloc (Nat.le_refl _) (.cells #[.string t] 141)))
  have HK0 := hid (Wk.refl B b (W.alloc (.cells #[.string t] 141)))
  have HX : Hid (∀ V, Wk B b (W.alloc (.cells #[.string t] 141)) V → V.cell? ⟨W.heap.size, 0, none⟩ = some (.string t)) := fun V h => box_keep (by decide) hbl h 0
  have HWK : Hid (∀ V, Wk B b (W.alloc (.cells #[.string t] 141)) V → Wk B b W V) := fun V h => (Wk.of_below ((Below.refl W.heap.size W).alloc (Nat.le_refl _) (.cells #[.string t] 141))).trans h
  have t1 := fun (v : Value) (W : World) => tn_1 141 v W (by decide)
  have t2 := ta_2
  go_enter Tryz.func58, Tryz.ntmps58
  go_wp2_with fail
  obtain ⟨w0, hw0⟩ : ∃ w0, W.alloc (.cells #[.string t] 141) = w0 := ⟨_, rfl⟩
  obtain ⟨gx, hgx⟩ : ∃ gx, W.heap.size = gx := ⟨_, rfl⟩
  have HGX := hid hgx
  have HW0 := hid hw0
  have hgl0 : gx < w0.heap.size := by rw [← hw0, ← hgx]; simp
  rw [hw0] at H0 HK0 HX HWK
  rw [hgx] at HX
  rw [hw0, hgx]
  clear hw0 hgx
  have HD0 := hid (H0.out.next (Below.refl (w0).heap.size (w0)).drew)
  have HKD0 := hid (HK0.out.trans (Wk.of_below (Below.refl (w0).heap.size (w0)).drew))
  have HKA0 := hid (fun X => HK0.out.trans (Wk.of_below (((Below.refl (w0).heap.size (w0)).alloc (Nat.le_refl _) X).drew)))
  have HSA0 := hid (fun X => H0.out.next (((Below.refl (w0).heap.size (w0)).alloc (Nat.le_refl _) X).drew))
  go_region_held3 (fun V => V.cell? ⟨gx, 0, none⟩ = some (.string t)) (first | (exact HX.out _ HK1.out) | (exact HX.out _ (HKB0.out _)) | (exact HX.out _ HKM0.out) | (exact HX.out _ (HKA0.out _)) | (exact HX.out _ HKD0.out) | go_keep) (first
    | (go_at_call 77; refine (quotedS t _ HD0.out hts (by omega)).mono ?_; rintro e w1 ⟨rfl, hs, hk⟩; have H1 := hid hs; have HK1 := hid (HKD0.out.trans hk); clear hs hk)
    | fail)
  go_wp2
  go_end0
  exact ⟨rfl, by have := H1.out; exact this, HWK.out _ HK1.out⟩
end Go.Proofs.YtkngjbpbjjoneaaGreatDoor.Q
/-! Printed by gen_we.py. -/
namespace Go.Proofs.YtkngjbpbjjoneaaGreatDoor.Q
open Go.RowKit Go.Shelf
set_option maxRecDepth 20000
set_option maxHeartbeats 4000000 in
theorem we_3 {nd : Nat → Nd} {O : List (List Nat)} {N : Nat} {pv : Nat → Value} {B b d : Nat} {j : Nat} {op ty n kids : Int} {t : ByteArray} {ks : List Nat} (C : PCtx nd O N j ⟨3, op, ty, n, t, kids⟩ ks) : CallOk 58 nd O N pv B b d (pv j) (tvE nd O j) := by
  intro l W h hl
  have H := hid h
  have HC := hid C
  have hpl := (plain_3 _ _ _ _ _).1 C.plain
  have hko := (ko_3 _ _ _ _ _ _ _).1 C.kidsOk
  have hbl := h.wr.lt
  have hv := pa_3.1 (C.part h)
  rw [hv]
  clear hv
  clear h C
  obtain ⟨rfl, rfl, _, hn01⟩ := hpl
  clear hko
  rcases hn01 with rfl | rfl
  · have HT : Hid (tvE nd O j = [102, 97, 108, 115, 101]) := HC.out.tv.trans (by simp [eOf])
    rw [HT.out] at hl ⊢
    have H0 := hid (H.out.next ((Below.refl W.heap.size W).alloc (Nat.le_refl _) (.cells #[.int .i64 0] 143)))
    have HK0 := hid (Wk.refl B b (W.alloc (.cells #[.int .i64 0] 143)))
    have HX : Hid (∀ V, Wk B b (W.alloc (.cells #[.int .i64 0] 143)) V → V.cell? ⟨W.heap.size, 0, none⟩ = some (.int .i64 0)) := fun V h => box_keep (by decide) hbl h 0
    have HWK : Hid (∀ V, Wk B b (W.alloc (.cells #[.int .i64 0] 143)) V → Wk B b W V) := fun V h => (Wk.of_below ((Below.refl W.heap.size W).alloc (Nat.le_refl _) (.cells #[.int .i64 0] 143))).trans h
    have t1 := fun (v : Value) (W : World) => tn_1 143 v W (by decide)
    have t2 := fun (v : Value) (W : World) => tn_2 143 v W (by decide)
    have t3 := ta_3
    go_enter Tryz.func58, Tryz.ntmps58
    go_wp2_with fail
    obtain ⟨w0, hw0⟩ : ∃ w0, W.alloc (.cells #[.int .i64 0] 143) = w0 := ⟨_, rfl⟩
    obtain ⟨gx, hgx⟩ : ∃ gx, W.heap.size = gx := ⟨_, rfl⟩
    have HGX := hid hgx
    have HW0 := hid hw0
    have hgl0 : gx < w0.heap.size := by rw [← hw0, ← hgx]; simp
    rw [hw0] at H0 HK0 HX HWK
    rw [hgx] at HX
    rw [hw0, hgx]
    clear hw0 hgx
    have HD0 := hid (H0.out.next (Below.refl (w0).heap.size (w0)).drew)
    have HKD0 := hid (HK0.out.trans (Wk.of_below (Below.refl (w0).heap.size (w0)).drew))
    have HKA0 := hid (fun X => HK0.out.trans (Wk.of_below (((Below.refl (w0).heap.size (w0)).alloc (Nat.le_refl _) X).drew)))
    have HSA0 := hid (fun X => H0.out.next (((Below.refl (w0).heap.size (w0)).alloc (Nat.le_refl _) X).drew))
    go_region_held3 (fun V => V.cell? ⟨gx, 0, none⟩ = some (.int .i64 0)) (first | (exact HX.out _ HK1.out) | (exact HX.out _ (HKB0.out _)) | (exact HX.out _ HKM0.out) | (exact HX.out _ (HKA0.out _)) | (exact HX.out _ HKD0.out) | go_keep) (first
      | (go_at_call 78; refine (fmtB_false _).mono ?_; rintro e wm ⟨rfl, hbm⟩; have HM0 := hid (HD0.out.next hbm); have HKM0 := hid (HKD0.out.trans (Wk.of_below hbm)); have HKB0 := hid (fun X => HKM0.out.trans (Wk.of_below ((Below.refl wm.heap.size wm).alloc (Nat.le_refl _) X))); have HSB0 := hid (fun X => HM0.out.next ((Below.refl wm.heap.size wm).alloc (Nat.le_refl _) X)); clear hbm)
      | (go_at_call 30; refine (put1S ⟨#[102, 97, 108, 115, 101]⟩ wm HM0.out (by simp only [List.length_cons, List.length_nil] at hl; show _ + 5 ≤ _; omega)).mono ?_; rintro e w1 ⟨rfl, hs, hk⟩; have H1 := hid hs; have HK1 := hid (HKM0.out.trans hk); clear hs hk)
      | fail)
    go_wp2
    go_end0
    exact ⟨rfl, by have := H1.out; exact this, HWK.out _ HK1.out⟩
  · have HT : Hid (tvE nd O j = [116, 114, 117, 101]) := HC.out.tv.trans (by simp [eOf])
    rw [HT.out] at hl ⊢
    have H0 := hid (H.out.next ((Below.refl W.heap.size W).alloc (Nat.le_refl _) (.cells #[.int .i64 1] 143)))
    have HK0 := hid (Wk.refl B b (W.alloc (.cells #[.int .i64 1] 143)))
    have HX : Hid (∀ V, Wk B b (W.alloc (.cells #[.int .i64 1] 143)) V → V.cell? ⟨W.heap.size, 0, none⟩ = some (.int .i64 1)) := fun V h => box_keep (by decide) hbl h 0
    have HWK : Hid (∀ V, Wk B b (W.alloc (.cells #[.int .i64 1] 143)) V → Wk B b W V) := fun V h => (Wk.of_below ((Below.refl W.heap.size W).alloc (Nat.le_refl _) (.cells #[.int .i64 1] 143))).trans h
    have t1 := fun (v : Value) (W : World) => tn_1 143 v W (by decide)
    have t2 := fun (v : Value) (W : World) => tn_2 143 v W (by decide)
    have t3 := ta_3
    go_enter Tryz.func58, Tryz.ntmps58
    go_wp2_with fail
    obtain ⟨w0, hw0⟩ : ∃ w0, W.alloc (.cells #[.int .i64 1] 143) = w0 := ⟨_, rfl⟩
    obtain ⟨gx, hgx⟩ : ∃ gx, W.heap.size = gx := ⟨_, rfl⟩
    have HGX := hid hgx
    have HW0 := hid hw0
    have hgl0 : gx < w0.heap.size := by rw [← hw0, ← hgx]; simp
    rw [hw0] at H0 HK0 HX HWK
    rw [hgx] at HX
    rw [hw0, hgx]
    clear hw0 hgx
    have HD0 := hid (H0.out.next (Below.refl (w0).heap.size (w0)).drew)
    have HKD0 := hid (HK0.out.trans (Wk.of_below (Below.refl (w0).heap.size (w0)).drew))
    have HKA0 := hid (fun X => HK0.out.trans (Wk.of_below (((Below.refl (w0).heap.size (w0)).alloc (Nat.le_refl _) X).drew)))
    have HSA0 := hid (fun X => H0.out.next (((Below.refl (w0).heap.size (w0)).alloc (Nat.le_refl _) X).drew))
    go_region_held3 (fun V => V.cell? ⟨gx, 0, none⟩ = some (.int .i64 1)) (first | (exact HX.out _ HK1.out) | (exact HX.out _ (HKB0.out _)) | (exact HX.out _ HKM0.out) | (exact HX.out _ (HKA0.out _)) | (exact HX.out _ HKD0.out) | go_keep) (first
      | (go_at_call 78; refine (fmtB_true _).mono ?_; rintro e wm ⟨rfl, hbm⟩; have HM0 := hid (HD0.out.next hbm); have HKM0 := hid (HKD0.out.trans (Wk.of_below hbm)); have HKB0 := hid (fun X => HKM0.out.trans (Wk.of_below ((Below.refl wm.heap.size wm).alloc (Nat.le_refl _) X))); have HSB0 := hid (fun X => HM0.out.next ((Below.refl wm.heap.size wm).alloc (Nat.le_refl _) X)); clear hbm)
      | (go_at_call 30; refine (put1S ⟨#[116, 114, 117, 101]⟩ wm HM0.out (by simp only [List.length_cons, List.length_nil] at hl; show _ + 4 ≤ _; omega)).mono ?_; rintro e w1 ⟨rfl, hs, hk⟩; have H1 := hid hs; have HK1 := hid (HKM0.out.trans hk); clear hs hk)
      | fail)
    go_wp2
    go_end0
    exact ⟨rfl, by have := H1.out; exact this, HWK.out _ HK1.out⟩
end Go.Proofs.YtkngjbpbjjoneaaGreatDoor.Q
/-! Printed by gen_we.py. -/
namespace Go.Proofs.YtkngjbpbjjoneaaGreatDoor.Q
open Go.RowKit Go.Shelf
set_option maxRecDepth 20000
set_option maxHeartbeats 4000000 in
theorem we_4 {nd : Nat → Nd} {O : List (List Nat)} {N : Nat} {pv : Nat → Value} {B b d : Nat} {j : Nat} {op ty n kids : Int} {t : ByteArray} {ks : List Nat} (C : PCtx nd O N j ⟨4, op, ty, n, t, kids⟩ ks) : CallOk 58 nd O N pv B b d (pv j) (tvE nd O j) := by
  intro l W h hl
  have H := hid h
  have HC := hid C
  have hpl := (plain_4 _ _ _ _ _).1 C.plain
  have hko := (ko_4 _ _ _ _ _ _ _).1 C.kidsOk
  have hbl := h.wr.lt
  have hv := pa_4.1 (C.part h)
  rw [hv]
  clear hv
  clear h C
  obtain ⟨rfl, rfl, rfl, hnm⟩ := hpl
  have hts : t.size ≤ 30 := by obtain ⟨_, h2, _⟩ := hnm; exact h2
  clear hnm hko
  have HT : Hid (tvE nd O j = t.data.toList) := HC.out.tv.trans (by simp [eOf])
  rw [HT.out] at hl ⊢
  rw [len_size] at hl
  have H0 := hid (H.out.next ((Below.refl W.heap.size W).alloc (Nat.le_refl _) (.cells #[.string t] 145)))
  have HK0 := hid (Wk.refl B b (W.alloc (.cells #[.string t] 145)))
  have HX : Hid (∀ V, Wk B b (W.alloc (.cells #[.string t] 145)) V → V.cell? ⟨W.heap.size, 0, none⟩ = some (.string t)) := fun V h => box_keep (by decide) hbl h 0
  have HWK : Hid (∀ V, Wk B b (W.alloc (.cells #[.string t] 145)) V → Wk B b W V) := fun V h => (Wk.of_below ((Below.refl W.heap.size W).alloc (Nat.le_refl _) (.cells #[.string t] 145))).trans h
  have t1 := fun (v : Value) (W : World) => tn_1 145 v W (by decide)
  have t2 := fun (v : Value) (W : World) => tn_2 145 v W (by decide)
  have t3 := fun (v : Value) (W : World) => tn_3 145 v W (by decide)
  have t4 := ta_4
  go_enter Tryz.func58, Tryz.ntmps58
  go_wp2_with fail
  obtain ⟨w0, hw0⟩ : ∃ w0, W.alloc (.cells #[.string t] 145) = w0 := ⟨_, rfl⟩
  obtain ⟨gx, hgx⟩ : ∃ gx, W.heap.size = gx := ⟨_, rfl⟩
  have HGX := hid hgx
  have HW0 := hid hw0
  have hgl0 : gx < w0.heap.size := by rw [← hw0, ← hgx]; simp
  rw [hw0] at H0 HK0 HX HWK
  rw [hgx] at HX
  rw [hw0, hgx]
  clear hw0 hgx
  have HD0 := hid (H0.out.next (Below.refl (w0).heap.size (w0)).drew)
  have HKD0 := hid (HK0.out.trans (Wk.of_below (Below.refl (w0).heap.size (w0)).drew))
  have HKA0 := hid (fun X => HK0.out.trans (Wk.of_below (((Below.refl (w0).heap.size (w0)).alloc (Nat.le_refl _) X).drew)))
  have HSA0 := hid (fun X => H0.out.next (((Below.refl (w0).heap.size (w0)).alloc (Nat.le_refl _) X).drew))
  go_region_held3 (fun V => V.cell? ⟨gx, 0, none⟩ = some (.string t)) (first | (exact HX.out _ HK1.out) | (exact HX.out _ (HKB0.out _)) | (exact HX.out _ HKM0.out) | (exact HX.out _ (HKA0.out _)) | (exact HX.out _ HKD0.out) | go_keep) (first
    | (go_at_call 30; refine (put1S t _ HD0.out (by omega)).mono ?_; rintro e w1 ⟨rfl, hs, hk⟩; have H1 := hid hs; have HK1 := hid (HKD0.out.trans hk); clear hs hk)
    | fail)
  go_wp2
  go_end0
  exact ⟨rfl, by have := H1.out; exact this, HWK.out _ HK1.out⟩
end Go.Proofs.YtkngjbpbjjoneaaGreatDoor.Q
/-! Printed by gen_we.py. -/
namespace Go.Proofs.YtkngjbpbjjoneaaGreatDoor.Q
open Go.RowKit Go.Shelf
set_option maxRecDepth 20000
set_option maxHeartbeats 2000000 in
theorem heldW_any {nd : Nat → Nd} {O : List (List Nat)} {N : Nat} {pv : Nat → Value} {B b d : Nat} {k : Nat} (hg : Good nd O N) (hk : k < N) (hE : mE (nd k).kind) (hW : WriteOk nd O N pv B b d (pv k) (tvE nd O k)) : CallOk 79 nd O N pv B b d (pv k) (heldOf nd (tvE nd O) k) := by
  intro l W h hl
  have hpa := h.parts k hk
  have H := hid h
  obtain ⟨x, hx⟩ : ∃ x, nd k = x := ⟨_, rfl⟩
  have hkK : KidsOk x (O.getD k []).length (fun i => (nd ((O.getD k []).getD i 0)).kind) := by have := (hg.fit k hk).2; rw [hx] at this; exact this
  have HIF : Hid (Ifs (O.getD k []) pv) := fun c hc => (h.parts c (by have := hg.down k c hc; omega)).iface
  rw [hx] at hpa hE
  have HT : Hid (heldOf nd (tvE nd O) k = if x.kind = 6 then [40] ++ tvE nd O k ++ [41] else tvE nd O k) := by show _ = _; unfold heldOf; rw [hx]
  obtain ⟨ks, hks⟩ : ∃ ks, O.getD k [] = ks := ⟨_, rfl⟩
  rw [hks] at hpa hkK HIF
  obtain ⟨kd, op, ty, n, t, kids⟩ := x
  have h19 : 1 ≤ kd ∧ kd ≤ 9 := hE
  obtain rfl | rfl | rfl | rfl | rfl | rfl | rfl | rfl | rfl : kd = 1 ∨ kd = 2 ∨ kd = 3 ∨ kd = 4 ∨ kd = 5 ∨ kd = 6 ∨ kd = 7 ∨ kd = 8 ∨ kd = 9 := by omega
  · have hv := pa_1.1 hpa
    have HV := hid hv
    rw [hv] at hW ⊢
    have HW := hid hW
    clear hW hpa hkK h hv
    have t6 := fun (v : Value) (W : World) => tn_6 139 v W (by decide)
    have HTT : Hid (heldOf nd (tvE nd O) k = tvE nd O k) := HT.out.trans (if_neg (show ¬ (1 : Int) = 6 by decide))
    rw [HTT.out] at hl ⊢
    go_enter Tryz.func79, Tryz.ntmps79
    go_wp2_with fail
    refine (HW.out _ _ (H.out.next ((Below.refl W.heap.size W).alloc (Nat.le_refl _) _)) hl).mono ?_
    rintro e w1 hwr
    obtain ⟨rfl, hs, hk1⟩ := alloc_wrote hwr
    have H1 := hid (And.intro hs hk1)
    clear hwr
    clear hs hk1
    go_wp2
    go_end0
    exact ⟨rfl, H1.out.1, H1.out.2⟩
  · have hv := pa_2.1 hpa
    have HV := hid hv
    rw [hv] at hW ⊢
    have HW := hid hW
    clear hW hpa hkK h hv
    have t6 := fun (v : Value) (W : World) => tn_6 141 v W (by decide)
    have HTT : Hid (heldOf nd (tvE nd O) k = tvE nd O k) := HT.out.trans (if_neg (show ¬ (2 : Int) = 6 by decide))
    rw [HTT.out] at hl ⊢
    go_enter Tryz.func79, Tryz.ntmps79
    go_wp2_with fail
    refine (HW.out _ _ (H.out.next ((Below.refl W.heap.size W).alloc (Nat.le_refl _) _)) hl).mono ?_
    rintro e w1 hwr
    obtain ⟨rfl, hs, hk1⟩ := alloc_wrote hwr
    have H1 := hid (And.intro hs hk1)
    clear hwr
    clear hs hk1
    go_wp2
    go_end0
    exact ⟨rfl, H1.out.1, H1.out.2⟩
  · have hv := pa_3.1 hpa
    have HV := hid hv
    rw [hv] at hW ⊢
    have HW := hid hW
    clear hW hpa hkK h hv
    have t6 := fun (v : Value) (W : World) => tn_6 143 v W (by decide)
    have HTT : Hid (heldOf nd (tvE nd O) k = tvE nd O k) := HT.out.trans (if_neg (show ¬ (3 : Int) = 6 by decide))
    rw [HTT.out] at hl ⊢
    go_enter Tryz.func79, Tryz.ntmps79
    go_wp2_with fail
    refine (HW.out _ _ (H.out.next ((Below.refl W.heap.size W).alloc (Nat.le_refl _) _)) hl).mono ?_
    rintro e w1 hwr
    obtain ⟨rfl, hs, hk1⟩ := alloc_wrote hwr
    have H1 := hid (And.intro hs hk1)
    clear hwr
    clear hs hk1
    go_wp2
    go_end0
    exact ⟨rfl, H1.out.1, H1.out.2⟩
  · have hv := pa_4.1 hpa
    have HV := hid hv
    rw [hv] at hW ⊢
    have HW := hid hW
    clear hW hpa hkK h hv
    have t6 := fun (v : Value) (W : World) => tn_6 145 v W (by decide)
    have HTT : Hid (heldOf nd (tvE nd O) k = tvE nd O k) := HT.out.trans (if_neg (show ¬ (4 : Int) = 6 by decide))
    rw [HTT.out] at hl ⊢
    go_enter Tryz.func79, Tryz.ntmps79
    go_wp2_with fail
    refine (HW.out _ _ (H.out.next ((Below.refl W.heap.size W).alloc (Nat.le_refl _) _)) hl).mono ?_
    rintro e w1 hwr
    obtain ⟨rfl, hs, hk1⟩ := alloc_wrote hwr
    have H1 := hid (And.intro hs hk1)
    clear hwr
    clear hs hk1
    go_wp2
    go_end0
    exact ⟨rfl, H1.out.1, H1.out.2⟩
  · have hv := pa_5.1 hpa
    have hko := (ko_5 _ _ _ _ _ _ _).1 hkK
    obtain ⟨T0, y0, e0⟩ := HIF.out.get 0 (by omega)
    rw [e0] at hv
    have HV := hid hv
    rw [hv] at hW ⊢
    have HW := hid hW
    clear hW hpa hkK h hv hko e0
    have t6 := fun (v : Value) (W : World) => tn_6 147 v W (by decide)
    have HTT : Hid (heldOf nd (tvE nd O) k = tvE nd O k) := HT.out.trans (if_neg (show ¬ (5 : Int) = 6 by decide))
    rw [HTT.out] at hl ⊢
    go_enter Tryz.func79, Tryz.ntmps79
    go_wp2_with fail
    refine (HW.out _ _ (H.out.next ((Below.refl W.heap.size W).alloc (Nat.le_refl _) _)) hl).mono ?_
    rintro e w1 hwr
    obtain ⟨rfl, hs, hk1⟩ := alloc_wrote hwr
    have H1 := hid (And.intro hs hk1)
    clear hwr
    clear hs hk1
    go_wp2
    go_end0
    exact ⟨rfl, H1.out.1, H1.out.2⟩
  · have hv := pa_6.1 hpa
    have hko := (ko_6 _ _ _ _ _ _ _).1 hkK
    obtain ⟨T0, y0, e0⟩ := HIF.out.get 0 (by omega)
    rw [e0] at hv
    obtain ⟨T1, y1, e1⟩ := HIF.out.get 1 (by omega)
    rw [e1] at hv
    have HV := hid hv
    rw [hv] at hW ⊢
    have HW := hid hW
    clear hW hpa hkK h hv hko e0 e1
    have t6 := ta_6
    have HTT : Hid (heldOf nd (tvE nd O) k = [40] ++ tvE nd O k ++ [41]) := HT.out.trans (if_pos rfl)
    rw [HTT.out] at hl ⊢
    have HBR := hid (fun (V : World) (hV : St nd O N pv B b d l V) => bracketed1 (T := tvE nd O k) k V hV ⟨_, _, HV.out⟩ (by rw [HV.out]; exact HW.out) (by simp only [List.length_append, List.length_cons, List.length_nil] at hl; omega))
    rw [HV.out] at HBR
    have HZ : Hid (∃ w0 X, W.alloc X = w0 ∧ X = .cells #[.int .i64 op, .iface T0 y0, .iface T1 y1] 149 ∧ St nd O N pv B b d l w0) := ⟨_, _, rfl, rfl, H.out.next ((Below.refl W.heap.size W).alloc (Nat.le_refl _) _)⟩
    go_enter Tryz.func79, Tryz.ntmps79
    go_wp2_with fail
    obtain ⟨w0, X, hw0, hX, hS0⟩ := HZ.out
    have hz0 : W.heap.size + 1 = w0.heap.size := by rw [← hw0, World.size_alloc]
    rw [← hX, hw0, hz0]
    refine (HBR.out _ hS0).mono ?_
    rintro e w1 hwr
    rw [← hw0] at hwr
    obtain ⟨rfl, hs, hk1⟩ := alloc_wrote hwr
    have H1 := hid (And.intro hs hk1)
    clear hwr
    clear hs hk1
    go_wp2
    go_end0
    exact ⟨rfl, H1.out.1, H1.out.2⟩
  · obtain ⟨ad, cap, hv, _⟩ := pa_7.1 hpa
    have HV := hid hv
    rw [hv] at hW ⊢
    have HW := hid hW
    clear hW hpa hkK h hv
    have t6 := fun (v : Value) (W : World) => tn_6 151 v W (by decide)
    have HTT : Hid (heldOf nd (tvE nd O) k = tvE nd O k) := HT.out.trans (if_neg (show ¬ (7 : Int) = 6 by decide))
    rw [HTT.out] at hl ⊢
    go_enter Tryz.func79, Tryz.ntmps79
    go_wp2_with fail
    refine (HW.out _ _ (H.out.next ((Below.refl W.heap.size W).alloc (Nat.le_refl _) _)) hl).mono ?_
    rintro e w1 hwr
    obtain ⟨rfl, hs, hk1⟩ := alloc_wrote hwr
    have H1 := hid (And.intro hs hk1)
    clear hwr
    clear hs hk1
    go_wp2
    go_end0
    exact ⟨rfl, H1.out.1, H1.out.2⟩
  · obtain ⟨ad, cap, hv, _⟩ := pa_8.1 hpa
    have HV := hid hv
    rw [hv] at hW ⊢
    have HW := hid hW
    clear hW hpa hkK h hv
    have t6 := fun (v : Value) (W : World) => tn_6 153 v W (by decide)
    have HTT : Hid (heldOf nd (tvE nd O) k = tvE nd O k) := HT.out.trans (if_neg (show ¬ (8 : Int) = 6 by decide))
    rw [HTT.out] at hl ⊢
    go_enter Tryz.func79, Tryz.ntmps79
    go_wp2_with fail
    refine (HW.out _ _ (H.out.next ((Below.refl W.heap.size W).alloc (Nat.le_refl _) _)) hl).mono ?_
    rintro e w1 hwr
    obtain ⟨rfl, hs, hk1⟩ := alloc_wrote hwr
    have H1 := hid (And.intro hs hk1)
    clear hwr
    clear hs hk1
    go_wp2
    go_end0
    exact ⟨rfl, H1.out.1, H1.out.2⟩
  · have hv := pa_9.1 hpa
    have hko := (ko_9 _ _ _ _ _ _ _).1 hkK
    obtain ⟨T0, y0, e0⟩ := HIF.out.get 0 (by omega)
    rw [e0] at hv
    have HV := hid hv
    rw [hv] at hW ⊢
    have HW := hid hW
    clear hW hpa hkK h hv hko e0
    have t6 := fun (v : Value) (W : World) => tn_6 155 v W (by decide)
    have HTT : Hid (heldOf nd (tvE nd O) k = tvE nd O k) := HT.out.trans (if_neg (show ¬ (9 : Int) = 6 by decide))
    rw [HTT.out] at hl ⊢
    go_enter Tryz.func79, Tryz.ntmps79
    go_wp2_with fail
    refine (HW.out _ _ (H.out.next ((Below.refl W.heap.size W).alloc (Nat.le_refl _) _)) hl).mono ?_
    rintro e w1 hwr
    obtain ⟨rfl, hs, hk1⟩ := alloc_wrote hwr
    have H1 := hid (And.intro hs hk1)
    clear hwr
    clear hs hk1
    go_wp2
    go_end0
    exact ⟨rfl, H1.out.1, H1.out.2⟩
end Go.Proofs.YtkngjbpbjjoneaaGreatDoor.Q
