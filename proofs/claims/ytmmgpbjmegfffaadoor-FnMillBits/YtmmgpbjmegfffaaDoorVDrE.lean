import Derived.Test.YtmmgpbjmegfffaaDoorVDrD
/-! Draws: any value. -/
namespace Go.Proofs.YtmmgpbjmegfffaaDoor.V
open Go.RowKit Go.Shelf
set_option maxRecDepth 20000
set_option maxHeartbeats 8000000 in
theorem any_at {R b : Nat} {w W : World} (h : At R w b W) (hb : b ≤ 500000) (hR : R < w.heap.size) (t : Int) (t1 : 1 ≤ t) (t10 : t ≤ 10) :
    Calls Tryd.prog 24 #[.pointer (some ⟨R, 0, none⟩), .int .i64 t] W fun e w' => ValEnd R (b + 30) w e w' := by
  have HA := hid h
  have HG := hid h.size
  have HB := hid (heap_new W (vbox 0 0 wNone))
  have hRW : R ≠ W.heap.size := by have := h.lt; omega
  have hRW1 : R < (W.alloc (vbox 0 0 wNone)).heap.size := by have := h.lt; simp; omega
  clear h
  have HA1 := hid (HA.out.alloc (vbox 0 0 wNone)).here
  go_enter Tryd.func24, Tryd.ntmps24
  go_wp2_with fail
  refine (value_at HA1.out (by omega) hRW1 t t1 t10).mono ?_
  rintro e w2 ⟨vt, vn, vs, rfl, hz, a2⟩
  have HZ := hid hz
  have HAV := hid (((HA.out.alloc _).join a2).alloc (vbox vt vn vs))
  have HA2 := hid (a2.alloc (vbox vt vn vs)).here
  have HBV := hid (heap_new w2 (vbox vt vn vs))
  have HBR := hid ((a2.alloc (vbox vt vn vs)).heap HB.out hRW.symm)
  have hRV : w2.heap.size ≠ R := by have := a2.lt; omega
  have HGV := hid (Nat.le_trans HG.out (Nat.le_trans (by simp) a2.size))
  have hV1 : W.heap.size < w2.heap.size := by have := a2.size; simp at this; omega
  have hV2 : ¬ W.heap.size = w2.heap.size := by omega
  have hV3 : ¬ w2.heap.size = W.heap.size := by omega
  clear a2 hz
  go_wp2_with fail
  refine (pick_at HA2.out (by omega) 12 (by omega)).mono ?_
  rintro e w3 ⟨x, rfl, hx, a3, s3⟩
  have HA3 := hid a3
  clear a3 s3
  by_cases hx0 : x = 0
  · subst hx0
    go_wp2_with fail
    refine (pick_at HA3.out (by omega) 4 (by omega)).mono ?_
    rintro e w4 ⟨y, rfl, hy, a4, s4⟩
    have HA4 := hid a4
    clear a4 s4
    obtain rfl | rfl | rfl | rfl : y = 0 ∨ y = 1 ∨ y = 2 ∨ y = 3 := by omega
    · go_wp2_with fail
      refine (pick_at HA4.out (by omega) 13 (by omega)).mono ?_
      rintro e w5 ⟨k, rfl, hk, a5, s5⟩
      have HA5 := hid a5
      clear a5 s5
      obtain ⟨x0, x1, x2, y0, y1, y2⟩ := at_vbox (HA5.out.heap HBV.out hRV)
      obtain ⟨z0, z1, z2, u0, u1, u2⟩ := at_vbox (HA5.out.heap HBR.out hRW.symm)
      go_wp2
      exact bodyPost_ret (v := val ((k : Int) - 1) vn vs) (by simp [results, Tryd.results24, go_sem, z0, z1, z2]) rfl ⟨_, _, _, rfl, HZ.out, (((HAV.out.join HA5.out).mono (by omega)).set hR HGV.out _).set3 hR HG.out _ _ _⟩
    · go_wp2_with fail
      refine (pick_at (HA4.out.alloc _) (by omega) 6 (by omega)).mono ?_
      rintro e w5 ⟨k, rfl, hk, a5, s5⟩
      have HA5 := hid a5
      have hk6 : k < 6 := by omega
      have hz6 : (k : Int) < 6 := by omega
      obtain ⟨n1, c1, hz⟩ : ∃ n1 : Int, w5.cell? ⟨w4.heap.size, k, none⟩ = some (.int .i64 n1) ∧ (-9223372036854775808 ≤ n1 ∧ n1 ≤ 9223372036854775807) := by
        rw [lit_cell s5 HA4.out.lt]
        have h7 : k = 0 ∨ k = 1 ∨ k = 2 ∨ k = 3 ∨ k = 4 ∨ k = 5 := by omega
        rcases h7 with rfl | rfl | rfl | rfl | rfl | rfl <;> exact ⟨_, rfl, by decide, by decide⟩
      clear a5 s5
      obtain ⟨x0, x1, x2, y0, y1, y2⟩ := at_vbox (HA5.out.heap HBV.out hRV)
      obtain ⟨z0, z1, z2, u0, u1, u2⟩ := at_vbox (HA5.out.heap HBR.out hRW.symm)
      go_wp2
      exact bodyPost_ret (v := val vt n1 vs) (by simp [results, Tryd.results24, go_sem, z0, z1, z2]) rfl ⟨_, _, _, rfl, hz, (((HAV.out.join HA5.out).mono (by omega)).set hR HGV.out _).set3 hR HG.out _ _ _⟩
    · clear hy
      obtain ⟨x0, x1, x2, y0, y1, y2⟩ := at_vbox (HA4.out.heap HBV.out hRV)
      obtain ⟨z0, z1, z2, u0, u1, u2⟩ := at_vbox (HA4.out.heap HBR.out hRW.symm)
      go_wp2
      exact bodyPost_ret (v := val vt vn ⟨#[116]⟩) (by simp [results, Tryd.results24, go_sem, z0, z1, z2]) rfl ⟨_, _, _, rfl, HZ.out, (((HAV.out.join HA4.out).mono (by omega)).set hR HGV.out _).set3 hR HG.out _ _ _⟩
    · have HM := hid (fun V => l10Many_any ⟨#[118]⟩ 3001 V (by decide) (by decide) (by decide))
      go_wp2_with fail
      refine (HM.out _).mono ?_
      rintro e w5 ⟨⟨s, rfl, _⟩, hw⟩
      have hw2 := hw.symm
      clear hw
      subst hw2
      obtain ⟨x0, x1, x2, y0, y1, y2⟩ := at_vbox (HA4.out.heap HBV.out hRV)
      obtain ⟨z0, z1, z2, u0, u1, u2⟩ := at_vbox (HA4.out.heap HBR.out hRW.symm)
      go_wp2
      exact bodyPost_ret (v := val vt vn s) (by simp [results, Tryd.results24, go_sem, z0, z1, z2]) rfl ⟨_, _, _, rfl, HZ.out, (((HAV.out.join HA4.out).mono (by omega)).set hR HGV.out _).set3 hR HG.out _ _ _⟩
  · have n0 : ¬ ((x : Int) = 0) := by omega
    obtain ⟨x0, x1, x2, y0, y1, y2⟩ := at_vbox (HA3.out.heap HBV.out hRV)
    obtain ⟨z0, z1, z2, u0, u1, u2⟩ := at_vbox (HA3.out.heap HBR.out hRW.symm)
    go_wp2
    exact bodyPost_ret (v := val vt vn vs) (by simp [results, Tryd.results24, go_sem, z0, z1, z2]) rfl ⟨_, _, _, rfl, HZ.out, ((HAV.out.join HA3.out).mono (by omega)).set3 hR HG.out _ _ _⟩
end Go.Proofs.YtmmgpbjmegfffaaDoor.V
