import Derived.Test.YtabefhpgeaihgaaGreatDoorJ33
import Derived.Test.YtabefhpgeaihgaaGreatDoorJ13
/-! Draws: values. -/
namespace Go.Proofs.YtabefhpgeaihgaaGreatDoor.V
open Go.RowKit Go.Shelf
set_option maxRecDepth 20000
theorem At.here {R b : Nat} {w W : World} (h : At R w b W) : At R W b W := by obtain ⟨q, h1, h2, _⟩ := h; exact ⟨q, h1, h2, Sv.refl _ _⟩
theorem At.join {R b c : Nat} {w W V : World} (h : At R w b W) (k : At R W c V) : At R w c V := by
  obtain ⟨_, _, _, h3⟩ := h
  obtain ⟨q, k1, k2, k3⟩ := k
  exact ⟨q, k1, k2, h3.trans k3⟩
theorem At.heap {R b g : Nat} {w W : World} {o : Obj} (h : At R w b W) (e : w.heap[g]? = some o) (hg : g ≠ R) : W.heap[g]? = some o := by
  obtain ⟨_, _, _, h3⟩ := h
  exact (h3.block g (Array.getElem?_eq_some_iff.1 e).1 hg).trans e
/-- A box's cells, which can be written. -/
theorem at_vbox {W : World} {g : Nat} {t n : Int} {s : ByteArray} (e : W.heap[g]? = some (vbox t n s)) :
    W.cell? ⟨g, 0, none⟩ = some (.int .i64 t) ∧ W.cell? ⟨g, 1, none⟩ = some (.int .i64 n) ∧ W.cell? ⟨g, 2, none⟩ = some (.string s) ∧ W.frozen? ⟨g, 0, none⟩ = false ∧ W.frozen? ⟨g, 1, none⟩ = false ∧ W.frozen? ⟨g, 2, none⟩ = false := by
  refine ⟨?_, ?_, ?_, ?_, ?_, ?_⟩ <;> simp [World.cell?, World.frozen?, e]
theorem At.set3 {R b g : Nat} {w W : World} (h : At R w b W) (hR : R < w.heap.size) (hg : w.heap.size ≤ g) (u v x : Value) : At R w b (((W.setCell ⟨g, 0, none⟩ u).setCell ⟨g, 1, none⟩ v).setCell ⟨g, 2, none⟩ x) :=
  ((h.set hR hg u).set hR hg v).set hR hg x
/-- What is drawn: a value. -/
def ValEnd (R b : Nat) (w : World) (e : Ending) (w' : World) : Prop := ∃ (y z : Int) (s : ByteArray), e = .returned (val y z s) ∧ (-9223372036854775808 ≤ z ∧ z ≤ 9223372036854775807) ∧ At R w b w'
set_option maxHeartbeats 4000000 in
theorem value1_at {R b : Nat} {w W : World} (h : At R w b W) (hb : b ≤ 600000) (hR : R < w.heap.size) :
    Calls Tryz.prog 24 #[.pointer (some ⟨R, 0, none⟩), .int .i64 1] W fun e w' => ValEnd R (b + 20) w e w' := by
  have HA := hid h
  have HG := hid h.size
  have HB := hid (heap_new W (vbox 0 0 wNone))
  have hRW : R ≠ W.heap.size := by have := h.lt; omega
  clear h
  have HA1 := hid (HA.out.alloc (vbox 0 0 wNone)).here
  go_enter Tryz.func24, Tryz.ntmps24
  go_wp2_with fail
  refine (pick_at HA1.out (by omega) 2 (by omega)).mono ?_
  rintro e w2 ⟨x, rfl, hx, a2, s2⟩
  have HA2 := hid a2
  clear a2 s2
  go_wp2_with fail
  refine (l13Bool_any _ _).mono ?_
  rintro e w3 ⟨rfl, hb3⟩
  have HA3 := hid (HA2.out.next hb3)
  clear hb3
  obtain ⟨x0, x1, x2, y0, y1, y2⟩ := at_vbox (HA3.out.heap HB.out hRW.symm)
  obtain ⟨z, hz, hz1⟩ : ∃ z : Int, boolV ((x : Int) == 0) = val 1 z wNone ∧ (-9223372036854775808 ≤ z ∧ z ≤ 9223372036854775807) := ⟨_, rfl, by split <;> decide⟩
  rw [hz]
  go_wp2
  exact bodyPost_ret (v := val 1 z wNone) (by simp [results, Tryz.results24, go_sem, x0, x1, x2]) rfl ⟨_, _, _, rfl, hz1, (((HA.out.alloc _).join HA3.out).mono (by omega)).set3 hR HG.out _ _ _⟩
set_option maxHeartbeats 1000000 in
theorem l13Text_any (s : ByteArray) (w : World) :
    Calls Tryz.prog 50 #[.string s] w fun e w' => e = .returned (val 2 0 s) ∧ Below w.heap.size w w' := by
  go_enter Tryz.func50, Tryz.ntmps50
  go_wp2
  exact bodyPost_ret (v := val 2 0 s) (by simp [results, Tryz.results50, go_sem]) rfl ⟨rfl, alloc_below _ _⟩
set_option maxHeartbeats 4000000 in
theorem value2_at {R b : Nat} {w W : World} (h : At R w b W) (hb : b ≤ 600000) (hR : R < w.heap.size) :
    Calls Tryz.prog 24 #[.pointer (some ⟨R, 0, none⟩), .int .i64 2] W fun e w' => ValEnd R (b + 20) w e w' := by
  have HA := hid h
  have HG := hid h.size
  have HB := hid (heap_new W (vbox 0 0 wNone))
  have hRW : R ≠ W.heap.size := by have := h.lt; omega
  clear h
  have HA1 := hid (HA.out.alloc (vbox 0 0 wNone)).here
  have HZ : Hid (-9223372036854775808 ≤ (0 : Int) ∧ (0 : Int) ≤ 9223372036854775807) := ⟨by decide, by decide⟩
  have HT := hid l13Text_any
  go_enter Tryz.func24, Tryz.ntmps24
  go_wp2_with fail
  refine (pick_at HA1.out (by omega) 12 (by omega)).mono ?_
  rintro e w2 ⟨x, rfl, hx, a2, s2⟩
  have HA2 := hid a2
  clear a2 s2
  by_cases hx0 : x = 0
  · subst hx0
    go_wp2_with fail
    refine (pick_at HA2.out (by omega) 3 (by omega)).mono ?_
    rintro e w3 ⟨y, rfl, hy, a3, s3⟩
    have HA3 := hid a3
    clear a3 s3
    have HM : Hid (∀ V, Calls Tryz.prog 25 #[.string ⟨#[118]⟩, .int .i64 (3000 - (y : Int))] V fun e w' => (∃ t : ByteArray, e = .returned (.string t) ∧ t.size ≤ 3001) ∧ w' = V) := fun V => by
      have := l10Many_any ⟨#[118]⟩ (3000 - y) V (by show 1 * (3000 - y) ≤ 3001; omega) (by omega) (by decide)
      rwa [show (((3000 - y : Nat)) : Int) = 3000 - (y : Int) by omega] at this
    go_wp2_with fail
    refine (HM.out _).mono ?_
    rintro e w4 ⟨⟨s, rfl, _⟩, hw⟩
    have hw2 := hw.symm
    clear hw
    subst hw2
    go_wp2_with fail
    refine (HT.out s _).mono ?_
    rintro e w5 ⟨rfl, hb5⟩
    have HA5 := hid (HA3.out.next hb5)
    clear hb5
    obtain ⟨x0, x1, x2, y0, y1, y2⟩ := at_vbox (HA5.out.heap HB.out hRW.symm)
    go_wp2
    exact bodyPost_ret (v := val 2 0 s) (by simp [results, Tryz.results24, go_sem, x0, x1, x2]) rfl ⟨_, _, _, rfl, HZ.out, (((HA.out.alloc _).join HA5.out).mono (by omega)).set3 hR HG.out _ _ _⟩
  · have hx1 : ¬ ((x : Int) = 0) := by omega
    go_wp2_with fail
    refine (pick_at HA2.out (by omega) 3 (by omega)).mono ?_
    rintro e w3 ⟨y, rfl, hy, a3, s3⟩
    have HA3 := hid a3
    clear a3 s3
    by_cases hy0 : y = 0
    · subst hy0
      go_wp2_with fail
      refine (pick_at (HA3.out.alloc _) (by omega) 12 (by omega)).mono ?_
      rintro e w4 ⟨u, rfl, hu, a4, s4⟩
      have HA4 := hid a4
      have hu12 : u < 12 := by omega
      have hz12 : (u : Int) < 12 := by omega
      obtain ⟨s, c1⟩ : ∃ s : ByteArray, w4.cell? ⟨w3.heap.size, u, none⟩ = some (.string s) := by
        rw [lit_cell s4 HA3.out.lt]
        have h7 : u = 0 ∨ u = 1 ∨ u = 2 ∨ u = 3 ∨ u = 4 ∨ u = 5 ∨ u = 6 ∨ u = 7 ∨ u = 8 ∨ u = 9 ∨ u = 10 ∨ u = 11 := by omega
        rcases h7 with rfl | rfl | rfl | rfl | rfl | rfl | rfl | rfl | rfl | rfl | rfl | rfl <;> exact ⟨_, rfl⟩
      clear hu a4 s4
      go_wp2_with fail
      refine (HT.out s _).mono ?_
      rintro e w5 ⟨rfl, hb5⟩
      have HA5 := hid (HA4.out.next hb5)
      clear hb5
      obtain ⟨x0, x1, x2, y0, y1, y2⟩ := at_vbox (HA5.out.heap HB.out hRW.symm)
      go_wp2
      exact bodyPost_ret (v := val 2 0 s) (by simp [results, Tryz.results24, go_sem, x0, x1, x2]) rfl ⟨_, _, _, rfl, HZ.out, (((HA.out.alloc _).join HA5.out).mono (by omega)).set3 hR HG.out _ _ _⟩
    · have hy1 : ¬ ((y : Int) = 0) := by omega
      go_wp2_with fail
      refine (text_at HA3.out (by omega)).mono ?_
      rintro e w4 ⟨s, rfl, a4⟩
      have HA4 := hid a4
      clear a4
      go_wp2_with fail
      refine (HT.out s _).mono ?_
      rintro e w5 ⟨rfl, hb5⟩
      have HA5 := hid (HA4.out.next hb5)
      clear hb5
      obtain ⟨x0, x1, x2, y0, y1, y2⟩ := at_vbox (HA5.out.heap HB.out hRW.symm)
      go_wp2
      exact bodyPost_ret (v := val 2 0 s) (by simp [results, Tryz.results24, go_sem, x0, x1, x2]) rfl ⟨_, _, _, rfl, HZ.out, (((HA.out.alloc _).join HA5.out).mono (by omega)).set3 hR HG.out _ _ _⟩
set_option maxHeartbeats 4000000 in
theorem value3_at {R b : Nat} {w W : World} (h : At R w b W) (hb : b ≤ 600000) (hR : R < w.heap.size) (t : Int) (h3 : 3 ≤ t) (h10 : t ≤ 10) :
    Calls Tryz.prog 24 #[.pointer (some ⟨R, 0, none⟩), .int .i64 t] W fun e w' => ValEnd R (b + 20) w e w' := by
  have HA := hid h
  have HG := hid h.size
  have HB := hid (heap_new W (vbox 0 0 wNone))
  have hRW : R ≠ W.heap.size := by have := h.lt; omega
  clear h
  have HA1 := hid (HA.out.alloc (vbox 0 0 wNone)).here
  have HN : Hid (∀ (x : Int) (V : World), ∃ z, (-9223372036854775808 ≤ z ∧ z ≤ 9223372036854775807) ∧ Calls Tryz.prog 53 #[.int .i64 t, .int .u64 (IntKind.u64.wrap x)] V fun e w' => e = .returned (val t z wNone) ∧ Below V.heap.size V w') := fun x V => ⟨into t (IntKind.u64.wrap x), wr64 _, l13Num_any t _ h3 h10 (u64_bd x).1 (u64_bd x).2 V⟩
  have HX := hid (l10Max_any t (by omega) h10)
  have t1 : ¬ t = 1 := by omega
  have t2 : ¬ t = 2 := by omega
  go_enter Tryz.func24, Tryz.ntmps24
  go_wp2_with fail
  refine (number_at HA1.out (by omega) t h3 h10).mono ?_
  rintro e w2 ⟨m, rfl, m1, m2, a2⟩
  have HA2 := hid a2
  clear a2
  go_wp2_with fail
  refine (pick_at HA2.out (by omega) 4 (by omega)).mono ?_
  rintro e w3 ⟨x, rfl, hx, a3, s3⟩
  have HA3 := hid a3
  clear a3 s3
  by_cases hx0 : x = 0
  · subst hx0
    go_wp2_with fail
    obtain ⟨z, hz, hc⟩ := HN.out (-IntKind.u64.wrap m) w3
    refine hc.mono ?_
    rintro e w9 ⟨rfl, hb9⟩
    have HA9 := hid (HA3.out.next hb9)
    clear hb9 hc
    obtain ⟨x0, x1, x2, y0, y1, y2⟩ := at_vbox (HA9.out.heap HB.out hRW.symm)
    go_wp2
    exact bodyPost_ret (v := val t z wNone) (by simp [results, Tryz.results24, go_sem, x0, x1, x2]) rfl ⟨_, _, _, rfl, hz, (((HA.out.alloc _).join HA9.out).mono (by omega)).set3 hR HG.out _ _ _⟩
  · have n0 : ¬ ((x : Int) = 0) := by omega
    by_cases hx1 : x = 1
    · subst hx1
      go_wp2_with fail
      refine (HX.out _).mono ?_
      rintro e w4 ⟨k, rfl, k1, k2, hb4⟩
      have HA4 := hid (HA3.out.next hb4)
      clear hb4
      go_wp2_with fail
      refine (pick_at HA4.out (by omega) 3 (by omega)).mono ?_
      rintro e w5 ⟨u, rfl, hu, a5, s5⟩
      have HA5 := hid a5
      clear a5 s5
      go_wp2_with fail
      obtain ⟨z, hz, hc⟩ := HN.out (IntKind.u64.wrap (k + 1) - (u : Int)) w5
      refine hc.mono ?_
      rintro e w9 ⟨rfl, hb9⟩
      have HA9 := hid (HA5.out.next hb9)
      clear hb9 hc
      obtain ⟨x0, x1, x2, y0, y1, y2⟩ := at_vbox (HA9.out.heap HB.out hRW.symm)
      go_wp2
      exact bodyPost_ret (v := val t z wNone) (by simp [results, Tryz.results24, go_sem, x0, x1, x2]) rfl ⟨_, _, _, rfl, hz, (((HA.out.alloc _).join HA9.out).mono (by omega)).set3 hR HG.out _ _ _⟩
    · have n1 : ¬ ((x : Int) = 1) := by omega
      go_wp2_with fail
      obtain ⟨z, hz, hc⟩ := HN.out (m) w3
      refine hc.mono ?_
      rintro e w9 ⟨rfl, hb9⟩
      have HA9 := hid (HA3.out.next hb9)
      clear hb9 hc
      obtain ⟨x0, x1, x2, y0, y1, y2⟩ := at_vbox (HA9.out.heap HB.out hRW.symm)
      go_wp2
      exact bodyPost_ret (v := val t z wNone) (by simp [results, Tryz.results24, go_sem, x0, x1, x2]) rfl ⟨_, _, _, rfl, hz, (((HA.out.alloc _).join HA9.out).mono (by omega)).set3 hR HG.out _ _ _⟩
theorem value_at {R b : Nat} {w W : World} (h : At R w b W) (hb : b ≤ 600000) (hR : R < w.heap.size) (t : Int) (h1 : 1 ≤ t) (h10 : t ≤ 10) :
    Calls Tryz.prog 24 #[.pointer (some ⟨R, 0, none⟩), .int .i64 t] W fun e w' => ValEnd R (b + 20) w e w' := by
  by_cases h3 : 3 ≤ t
  · exact value3_at h hb hR t h3 h10
  · obtain rfl | rfl : t = 1 ∨ t = 2 := by omega
    · exact value1_at h hb hR
    · exact value2_at h hb hR
end Go.Proofs.YtabefhpgeaihgaaGreatDoor.V
