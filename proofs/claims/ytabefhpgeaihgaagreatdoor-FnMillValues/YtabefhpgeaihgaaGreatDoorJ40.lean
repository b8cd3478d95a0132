import Derived.Test.YtabefhpgeaihgaaGreatDoorJ32
import Derived.Test.YtabefhpgeaihgaaGreatDoorJ38
import Derived.Test.YtabefhpgeaihgaaGreatDoorJ36
/-! What a built word comes to. Printed by gen_vblt.py. -/
namespace Go.Proofs.YtabefhpgeaihgaaGreatDoor.V
open Go.RowKit Go.Shelf
set_option maxRecDepth 20000
def wRange : ByteArray := ⟨#[114, 97, 110, 103, 101]⟩
def wNumber : ByteArray := ⟨#[110, 117, 109, 98, 101, 114]⟩
/-- What a built word with args that fit comes to. -/
def BltOk (op : Int) (a b c : Vl) (y z : Int) (st wd : ByteArray) : Prop :=
  (op = 6 ∧ y = 10 ∧ z = a.s.size ∧ st = wNone ∧ wd = wNone) ∨
  (op = 7 ∧ ((∃ (i : Nat) (h : i < a.s.size), b.n = i ∧ y = 3 ∧ z = (a.s[i].toNat : Int) ∧ st = wNone ∧ wd = wNone) ∨ (¬ (0 ≤ b.n ∧ b.n < a.s.size) ∧ y = 0 ∧ z = 0 ∧ st = wNone ∧ wd = wRange))) ∨
  (op = 8 ∧ ((∃ i j : Nat, b.n = i ∧ c.n = j ∧ i ≤ j ∧ j ≤ a.s.size ∧ y = 2 ∧ z = 0 ∧ st = a.s.extract i j ∧ wd = wNone) ∨ (¬ (0 ≤ b.n ∧ b.n ≤ c.n ∧ c.n ≤ a.s.size) ∧ y = 0 ∧ z = 0 ∧ st = wNone ∧ wd = wRange))) ∨
  (op = 9 ∧ y = 10 ∧ z = Lib.index a.s.data.toList b.s.data.toList ∧ st = wNone ∧ wd = wNone) ∨
  (op = 10 ∧ y = 2 ∧ z = 0 ∧ st = ⟨#[UInt8.ofNat a.n.toNat]⟩ ∧ wd = wNone) ∨
  (op = 11 ∧ y = 2 ∧ z = 0 ∧ st = ⟨(decT a.t a.n).toArray⟩ ∧ wd = wNone) ∨
  (op = 12 ∧ ((∃ n : Int, Lib.itoa n = a.s.data.toList ∧ (-9223372036854775808 ≤ n ∧ n ≤ 9223372036854775807) ∧ y = 10 ∧ z = n ∧ st = wNone ∧ wd = wNone) ∨ ((∀ m : Int, -9223372036854775808 ≤ m → m ≤ 9223372036854775807 → Lib.itoa m ≠ a.s.data.toList) ∧ y = 0 ∧ z = 0 ∧ st = wNone ∧ wd = wNumber)))
def Fits (op : Int) (N : Nat) (vl : Nat → Vl) : Prop := 6 ≤ op ∧ op ≤ 12 ∧ OkArgs (-1) op N vl
def BltRes (op : Int) (N : Nat) (vl : Nat → Vl) (y z : Int) (st wd : ByteArray) : Prop :=
  (¬ Fits op N vl ∧ y = 0 ∧ z = 0 ∧ st = wNone ∧ wd = wType) ∨ (Fits op N vl ∧ BltOk op (vl 0) (vl 1) (vl 2) y z st wd)
theorem BltOk.uniq {op : Int} {a b c : Vl} {y z y' z' : Int} {st wd st' wd' : ByteArray} (h : BltOk op a b c y z st wd) (k : BltOk op a b c y' z' st' wd') : y = y' ∧ z = z' ∧ st = st' ∧ wd = wd' := by
  rcases h with ⟨ho, h⟩ | ⟨ho, h⟩ | ⟨ho, h⟩ | ⟨ho, h⟩ | ⟨ho, h⟩ | ⟨ho, h⟩ | ⟨ho, h⟩ <;> rcases k with ⟨ko, k⟩ | ⟨ko, k⟩ | ⟨ko, k⟩ | ⟨ko, k⟩ | ⟨ko, k⟩ | ⟨ko, k⟩ | ⟨ko, k⟩ <;> first | (exfalso; omega) | skip
  · obtain ⟨rfl, rfl, rfl, rfl⟩ := h; obtain ⟨rfl, rfl, rfl, rfl⟩ := k; exact ⟨rfl, rfl, rfl, rfl⟩
  · rcases h with ⟨i, hi, e, rfl, rfl, rfl, rfl⟩ | ⟨hn, rfl, rfl, rfl, rfl⟩ <;> rcases k with ⟨i', hi', e', rfl, rfl, rfl, rfl⟩ | ⟨kn, rfl, rfl, rfl, rfl⟩
    · obtain rfl : i = i' := by omega
      exact ⟨rfl, rfl, rfl, rfl⟩
    · exact absurd ⟨by omega, by omega⟩ kn
    · exact absurd ⟨by omega, by omega⟩ hn
    · exact ⟨rfl, rfl, rfl, rfl⟩
  · rcases h with ⟨i, j, e, e2, h1, h2, rfl, rfl, rfl, rfl⟩ | ⟨hn, rfl, rfl, rfl, rfl⟩ <;> rcases k with ⟨i', j', e', e2', k1, k2, rfl, rfl, rfl, rfl⟩ | ⟨kn, rfl, rfl, rfl, rfl⟩
    · obtain rfl : i = i' := by omega
      obtain rfl : j = j' := by omega
      exact ⟨rfl, rfl, rfl, rfl⟩
    · exact absurd ⟨by omega, by omega, by omega⟩ kn
    · exact absurd ⟨by omega, by omega, by omega⟩ hn
    · exact ⟨rfl, rfl, rfl, rfl⟩
  · obtain ⟨rfl, rfl, rfl, rfl⟩ := h; obtain ⟨rfl, rfl, rfl, rfl⟩ := k; exact ⟨rfl, rfl, rfl, rfl⟩
  · obtain ⟨rfl, rfl, rfl, rfl⟩ := h; obtain ⟨rfl, rfl, rfl, rfl⟩ := k; exact ⟨rfl, rfl, rfl, rfl⟩
  · obtain ⟨rfl, rfl, rfl, rfl⟩ := h; obtain ⟨rfl, rfl, rfl, rfl⟩ := k; exact ⟨rfl, rfl, rfl, rfl⟩
  · rcases h with ⟨m, e, hb, rfl, rfl, rfl, rfl⟩ | ⟨hn, rfl, rfl, rfl, rfl⟩ <;> rcases k with ⟨m', e', kb, rfl, rfl, rfl, rfl⟩ | ⟨kn, rfl, rfl, rfl, rfl⟩
    · obtain rfl := itoa_inj hb.1 hb.2 kb.1 kb.2 (e.trans e'.symm)
      exact ⟨rfl, rfl, rfl, rfl⟩
    · exact absurd e (kn _ hb.1 hb.2)
    · exact absurd e' (hn _ kb.1 kb.2)
    · exact ⟨rfl, rfl, rfl, rfl⟩
theorem BltRes.uniq {op : Int} {N : Nat} {vl : Nat → Vl} {y z y' z' : Int} {st wd st' wd' : ByteArray} (h : BltRes op N vl y z st wd) (k : BltRes op N vl y' z' st' wd') : y = y' ∧ z = z' ∧ st = st' ∧ wd = wd' := by
  rcases h with ⟨hn, rfl, rfl, rfl, rfl⟩ | ⟨hf, h⟩ <;> rcases k with ⟨kn, rfl, rfl, rfl, rfl⟩ | ⟨kf, k⟩
  · exact ⟨rfl, rfl, rfl, rfl⟩
  · exact absurd kf hn
  · exact absurd hf kn
  · exact h.uniq k
theorem valid_ge {t n : Int} {s : ByteArray} (h : validB t n s = true) : 1 ≤ t ∧ t ≤ 10 := by
  by_cases h1 : t = 1
  · omega
  · by_cases h2 : t = 2
    · omega
    · by_cases h3 : 3 ≤ t ∧ t ≤ 10
      · omega
      · rw [valid_out h1 h2 h3] at h; cases h
theorem fitL_congr {any any' : Int} {wl wl' ts : List Int} (hl : wl.length = wl'.length) (h : ∀ i, i < wl.length → i < ts.length → (fit1 any (wl.getD i 0) (ts.getD i 0) ↔ fit1 any' (wl'.getD i 0) (ts.getD i 0))) : FitL any wl ts ↔ FitL any' wl' ts :=
  ⟨fun k => ⟨hl ▸ k.1, fun i hi => (h i (by rw [k.1]; exact hi) hi).1 (k.2 i hi)⟩, fun k => ⟨hl.trans k.1, fun i hi => (h i (by rw [hl, k.1]; exact hi) hi).2 (k.2 i hi)⟩⟩
/-- The model's 'any' is 0, the program's -1: no value has either. -/
theorem fit_same {op : Int} {N : Nat} {vl : Nat → Vl} (h6 : 6 ≤ op) (h12 : op ≤ 12) (hv : ∀ i, i < N → okV (vl i) = true) : FitL 0 (wants 0 op) (tsOf N vl) ↔ FitL (-1) (wants (-1) op) (tsOf N vl) := by
  have ht : ∀ i, i < N → 1 ≤ (tsOf N vl).getD i 0 ∧ (tsOf N vl).getD i 0 ≤ 10 := fun i hi => by rw [tsOf_get N vl i hi]; exact valid_ge (hv i hi)
  have hl := tsOf_len N vl
  generalize tsOf N vl = ts at *
  subst hl
  obtain rfl | rfl | rfl | rfl | rfl | rfl | rfl : op = 6 ∨ op = 7 ∨ op = 8 ∨ op = 9 ∨ op = 10 ∨ op = 11 ∨ op = 12 := by omega
  all_goals refine fitL_congr rfl fun i hi hit => ?_
  all_goals have := ht i hit
  all_goals generalize ts.getD i 0 = t at *
  all_goals unfold fit1
  all_goals match i, hi with
    | 0, _ => (simp [wants]; try omega)
    | 1, hi => (first | (exact absurd hi (by decide)) | (simp [wants]; try omega))
    | 2, hi => (first | (exact absurd hi (by decide)) | (simp [wants]; try omega))
    | q + 3, hi => (exfalso; simp [wants] at hi; try omega)
end Go.Proofs.YtabefhpgeaihgaaGreatDoor.V
/-! Draws: any value. -/
namespace Go.Proofs.YtabefhpgeaihgaaGreatDoor.V
open Go.RowKit Go.Shelf
set_option maxRecDepth 20000
set_option maxHeartbeats 8000000 in
theorem any_at {R b : Nat} {w W : World} (h : At R w b W) (hb : b ≤ 500000) (hR : R < w.heap.size) (t : Int) (t1 : 1 ≤ t) (t10 : t ≤ 10) :
    Calls Tryz.prog 13 #[.pointer (some ⟨R, 0, none⟩), .int .i64 t] W fun e w' => ValEnd R (b + 30) w e w' := by
  have HA := hid h
  have HG := hid h.size
  have HB := hid (heap_new W (vbox 0 0 wNone))
  have hRW : R ≠ W.heap.size := by have := h.lt; omega
  have hRW1 : R < (W.alloc (vbox 0 0 wNone)).heap.size := by have := h.lt; simp; omega
  clear h
  have HA1 := hid (HA.out.alloc (vbox 0 0 wNone)).here
  go_enter Tryz.func13, Tryz.ntmps13
  go_wp2_with fail
  refine (value_at HA1.out (by omega) hRW1 t t1 t10).mono ?_
  rintro e w2 ⟨vt, vn, vs, rfl, hz, a2⟩
  have HZ := hid hz
  have HAV := hid (((HA.out.alloc _).join a2).alloc (vbox vt vn vs))
  have HA2 := hid (a2.alloc (vbox vt vn vs)).here
  have HBV := hid (heap_new w2 (vbox vt vn vs))
  have HBR := hid ((a2.alloc (vbox vt vn vs)).heap HB.out hRW.symm)
  have hRV : w2.heap.size ≠ R := by have := a2.lt; omega
  have HGV := hid (Nat.le_trans HG.out (Nat.le_trans (by simp) a2.size))
  have hV1 : W.heap.size < w2.heap.size := by have := a2.size; simp at this; omega
  have hV2 : ¬ W.heap.size = w2.heap.size := by omega
  have hV3 : ¬ w2.heap.size = W.heap.size := by omega
  clear a2 hz
  go_wp2_with fail
  refine (pick_at HA2.out (by omega) 12 (by omega)).mono ?_
  rintro e w3 ⟨x, rfl, hx, a3, s3⟩
  have HA3 := hid a3
  clear a3 s3
  by_cases hx0 : x = 0
  · subst hx0
    go_wp2_with fail
    refine (pick_at HA3.out (by omega) 4 (by omega)).mono ?_
    rintro e w4 ⟨y, rfl, hy, a4, s4⟩
    have HA4 := hid a4
    clear a4 s4
    obtain rfl | rfl | rfl | rfl : y = 0 ∨ y = 1 ∨ y = 2 ∨ y = 3 := by omega
    · go_wp2_with fail
      refine (pick_at HA4.out (by omega) 13 (by omega)).mono ?_
      rintro e w5 ⟨k, rfl, hk, a5, s5⟩
      have HA5 := hid a5
      clear a5 s5
      obtain ⟨x0, x1, x2, y0, y1, y2⟩ := at_vbox (HA5.out.heap HBV.out hRV)
      obtain ⟨z0, z1, z2, u0, u1, u2⟩ := at_vbox (HA5.out.heap HBR.out hRW.symm)
      go_wp2
      exact bodyPost_ret (v := val ((k : Int) - 1) vn vs) (by simp [results, Tryz.results13, go_sem, z0, z1, z2]) rfl ⟨_, _, _, rfl, HZ.out, (((HAV.out.join HA5.out).mono (by omega)).set hR HGV.out _).set3 hR HG.out _ _ _⟩
    · go_wp2_with fail
      refine (pick_at (HA4.out.alloc _) (by omega) 6 (by omega)).mono ?_
      rintro e w5 ⟨k, rfl, hk, a5, s5⟩
      have HA5 := hid a5
      have hk6 : k < 6 := by omega
      have hz6 : (k : Int) < 6 := by omega
      obtain ⟨n1, c1, hz⟩ : ∃ n1 : Int, w5.cell? ⟨w4.heap.size, k, none⟩ = some (.int .i64 n1) ∧ (-9223372036854775808 ≤ n1 ∧ n1 ≤ 9223372036854775807) := by
        rw [lit_cell s5 HA4.out.lt]
        have h7 : k = 0 ∨ k = 1 ∨ k = 2 ∨ k = 3 ∨ k = 4 ∨ k = 5 := by omega
        rcases h7 with rfl | rfl | rfl | rfl | rfl | rfl <;> exact ⟨_, rfl, by decide, by decide⟩
      clear a5 s5
      obtain ⟨x0, x1, x2, y0, y1, y2⟩ := at_vbox (HA5.out.heap HBV.out hRV)
      obtain ⟨z0, z1, z2, u0, u1, u2⟩ := at_vbox (HA5.out.heap HBR.out hRW.symm)
      go_wp2
      exact bodyPost_ret (v := val vt n1 vs) (by simp [results, Tryz.results13, go_sem, z0, z1, z2]) rfl ⟨_, _, _, rfl, hz, (((HAV.out.join HA5.out).mono (by omega)).set hR HGV.out _).set3 hR HG.out _ _ _⟩
    · clear hy
      obtain ⟨x0, x1, x2, y0, y1, y2⟩ := at_vbox (HA4.out.heap HBV.out hRV)
      obtain ⟨z0, z1, z2, u0, u1, u2⟩ := at_vbox (HA4.out.heap HBR.out hRW.symm)
      go_wp2
      exact bodyPost_ret (v := val vt vn ⟨#[116]⟩) (by simp [results, Tryz.results13, go_sem, z0, z1, z2]) rfl ⟨_, _, _, rfl, HZ.out, (((HAV.out.join HA4.out).mono (by omega)).set hR HGV.out _).set3 hR HG.out _ _ _⟩
    · have HM := hid (fun V => l10Many_any ⟨#[118]⟩ 3001 V (by decide) (by decide) (by decide))
      go_wp2_with fail
      refine (HM.out _).mono ?_
      rintro e w5 ⟨⟨s, rfl, _⟩, hw⟩
      have hw2 := hw.symm
      clear hw
      subst hw2
      obtain ⟨x0, x1, x2, y0, y1, y2⟩ := at_vbox (HA4.out.heap HBV.out hRV)
      obtain ⟨z0, z1, z2, u0, u1, u2⟩ := at_vbox (HA4.out.heap HBR.out hRW.symm)
      go_wp2
      exact bodyPost_ret (v := val vt vn s) (by simp [results, Tryz.results13, go_sem, z0, z1, z2]) rfl ⟨_, _, _, rfl, HZ.out, (((HAV.out.join HA4.out).mono (by omega)).set hR HGV.out _).set3 hR HG.out _ _ _⟩
  · have n0 : ¬ ((x : Int) = 0) := by omega
    obtain ⟨x0, x1, x2, y0, y1, y2⟩ := at_vbox (HA3.out.heap HBV.out hRV)
    obtain ⟨z0, z1, z2, u0, u1, u2⟩ := at_vbox (HA3.out.heap HBR.out hRW.symm)
    go_wp2
    exact bodyPost_ret (v := val vt vn vs) (by simp [results, Tryz.results13, go_sem, z0, z1, z2]) rfl ⟨_, _, _, rfl, HZ.out, ((HAV.out.join HA3.out).mono (by omega)).set3 hR HG.out _ _ _⟩
end Go.Proofs.YtabefhpgeaihgaaGreatDoor.V
