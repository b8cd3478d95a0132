import Derived.Test.YtmmgpbjmegfffaaDoorVBoth
import Derived.Deep.RegionHeld3
import Derived.Deep.DeepCutAuto
/-! Printed by gen_vlawb.py. The law of marks with two kids. -/
namespace Go.Proofs.YtmmgpbjmegfffaaDoor.V
open Go.RowKit Go.Shelf
set_option maxRecDepth 20000
abbrev lbox (t n : Int) (s : ByteArray) : Obj := .cells #[.int .i64 t, .int .i64 n, .string s] 23
/-- Two values of the law's came in. -/
def Came (w : World) (t n : Int) (s : ByteArray) (t2 n2 : Int) (x : ByteArray) (W : World) : Prop := Below (w.heap.size + 2) ((w.alloc (lbox t n s)).alloc (lbox t2 n2 x)) W
section
variable {w W V : World} {t n t2 n2 : Int} {s x : ByteArray}
theorem Came.next (h : Came w t n s t2 n2 x W) (k : Below W.heap.size W V) : Came w t n s t2 n2 x V := Below.trans h (k.mono (by have := Below.size h; simpa [Nat.add_assoc] using this))
theorem Came.below (h : Came w t n s t2 n2 x W) : Below w.heap.size w W := (alloc2 w _ _).trans (Below.mono h (by omega))
theorem Came.one (h : Came w t n s t2 n2 x W) : W.cell? ⟨w.heap.size, 0, none⟩ = some (.int .i64 t) ∧ W.cell? ⟨w.heap.size, 1, none⟩ = some (.int .i64 n) ∧ W.cell? ⟨w.heap.size, 2, none⟩ = some (.string s) :=
  cells_at h (by omega) (heap_old (heap_new w _))
theorem Came.two (h : Came w t n s t2 n2 x W) : W.cell? ⟨w.heap.size + 1, 0, none⟩ = some (.int .i64 t2) ∧ W.cell? ⟨w.heap.size + 1, 1, none⟩ = some (.int .i64 n2) ∧ W.cell? ⟨w.heap.size + 1, 2, none⟩ = some (.string x) :=
  cells_at h (by omega) (by have := heap_new (w.alloc (lbox t n s)) (lbox t2 n2 x); rwa [World.size_alloc] at this)
theorem Came.ge (h : Came w t n s t2 n2 x W) : w.heap.size + 2 ≤ W.heap.size := by have := Below.size h; simpa using this
end
theorem Came.set3 {g : Nat} {w W : World} {t n t2 n2 : Int} {s x : ByteArray} (h : Came w t n s t2 n2 x W) (hg : w.heap.size + 2 ≤ g) (u v z : Value) : Came w t n s t2 n2 x (((W.setCell ⟨g, 0, none⟩ u).setCell ⟨g, 1, none⟩ v).setCell ⟨g, 2, none⟩ z) :=
  set_below (set_below (set_below h _ _ hg _) _ _ hg _) _ _ hg _
/-- What was answered lies in a box; all that lay in W0 is as it was. -/
def Res (W0 : World) (y z : Int) (st : ByteArray) (v : Value) (W : World) : Prop := ∃ g, v = .pointer (some ⟨g, 0, none⟩) ∧ W.heap[g]? = some (vbox y z st) ∧ Below W0.heap.size W0 W
theorem put_box {W : World} {g : Nat} {y z y' z' : Int} {st st' : ByteArray} (h : W.heap[g]? = some (vbox y z st)) : (((W.setCell ⟨g, 0, none⟩ (.int .i64 y')).setCell ⟨g, 1, none⟩ (.int .i64 z')).setCell ⟨g, 2, none⟩ (.string st')).heap[g]? = some (vbox y' z' st') := by
  rw [heap_set (heap_set (heap_set h _) _) _]
  rfl
section
variable {W0 w3 w4 w5 : World} {y z : Int} {st : ByteArray}
theorem keep_box {W V : World} {g : Nat} {o : Obj} (h : W.heap[g]? = some o) (hb : Below W.heap.size W V) : V.heap[g]? = some o := (hb.block g (Array.getElem?_eq_some_iff.1 h).1).trans h
theorem go2 {a b c : World} (h : Below a.heap.size a b) (k : Below b.heap.size b c) : Below a.heap.size a c := h.trans (k.mono h.size)
theorem res_fin {g : Nat} (hb : Below W0.heap.size W0 w5) (hg : W0.heap.size ≤ g) (hx : w5.heap[g]? = some (vbox 0 0 wNone)) :
    Res W0 y z st (.pointer (some ⟨g, 0, none⟩)) (((w5.setCell ⟨g, 0, none⟩ (.int .i64 y)).setCell ⟨g, 1, none⟩ (.int .i64 z)).setCell ⟨g, 2, none⟩ (.string st)) :=
  ⟨g, rfl, put_box hx, setr hg hb _ _ _⟩
theorem six {W : World} {g : Nat} {t n : Int} {s : ByteArray} (e : W.heap[g]? = some (vbox t n s)) :
    W.cell? ⟨g, 0, none⟩ = some (.int .i64 t) ∧ W.cell? ⟨g, 1, none⟩ = some (.int .i64 n) ∧ W.cell? ⟨g, 2, none⟩ = some (.string s) ∧ W.frozen? ⟨g, 0, none⟩ = false ∧ W.frozen? ⟨g, 1, none⟩ = false ∧ W.frozen? ⟨g, 2, none⟩ = false := by
  refine ⟨?_, ?_, ?_, ?_, ?_, ?_⟩ <;> simp [World.cell?, World.frozen?, e]
theorem six_a (h3 : Below (W0.drew.alloc (vbox 0 0 wNone)).heap.size (W0.drew.alloc (vbox 0 0 wNone)) w3) (h4 : Below w3.heap.size w3 w4) (h5 : Below w4.heap.size w4 w5) : w5.heap[W0.heap.size]? = some (vbox 0 0 wNone) := keep_box (keep_box (keep_box (heap_new W0.drew _) h3) h4) h5
theorem six_b (h4 : Below (w3.alloc (vbox 0 0 wNone)).heap.size (w3.alloc (vbox 0 0 wNone)) w4) (h5 : Below w4.heap.size w4 w5) : w5.heap[w3.heap.size]? = some (vbox 0 0 wNone) := keep_box (keep_box (heap_new w3 _) h4) h5
theorem six_c (h5 : Below (w4.alloc (vbox 0 0 wNone)).heap.size (w4.alloc (vbox 0 0 wNone)) w5) : w5.heap[w4.heap.size]? = some (vbox 0 0 wNone) := keep_box (heap_new w4 _) h5
theorem res_a (h3 : Below (W0.drew.alloc (vbox 0 0 wNone)).heap.size (W0.drew.alloc (vbox 0 0 wNone)) w3) (h4 : Below w3.heap.size w3 w4) (h5 : Below w4.heap.size w4 w5) :
    Res W0 y z st (.pointer (some ⟨W0.heap.size, 0, none⟩)) (((w5.setCell ⟨W0.heap.size, 0, none⟩ (.int .i64 y)).setCell ⟨W0.heap.size, 1, none⟩ (.int .i64 z)).setCell ⟨W0.heap.size, 2, none⟩ (.string st)) :=
  res_fin (go2 (go2 (go2 (go2 (Below.refl _ W0).drew (alloc_below _ _)) h3) h4) h5) (Nat.le_refl _) (six_a h3 h4 h5)
theorem res_b (h3 : Below W0.drew.heap.size W0.drew w3) (h4 : Below (w3.alloc (vbox 0 0 wNone)).heap.size (w3.alloc (vbox 0 0 wNone)) w4) (h5 : Below w4.heap.size w4 w5) :
    Res W0 y z st (.pointer (some ⟨w3.heap.size, 0, none⟩)) (((w5.setCell ⟨w3.heap.size, 0, none⟩ (.int .i64 y)).setCell ⟨w3.heap.size, 1, none⟩ (.int .i64 z)).setCell ⟨w3.heap.size, 2, none⟩ (.string st)) :=
  res_fin (go2 (go2 (go2 (go2 (Below.refl _ W0).drew h3) (alloc_below _ _)) h4) h5) h3.size (six_b h4 h5)
theorem res_c (h3 : Below W0.drew.heap.size W0.drew w3) (h4 : Below w3.heap.size w3 w4) (h5 : Below (w4.alloc (vbox 0 0 wNone)).heap.size (w4.alloc (vbox 0 0 wNone)) w5) :
    Res W0 y z st (.pointer (some ⟨w4.heap.size, 0, none⟩)) (((w5.setCell ⟨w4.heap.size, 0, none⟩ (.int .i64 y)).setCell ⟨w4.heap.size, 1, none⟩ (.int .i64 z)).setCell ⟨w4.heap.size, 2, none⟩ (.string st)) :=
  res_fin (go2 (go2 (go2 (go2 (Below.refl _ W0).drew h3) h4) (alloc_below _ _)) h5) (Nat.le_trans h3.size h4.size) (six_c h5)
theorem res_d (h3 : Below W0.drew.heap.size W0.drew w3) (h4 : Below w3.heap.size w3 w4) (h5 : Below w4.heap.size w4 w5) :
    Res W0 y z st (.pointer (some ⟨w5.heap.size, 0, none⟩)) (w5.alloc (vbox y z st)) := ⟨_, rfl, heap_new w5 _, go2 (go2 (go2 (go2 (Below.refl _ W0).drew h3) h4) h5) (alloc_below _ _)⟩
end
set_option maxHeartbeats 8000000 in
theorem law_bin (op t n : Int) (s : ByteArray) (t2 n2 : Int) (x : ByteArray) (w : World) (hs : s.size ≤ maxLen) (hn1 : -9223372036854775808 ≤ n) (hn2 : n ≤ 9223372036854775807) (hy : x.size ≤ maxLen) (hm1 : -9223372036854775808 ≤ n2) (hm2 : n2 ≤ 9223372036854775807) (p q l : Addr) (hp : ErrAt w 0 p wType) (hq : ErrAt w 2 q wDiv) (hl : ErrAt w 1 l wLong) :
    Calls Tryd.prog 3 #[.int .i64 op, val t n s, val t2 n2 x] w fun e w' => e = .returned (.bool true) ∧ Below w.heap.size w w' := by
  have HE : Hid (Errs w p q l) := ⟨hp, hq, hl⟩
  have HC0 : Hid (Came w t n s t2 n2 x ((w.alloc (lbox t n s)).alloc (lbox t2 n2 x))) := Below.refl _ _
  obtain ⟨y, z, st, wd, h1, h2⟩ := both_any op t n s t2 n2 x hn1 hn2 hm1 hm2 p q l
  have HS := hid h1
  have HI := hid h2
  clear h1 h2 hp hq hl
  have e3 : (wd.toList != wd.toList) = false := by simp
  have T1 := hid (toVal_any t n s)
  have T2 := hid (toVal_any t2 n2 x)
  have HSX : Hid (∀ W, Came w t n s t2 n2 x W → (W.cell? ⟨w.heap.size, 0, none⟩ = some (.int .i64 t) ∧ W.cell? ⟨w.heap.size, 1, none⟩ = some (.int .i64 n) ∧ W.cell? ⟨w.heap.size, 2, none⟩ = some (.string s)) ∧ (W.cell? ⟨w.heap.size + 1, 0, none⟩ = some (.int .i64 t2) ∧ W.cell? ⟨w.heap.size + 1, 1, none⟩ = some (.int .i64 n2) ∧ W.cell? ⟨w.heap.size + 1, 2, none⟩ = some (.string x))) := fun W h => ⟨h.one, h.two⟩
  obtain ⟨x0, x1, x2⟩ := HC0.out.one
  go_enter Tryd.func3, Tryd.ntmps3
  go_wp2_with fail
  refine (szVal_any t n 1048576 s _ hs (by decide) (by decide)).mono ?_
  rintro e w1 ⟨⟨r, rfl, hr1, _⟩, hb1⟩
  have HC1 := hid (HC0.out.next hb1)
  clear hb1 x0 x1 x2
  by_cases hr : r < 0
  · go_wp2
    go_ret
    exact ⟨rfl, HC1.out.below⟩
  · obtain ⟨x0, x1, x2⟩ := HC1.out.two
    go_wp2_with fail
    refine (szVal_any t2 n2 r x _ hy (by omega) (by omega)).mono ?_
    rintro e w2 ⟨⟨r2, rfl, hr2, _⟩, hb2⟩
    have HC2 := hid (HC1.out.next hb2)
    clear hb2 x0 x1 x2
    by_cases hr3 : r2 < 0
    · go_wp2
      go_ret
      exact ⟨rfl, HC2.out.below⟩
    · have hr4 : ¬ r2 < 0 := hr3
      go_upto_region 8 with fail
      obtain ⟨⟨x0, x1, x2⟩, ⟨z0, z1, z2⟩⟩ := HSX.out _ HC2.out
      have HCD := hid (HC2.out.next (Below.refl _ _).drew)
      go_cut [8, 9] (fun v u wx => u = .string wd ∧ Res w2 y z st v wx)
      case first =>
        go_region_held3 (fun W => (W.cell? ⟨w.heap.size, 0, none⟩ = some (.int .i64 t) ∧ W.cell? ⟨w.heap.size, 1, none⟩ = some (.int .i64 n) ∧ W.cell? ⟨w.heap.size, 2, none⟩ = some (.string s)) ∧ (W.cell? ⟨w.heap.size + 1, 0, none⟩ = some (.int .i64 t2) ∧ W.cell? ⟨w.heap.size + 1, 1, none⟩ = some (.int .i64 n2) ∧ W.cell? ⟨w.heap.size + 1, 2, none⟩ = some (.string x))) (first | (exact HSX.out _ HC5.out) | (exact HSX.out _ (HC5.out.next (alloc_below _ _))) | (exact HSX.out _ HC4.out) | (exact HSX.out _ (HC4.out.next (alloc_below _ _))) | (exact HSX.out _ HC3.out) | (exact HSX.out _ (HC3.out.next (alloc_below _ _))) | (exact HSX.out _ (HCD.out.next (alloc_below _ _))) | (exact HSX.out _ (HC5.out.set3 (HC2.out.ge) _ _ _)) | (exact HSX.out _ (HC5.out.set3 (HC3.out.ge) _ _ _)) | (exact HSX.out _ (HC5.out.set3 (HC4.out.ge) _ _ _)) | go_keep) (first
          | (have gg := HC4.out; clear gg; go_at_call 6; refine (HS.out _).mono ?_; rintro e w5 ⟨rfl, hb5⟩; have HB5 := hid hb5; have HC5 : Hid (Came w t n s t2 n2 x w5) := (by first | exact HC4.out.next hb5 | exact (HC4.out.next (alloc_below _ _)).next hb5); (first | (have hq := six_a (W0 := w2) (w3 := w3) (w4 := w4) (w5 := w5) HB3.out HB4.out hb5; obtain ⟨b0, b1, b2, d0, d1, d2⟩ := six hq; clear hq) | (have hq := six_b (w3 := w3) (w4 := w4) (w5 := w5) HB4.out hb5; obtain ⟨b0, b1, b2, d0, d1, d2⟩ := six hq; clear hq) | (have hq := six_c (w4 := w4) (w5 := w5) hb5; obtain ⟨b0, b1, b2, d0, d1, d2⟩ := six hq; clear hq) | skip); clear hb5)
          | (have gg := HC3.out; clear gg; go_at_call 7; refine (T2.out _).mono ?_; rintro e w4 ⟨rfl, hb4⟩; have HB4 := hid hb4; have HC4 : Hid (Came w t n s t2 n2 x w4) := (by first | exact HC3.out.next hb4 | exact (HC3.out.next (alloc_below _ _)).next hb4); clear hb4)
          | (go_at_call 7; refine (T1.out _).mono ?_; rintro e w3 ⟨rfl, hb3⟩; have HB3 := hid hb3; have HC3 : Hid (Came w t n s t2 n2 x w3) := (by first | exact HCD.out.next hb3 | exact (HCD.out.next (alloc_below _ _)).next hb3); clear hb3)
          | fail)
        all_goals go_wp2_with fail
        all_goals go_meet
        all_goals first | exact ⟨rfl, res_d HB3.out HB4.out HB5.out⟩ | exact ⟨rfl, res_a HB3.out HB4.out HB5.out⟩ | exact ⟨rfl, res_b HB3.out HB4.out HB5.out⟩ | exact ⟨rfl, res_c HB3.out HB4.out HB5.out⟩
      case rest =>
        obtain ⟨rfl, g, rfl, hbx, hbw⟩ := hcut
        have HBX := hid hbx
        have HC6 := hid (HC2.out.next hbw)
        clear hbx hbw x0 x1 x2 z0 z1 z2 HCD
        obtain ⟨w6, hw6⟩ : ∃ w6, wc = w6 := ⟨_, rfl⟩
        subst hw6
        go_upto_region 9 with fail
        obtain ⟨⟨x0, x1, x2⟩, ⟨z0, z1, z2⟩⟩ := HSX.out _ HC6.out
        have HCD := hid (HC6.out.next (Below.refl _ _).drew)
        go_cut [10, 11] (fun v u wx => u = .string wd ∧ Res wc y z st v wx)
        case first =>
          go_region_held3 (fun W => (W.cell? ⟨w.heap.size, 0, none⟩ = some (.int .i64 t) ∧ W.cell? ⟨w.heap.size, 1, none⟩ = some (.int .i64 n) ∧ W.cell? ⟨w.heap.size, 2, none⟩ = some (.string s)) ∧ (W.cell? ⟨w.heap.size + 1, 0, none⟩ = some (.int .i64 t2) ∧ W.cell? ⟨w.heap.size + 1, 1, none⟩ = some (.int .i64 n2) ∧ W.cell? ⟨w.heap.size + 1, 2, none⟩ = some (.string x))) (first | (exact HSX.out _ HC9.out) | (exact HSX.out _ (HC9.out.next (alloc_below _ _))) | (exact HSX.out _ HC8.out) | (exact HSX.out _ (HC8.out.next (alloc_below _ _))) | (exact HSX.out _ HC7.out) | (exact HSX.out _ (HC7.out.next (alloc_below _ _))) | (exact HSX.out _ (HCD.out.next (alloc_below _ _))) | (exact HSX.out _ (HC9.out.set3 (HC6.out.ge) _ _ _)) | (exact HSX.out _ (HC9.out.set3 (HC7.out.ge) _ _ _)) | (exact HSX.out _ (HC9.out.set3 (HC8.out.ge) _ _ _)) | go_keep) (first
            | (have gg := HC8.out; clear gg; go_at_call 8; refine (HI.out _ (by first | exact HE.out.next HC8.out.below | exact HE.out.next (HC8.out.next (alloc_below _ _)).below)).mono ?_; rintro e w9 ⟨rfl, hb9⟩; have HB9 := hid hb9; have HC9 : Hid (Came w t n s t2 n2 x w9) := (by first | exact HC8.out.next hb9 | exact (HC8.out.next (alloc_below _ _)).next hb9); (first | (have hq := six_a (W0 := wc) (w3 := w7) (w4 := w8) (w5 := w9) HB7.out HB8.out hb9; obtain ⟨b0, b1, b2, d0, d1, d2⟩ := six hq; clear hq) | (have hq := six_b (w3 := w7) (w4 := w8) (w5 := w9) HB8.out hb9; obtain ⟨b0, b1, b2, d0, d1, d2⟩ := six hq; clear hq) | (have hq := six_c (w4 := w8) (w5 := w9) hb9; obtain ⟨b0, b1, b2, d0, d1, d2⟩ := six hq; clear hq) | skip); clear hb9)
            | (have gg := HC7.out; clear gg; go_at_call 7; refine (T2.out _).mono ?_; rintro e w8 ⟨rfl, hb8⟩; have HB8 := hid hb8; have HC8 : Hid (Came w t n s t2 n2 x w8) := (by first | exact HC7.out.next hb8 | exact (HC7.out.next (alloc_below _ _)).next hb8); clear hb8)
            | (go_at_call 7; refine (T1.out _).mono ?_; rintro e w7 ⟨rfl, hb7⟩; have HB7 := hid hb7; have HC7 : Hid (Came w t n s t2 n2 x w7) := (by first | exact HCD.out.next hb7 | exact (HCD.out.next (alloc_below _ _)).next hb7); clear hb7)
            | fail)
          all_goals go_wp2_with fail
          all_goals go_meet
          all_goals first | exact ⟨rfl, res_d HB7.out HB8.out HB9.out⟩ | exact ⟨rfl, res_a HB7.out HB8.out HB9.out⟩ | exact ⟨rfl, res_b HB7.out HB8.out HB9.out⟩ | exact ⟨rfl, res_c HB7.out HB8.out HB9.out⟩
        case rest =>
          obtain ⟨rfl, g2, rfl, hbx2, hbw2⟩ := hcut
          obtain ⟨x0, x1, x2, _, _, _⟩ := six hbx2
          obtain ⟨z0, z1, z2, _, _, _⟩ := six (keep_box HBX.out hbw2)
          have HC10 := hid (HC6.out.next hbw2)
          clear hbw2
          go_wp2_with fail
          refine (eqVal_any y z st _).mono ?_
          rintro e w11 ⟨rfl, hb11⟩
          have HC11 := hid (HC10.out.next hb11)
          clear hb11 x0 x1 x2 z0 z1 z2
          go_wp2
          go_ret
          exact ⟨rfl, HC11.out.below⟩
end Go.Proofs.YtmmgpbjmegfffaaDoor.V
