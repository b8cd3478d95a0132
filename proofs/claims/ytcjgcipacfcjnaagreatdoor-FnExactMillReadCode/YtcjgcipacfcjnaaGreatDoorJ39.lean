import Derived.Test.YtcjgcipacfcjnaaGreatDoorJ37
namespace Go.Proofs.YtcjgcipacfcjnaaGreatDoor.C.D
open Go.RowKit
set_option maxRecDepth 20000
def RFnEnd (s : ByteArray) (d p : Nat) (b : Bool) (w : World) (e : Ending) (w' : World) : Prop := ∃ (f : Fn) (pv iv : Value) (q : Nat) (c : Bool), e = .returned (.agg #[.string f.name, pv, .int .i64 f.result, .int .i64 f.slots, iv]) ∧ OwnI w.heap.size w' pv f.params ∧ OwnN w.heap.size w' iv f.ins ∧ (∀ x ∈ f.ins, -9223372036854775808 ≤ x.n ∧ x.n ≤ 9223372036854775807) ∧ Wt b p (R.wFn f) q c ∧ DS w' d s q c ∧ q ≤ s.size ∧ w.grownBy w' (some d) ∧ Sg s p b q c (fun _ => []) (fun y => f = y)
structure PI (s : ByteArray) (d p g : Nat) (b : Bool) (w : World) (nm : ByteArray) (l : List Int) (pv : Value) (m q : Nat) (c : Bool) (W : World) : Prop where
 gx : GX w d g nm pv 0 0 (.slice none 0 0) W
 own : OwnI w.heap.size W pv l
 ds : DS W d s q c
 le : q ≤ s.size
 few : l.length + m ≤ 8
 wt : Wt b p (nm.size + l.length) q c
 sg : ParS s p b nm l m q c
theorem PI.stop {s : ByteArray} {d p g : Nat} {b : Bool} {w : World} {nm : ByteArray} {l : List Int} {pv : Value} {m q : Nat} {c : Bool} {W : World} (h : PI s d p g b w nm l pv m q c W) (hs : m = 0 ∨ c = true) : Sg s p b q c rm1 (fun y => nm = y.name ∧ l = y.params) := fun y e1 e2 e3 => by
 obtain ⟨h1, ⟨h2, h3, h4⟩, h5, h6⟩ := h.sg y e1 e2 e3
 rcases hs with rfl | rfl
 ·have hl : l.length = y.params.length := by omega
  dsimp only at h5 h6
  rw [hl, List.drop_length] at h5 h6
  rw [hl, List.take_length] at h3
  exact ⟨h1, ⟨h2, h3⟩, h5, h6⟩
 ·cases h1
theorem PI.step {s : ByteArray} {d p g : Nat} {b : Bool} {w : World} {nm : ByteArray} {l : List Int} {pv v9 : Value} {m q q' n : Nat} {c' : Bool} {W W9 : World} (h : PI s d p g b w nm l pv (m + 1) q false W) (hx : GX w d g nm pv 0 0 (.slice none 0 0) W9) (ho : W9.ownsRow w.heap.size 3 1 v9 (l.length + 1) (intsC l ++ [.int .i64 (n : Int)])) (hd : DS W9 d s q' c') (h1 : q ≤ q') (h2 : q' ≤ s.size) (h3 : c' = false → false = false ∧ q < q')
  (hm : ∀ k, false = false → k ≤ 10 → Fr (nb k) ((bts s).drop q) → n = k ∧ q' = q + (nb k).length ∧ c' = false) : PI s d p g b w nm (l ++ [(n : Int)]) v9 m q' c' (W9.setCell ⟨g, 1, none⟩ v9) := by
 have hl : (l ++ [(n : Int)]).length = l.length + 1 := by simp
 have hlt := h.gx.lt
 have hdl := h.gx.dl
 refine ⟨hx.set1 _, own_setT (OwnI.more ho) hx.e1 (by decide) 1 _, hd.setO (by omega) _ _, h2, by rw [hl]; have := h.few; omega, ?_, h.sg.step hm⟩
 have := Wt.more (t := 0) h.wt (by omega) (fun e => ⟨rfl, by have := (h3 e).2; omega⟩)
 rw [hl]
 exact this
structure NV (s : ByteArray) (d p g : Nat) (b : Bool) (w : World) (nm : ByteArray) (pl : List Int) (pv : Value) (r sl : Int) (l : List In) (iv : Value) (m q : Nat) (c : Bool) (W : World) : Prop where
 gx : GX w d g nm pv r sl iv W
 ownp : OwnI w.heap.size W pv pl
 own : OwnN w.heap.size W iv l
 n64 : ∀ x ∈ l, -9223372036854775808 ≤ x.n ∧ x.n ≤ 9223372036854775807
 ds : DS W d s q c
 le : q ≤ s.size
 few : l.length + m ≤ 50000
 wt : Wt b p (nm.size + pl.length + R.wSIn l l.length) q c
 sg : InnS s p b (fun y => ((nm = y.name ∧ pl = y.params) ∧ r = y.result) ∧ sl = y.slots) l m q c
theorem NV.stop {s : ByteArray} {d p g : Nat} {b : Bool} {w : World} {nm : ByteArray} {pl : List Int} {pv : Value} {r sl : Int} {l : List In} {iv : Value} {m q : Nat} {c : Bool} {W : World} (h : NV s d p g b w nm pl pv r sl l iv m q c W) (hs : m = 0 ∨ c = true) : Sg s p b q c (fun _ => []) (fun y => (⟨nm, pl, r, sl, l⟩ : Fn) = y) := fun y e1 e2 e3 => by
 obtain ⟨h1, ⟨⟨⟨⟨h2, h2b⟩, h2c⟩, h2d⟩, h3, h4⟩, h5, h6⟩ := h.sg y e1 e2 e3
 rcases hs with rfl | rfl
 ·have hl : l.length = y.ins.length := by omega
  dsimp only at h5 h6
  rw [hl, List.drop_length] at h5 h6
  rw [hl, List.take_length] at h3
  refine ⟨h1, ?_, h5, h6⟩
  obtain ⟨a1, a2, a3, a4, a5⟩ := y
  dsimp only at h2 h2b h2c h2d h3
  rw [h2, h2b, h2c, h2d, h3]
 ·cases h1
theorem NV.step {s : ByteArray} {d p g : Nat} {b : Bool} {w : World} {nm : ByteArray} {pl : List Int} {pv : Value} {r sl : Int} {l : List In} {iv v9 : Value} {m q q' : Nat} {x : In} {c' : Bool} {W W9 : World} (h : NV s d p g b w nm pl pv r sl l iv (m + 1) q false W) (hx : GX w d g nm pv r sl iv W9) (hop : OwnI w.heap.size W9 pv pl) (ho : W9.ownsRow w.heap.size 84 4 v9 (l.length + 1) (insC l ++ [.int .i64 x.op, .int .i64 x.a, .int .i64 x.n, .string x.text])) (hn : -9223372036854775808 ≤ x.n ∧ x.n ≤ 9223372036854775807) (hd : DS W9 d s q' c') (h1 : q + x.text.size ≤ q') (h2 : q' ≤ s.size) (h3 : c' = false → false = false ∧ q + x.text.size < q')
  (hm : ∀ k, false = false → InS k → Fr (insF k) ((bts s).drop q) → x = k ∧ q' = q + (insF k).length ∧ c' = false) : NV s d p g b w nm pl pv r sl (l ++ [x]) v9 m q' c' (W9.setCell ⟨g, 4, none⟩ v9) := by
 have hl : (l ++ [x]).length = l.length + 1 := by simp
 have hlt := h.gx.lt
 have hdl := h.gx.dl
 refine ⟨hx.set4 _, own_setT hop hx.e1 (by decide) 4 _, own_setT (OwnN.more ho) hx.e1 (by decide) 4 _, fun z hz => ?_, hd.setO (by omega) _ _, h2, by rw [hl]; have := h.few; omega, ?_, h.sg.step hm⟩
 ·rcases List.mem_append.1 hz with hz | hz
  ·exact h.n64 z hz
  ·simp at hz
   subst hz
   exact hn
 ·have := Wt.more (t := x.text.size) h.wt h1 h3
  rw [wSIn_app]
  have e : nm.size + pl.length + (R.wSIn l l.length + 1 + x.text.size) = nm.size + pl.length + R.wSIn l l.length + 1 + x.text.size := by omega
  rw [e]
  exact this
theorem fn_fin {s : ByteArray} {d p g q : Nat} {b c : Bool} {w W : World} {nm : ByteArray} {pl : List Int} {pv : Value} {r sl : Int} {l : List In} {iv : Value} {m : Nat} (h : NV s d p g b w nm pl pv r sl l iv m q c W) (hs : m = 0 ∨ c = true) (v0 v1 v2 v3 v4 : Value) :
  RFnEnd s d p b w (.returned (.agg #[.string nm, pv, .int .i64 r, .int .i64 sl, iv])) (((((W.setCell ⟨w.heap.size, 0, none⟩ v0).setCell ⟨w.heap.size, 1, none⟩ v1).setCell ⟨w.heap.size, 2, none⟩ v2).setCell ⟨w.heap.size, 3, none⟩ v3).setCell ⟨w.heap.size, 4, none⟩ v4) := by
 have hl := h.gx.dl
 have hst := h.stop hs
 have e0 := h.gx.e0
 have key : ∀ {t : Nat} {k n : Nat} {v : Value} {xs : List Value}, ¬ 57 = t → W.ownsRow w.heap.size t k v n xs → (((((W.setCell ⟨w.heap.size, 0, none⟩ v0).setCell ⟨w.heap.size, 1, none⟩ v1).setCell ⟨w.heap.size, 2, none⟩ v2).setCell ⟨w.heap.size, 3, none⟩ v3).setCell ⟨w.heap.size, 4, none⟩ v4).ownsRow w.heap.size t k v n xs := fun hne ho =>
  own_keepR ho fun x cur _ hx => by
   have hxe : ¬ x = w.heap.size := fun e => by
    subst e
    rw [e0] at hx
    injection hx with hx
    injection hx with _ hx _
    exact hne hx
   rw [set_other _ _ _ _ _ hxe, set_other _ _ _ _ _ hxe, set_other _ _ _ _ _ hxe, set_other _ _ _ _ _ hxe, set_other _ _ _ _ _ hxe]
 exact ⟨⟨nm, pl, r, sl, l⟩, pv, iv, q, c, rfl, key (by decide) h.ownp, key (by decide) h.own, h.n64, h.wt, ((((h.ds.setO (by omega) _ _).setO (by omega) _ _).setO (by omega) _ _).setO (by omega) _ _).setO (by omega) _ _, h.le, grown_hi (grown_hi (grown_hi (grown_hi (grown_hi h.gx.gr (Nat.le_refl _) _ _) (Nat.le_refl _) _ _) (Nat.le_refl _) _ _) (Nat.le_refl _) _ _) (Nat.le_refl _) _ _, hst⟩
theorem info_int : ∃ i, Tryz.prog.info? 3 = some i ∧ i.zero = some (.int .i64 0) ∧ i.size = 1 ∧ i.bytes = 8 := int_parts
theorem info_ins : ∃ i, Tryz.prog.info? 84 = some i ∧ i.zero = some (.agg #[.int .i64 0, .int .i64 0, .int .i64 0, .string ⟨#[]⟩]) ∧ i.size = 4 ∧ i.bytes = 40 := info_parts (by kernel_rfl)
theorem info_fn : ∃ i, Tryz.prog.info? 57 = some i ∧ i.zero = some (.agg #[.string ⟨#[]⟩, .slice none 0 0, .int .i64 0, .int .i64 0, .slice none 0 0]) ∧ i.size = 5 ∧ i.bytes = 80 := info_parts (by kernel_rfl)
theorem one_int (x : Int) : ∀ u ∈ ([Value.int .i64 x] : List Value), u.oneCell' = true := fun u hu => by simp at hu; subst hu; rfl
theorem lit_four (W : World) (t : TypeId) (a b c e : Value) : ∀ j u, ([a, b, c, e] : List Value)[j]? = some u → (W.alloc (.cells #[a, b, c, e] t)).cell? ((⟨W.heap.size, 0, none⟩ : Addr).add j) = some u := fun j u hj => by
 match j, hj with
 | 0, hj => simp at hj; subst hj; simp [Addr.add]
 | 1, hj => simp at hj; subst hj; simp [Addr.add]
 | 2, hj => simp at hj; subst hj; simp [Addr.add]
 | 3, hj => simp at hj; subst hj; simp [Addr.add]
theorem one_four (o a n : Int) (t : ByteArray) : ∀ u ∈ ([Value.int .i64 o, Value.int .i64 a, Value.int .i64 n, Value.string t] : List Value), u.oneCell' = true := fun u hu => by
 simp at hu
 rcases hu with rfl | rfl | rfl | rfl <;> rfl
set_option maxHeartbeats 8000000 in
theorem fn_anyD {s : ByteArray} {d p : Nat} {b : Bool} {w : World} (h : DS w d s p b) (hp : p ≤ s.size) (hs : s.size ≤ 200000) :
  Calls Tryz.prog 26 #[.pointer (some ⟨d, 0, none⟩)] w (RFnEnd s d p b w) := by
 have HB0 : Hid (Below w.heap.size w (w.alloc (gbox ⟨#[]⟩ (.slice none 0 0) 0 0 (.slice none 0 0)))) := hid ((Below.refl _ _).alloc (Nat.le_refl _) _)
 have HE0 : Hid ((w.alloc (gbox ⟨#[]⟩ (.slice none 0 0) 0 0 (.slice none 0 0))).heap[w.heap.size]? = some (gbox ⟨#[]⟩ (.slice none 0 0) 0 0 (.slice none 0 0))) := hid (heap_alloc_new _ _)
 have HN := hid (text_anyD (h.next HB0.out) hp hs)
 have HDL := hid (lt_hp h)
 clear h
 obtain ⟨W0, hW0⟩ : ∃ W, w.alloc (gbox ⟨#[]⟩ (.slice none 0 0) 0 0 (.slice none 0 0)) = W := ⟨_, rfl⟩
 rw [hW0] at HB0 HE0 HN
 unfold gbox at hW0
 go_enter Tryz.func26, Tryz.ntmps26
 go_wp2_with fail
 clear hW0
 refine HN.out.mono ?_
 rintro e w1 ⟨nm, q1, b1, rfl, hn1, h11, hd1, h12, h13, hg1, hm1⟩
 have HL1 : Hid (w.heap.size < w1.heap.size) := hid (Nat.lt_of_lt_of_le (lt_hp HE0.out) hg1.size)
 have HS1 : Hid (Sg s p b q1 b1 (fun y => nb y.params.length ++ (parF y.params ++ rm1 y)) (fun y => nm = y.name)) := hid fun y e1 e2 e3 => by
  rw [fnF_rm] at e3
  have h5 := fr_at e3
  have h6 := hm1 y.name e1 e2.name h5.1
  refine ⟨h6.2.2, h6.1, by rw [h6.2.1]; exact h5.2, ?_⟩
  rw [h6.2.1, fnF_rm]
  simp only [List.length_append]
  omega
 have HT1 : Hid (Wt b p nm.size q1 b1) := hid ⟨h13, by omega⟩
 have HW1 : Hid (GX w d w1.heap.size nm (.slice none 0 0) 0 0 (.slice none 0 0) (w1.alloc (.cells #[.string nm, .slice none 0 0, .int .i64 0, .int .i64 0, .slice none 0 0] 57)) ∧ DS (w1.alloc (.cells #[.string nm, .slice none 0 0, .int .i64 0, .int .i64 0, .slice none 0 0] 57)) d s q1 b1) := hid (by
  have hb : Below w1.heap.size w1 (w1.alloc (.cells #[.string nm, .slice none 0 0, .int .i64 0, .int .i64 0, .slice none 0 0] 57)) := (Below.refl _ _).alloc (Nat.le_refl _) _
  refine ⟨⟨grown_below (grown_trans (grown_of d HB0.out) hg1) hb, hp_next (grown_hp hg1 HE0.out (by have := HDL.out; omega)) hb, heap_alloc_new _ _, HL1.out, HDL.out⟩, hd1.next hb⟩)
 clear hd1 hg1 hm1 h13 HN
 go_upto_region 2 with fail
 obtain ⟨W1, hW1⟩ : ∃ W, w1.alloc (.cells #[.string nm, .slice none 0 0, .int .i64 0, .int .i64 0, .slice none 0 0] 57) = W := ⟨_, rfl⟩
 rw [hW1] at HW1 ⊢
 obtain ⟨g, hg⟩ : ∃ g, w1.heap.size = g := ⟨_, rfl⟩
 rw [hg] at HW1 ⊢
 clear hW1 hg HL1
 have HN2 := hid (small_any (M := 8) HW1.out.2 h12 hs (by omega))
 go_wp2_with fail
 refine HN2.out.mono ?_
 rintro e w2 ⟨n2, q2, b2, rfl, hn2, hd2, h21, h22, h23, h24, hg2, hm2⟩
 have HPI : Hid (PI s d p g b w nm [] (.slice none 0 0) n2 q2 b2 w2) := hid (by
  refine ⟨HW1.out.1.grow hg2, OwnI.nil _ _, hd2, h22, by simpa using hn2, by simpa using HT1.out.num h21 h23, fun y e1 e2 e3 => ?_⟩
  have h5 := (HS1.out.num (rem' := fun y => parF y.params ++ rm1 y) (fun y => (y.params.length : Int)) (fun y hy => by rw [u64_nat _ (by have := hy.few; omega)]) (fun y hy => by have := hy.few; omega) (by omega) hm2) y e1 e2 e3
  obtain ⟨h6, ⟨h7, h8⟩, h9, h10⟩ := h5
  exact ⟨h6, ⟨h7, by simp, by simp; omega⟩, by simpa using h9, by simpa using h10⟩)
 clear hd2 hg2 hm2 HN2 HW1 HS1 HT1
 obtain ⟨i0, hi, hz0, hz1, hz2⟩ := info_int
 have HHI := hid (And.intro hi (And.intro hz0 (And.intro hz1 hz2)))
 clear hi hz0 hz1 hz2
 go_wp2_with fail
 go_loopw [4] (fun n wr => ∃ (m : Nat) (l : List Int) (pv : Value) (q : Nat) (c : Bool), n = .int .i64 m ∧ PI s d p g b w nm l pv m q c wr) (fun n _ => (intOf n).toNat)
 case atStart => exact ⟨n2, [], _, q2, b2, rfl, HPI.out⟩
 case round =>
  obtain ⟨m, l, pv, q, c, rfl, hpi⟩ := hrel
  have HP := hid hpi
  obtain ⟨ad, cp, rfl⟩ := hpi.own.sl
  obtain ⟨_, _, k2, _, _⟩ := hpi.ds.c
  have hfew := hpi.few
  have hle := hpi.le
  clear hpi HPI
  by_cases hgo : 0 < m ∧ c = false
  ·obtain ⟨hm0, rfl⟩ := hgo
   obtain ⟨m', rfl⟩ : ∃ m', m = m' + 1 := ⟨m - 1, by omega⟩
   have hm1 : (0 : Int) < ((m' + 1 : Nat) : Int) := by omega
   have HG : Hid (∀ V, wr.grownBy V (some d) → V.cell? ⟨g, 1, none⟩ = some (.slice ad l.length cp) ∧ V.frozen? ⟨g, 1, none⟩ = false) := hid fun V hV => ⟨(gbox_c (HP.out.gx.grow hV).e1).2.1, (gbox_f (HP.out.gx.grow hV).e1).2.1⟩
   obtain ⟨p5, z5⟩ := HG.out _ (grown_refl _ _)
   obtain ⟨p6, z6⟩ := HG.out _ (grown_drew (grown_refl _ _))
   go_wp2_with fail
   go_region_law (first
    | (refine step_entR rfl (f := 25) (vals := #[.pointer (some ⟨d, 0, none⟩), .int .i64 10]) (by kernel_rfl) (small_any (M := 10) HP.out.ds.drew hle hs (by omega)) ?_; intro e w7 hq7; obtain ⟨n7, q7, c7, rfl, hn7, hd7, h71, h72, h73, h74, hg7, hm7⟩ := hq7; refine ⟨_, rfl, ?_⟩; have HG7 : Hid (wr.grownBy w7 (some d)) := hid (grown_trans (grown_drew (grown_refl _ _)) hg7); have HG7A : Hid (wr.grownBy (w7.alloc (.cells #[.int .i64 n7] 3)) (some d)) := hid (grown_below HG7.out ((Below.refl _ _).alloc (Nat.le_refl _) _)); obtain ⟨p7, z7⟩ := HG.out _ HG7.out; obtain ⟨p7a, z7a⟩ := HG.out _ HG7A.out; have HD7 := hid hd7; have H73 := hid h73; have HM7 := hid hm7; clear hd7 hg7 hm7 h73)
    | (refine step_appR rfl (.tmp 23) (.tmp 26) 54 rfl w.heap.size 3 i0 (.int .i64 0) 1 8 Tryz.underlying54 HHI.out.1 HHI.out.2.1 HHI.out.2.2.1 HHI.out.2.2.2 rfl (by decide) (.slice ad l.length cp) l.length (intsC l) (by simp [Act.eval]) (own_growD HP.out.own HG7A.out HDL.out) ⟨w7.heap.size, 0, none⟩ 1 1 [.int .i64 n7] (by simp [Act.eval]) rfl (lit_one _ _ _) (one_int _) (by unfold maxLen; omega) (by omega) (Nat.le_trans HP.out.gx.gr.size HG7A.out.size) ?_; intro v9 w9 o9 g9; have HO9 := hid o9; have HX9 := hid ((HP.out.gx.grow HG7A.out).own (own_growD HP.out.own HG7A.out HDL.out) (by decide) g9); have HD9 : Hid (DS w9 d s q7 c7) := hid (box_other (HD7.out.next ((Below.refl _ _).alloc (Nat.le_refl _) _)) (own_growD HP.out.own HG7A.out HDL.out) (by decide) g9); obtain ⟨a9, c9, rfl⟩ := own_slN o9; have p9 := (gbox_c HX9.out.e1).2.1; have z9 := (gbox_f HX9.out.e1).2.1; clear o9 g9))
   all_goals
    have HN9 := hid (HP.out.step HX9.out HO9.out HD9.out h71 h72 H73.out HM7.out)
    go_wp2
    go_roundw
    case rel => exact ⟨m', _, _, q7, c7, by go_num, HN9.out⟩
    case measure => simp [intOf]
  ·have HST : Hid (m = 0 ∨ c = true) := hid (by cases c <;> simp at hgo ⊢; omega)
   have HSG := hid (HP.out.stop HST.out)
   have HN6 := hid (small_any (M := 10) HP.out.ds hle hs (by omega))
   have HOR : Hid (((0 : Int) < (m : Int) ∧ c = true) ∨ m = 0) := hid (by rcases HST.out with h | h; exact .inr h; exact (Nat.eq_zero_or_pos m).symm.imp_left fun h9 => ⟨by omega, h⟩)
   clear hgo HST
   obtain ⟨j0, hi, hz0, hz1, hz2⟩ := info_ins
   have HHJ := hid (And.intro hi (And.intro hz0 (And.intro hz1 hz2)))
   clear hi hz0 hz1 hz2
   rcases HOR.out with ⟨hmi, rfl⟩ | rfl
   all_goals go_wp2_with fail
   all_goals refine HN6.out.mono ?_
   all_goals rintro e w3 ⟨n3, q3, c3, rfl, hn3, hd3, h31, h32, h33, h34, hg3, hm3⟩
   all_goals
    have HS3 := hid (HSG.out.num (rem' := rm2) (fun y => y.result) (fun _ _ => rfl) (fun y hy => ⟨hy.result.1, hy.result.2⟩) (by omega) hm3)
    have HT3 := hid (HP.out.wt.num h31 h33)
    have HX3 := hid (HP.out.gx.grow hg3)
    have HO3 := hid (own_growD HP.out.own hg3 HDL.out)
    have HD3 := hid hd3
    have HLT : Hid (¬ d = g) := hid (by have := HX3.out.lt; have := HX3.out.dl; omega)
    clear hd3 hg3 hm3 h33 HN6
    have k3 := (gbox_c HX3.out.e1).2.2.1
    have f3 := (gbox_f HX3.out.e1).2.2.1
    go_upto_region 7 with fail
    have HX4 := hid (HX3.out.set2 (n3 : Int))
    have HD4 := hid (HD3.out.setO HLT.out 2 (.int .i64 n3))
    have HO4 := hid (own_setT HO3.out HX3.out.e1 (by decide) 2 (.int .i64 n3))
    obtain ⟨W4, hW4⟩ : ∃ W, w3.setCell ⟨g, 2, none⟩ (.int .i64 n3) = W := ⟨_, rfl⟩
    rw [hW4] at HX4 HD4 HO4 ⊢
    clear hW4 k3 f3
    have HN5 := hid (small_any (M := 200) HD4.out h32 hs (by omega))
    go_wp2_with fail
    refine HN5.out.mono ?_
    rintro e w5 ⟨n5, q5, c5, rfl, hn5, hd5, h51, h52, h53, h54, hg5, hm5⟩
    have HS5 := hid (HS3.out.num (rem' := rm3) (fun y => y.slots) (fun _ _ => rfl) (fun y hy => ⟨hy.slots.1, hy.slots.2⟩) (by omega) hm5)
    have HT5 := hid (HT3.out.num h51 h53)
    have HX5 := hid (HX4.out.grow hg5)
    have HO5 := hid (own_growD HO4.out hg5 HDL.out)
    have HD5 := hid hd5
    clear hd5 hg5 hm5 h53 HN5 HS3 HT3 HX4 HD4 HO4 HX3 HD3 HO3
    have k3 := (gbox_c HX5.out.e1).2.2.2.1
    have f3 := (gbox_f HX5.out.e1).2.2.2.1
    go_upto_region 8 with fail
    have HX6 := hid (HX5.out.set3 (n5 : Int))
    have HD6 := hid (HD5.out.setO HLT.out 3 (.int .i64 n5))
    have HO6 := hid (own_setT HO5.out HX5.out.e1 (by decide) 3 (.int .i64 n5))
    obtain ⟨W6, hW6⟩ : ∃ W, w5.setCell ⟨g, 3, none⟩ (.int .i64 n5) = W := ⟨_, rfl⟩
    rw [hW6] at HX6 HD6 HO6 ⊢
    clear hW6 k3 f3
    have HN7 := hid (small_any (M := 50000) HD6.out h52 hs (by omega))
    go_wp2_with fail
    refine HN7.out.mono ?_
    rintro e w7 ⟨n7, q7, c7, rfl, hn7, hd7, h71, h72, h73, h74, hg7, hm7⟩
    have HNV : Hid (NV s d p g b w nm l (.slice ad l.length cp) n3 n5 [] (.slice none 0 0) n7 q7 c7 w7) := hid (by
     have hS := HS5.out.num (rem' := fun y => inssF y.ins) (fun y => (y.ins.length : Int)) (fun y hy => by rw [u64_nat _ (by have := hy.many; omega)]; rfl) (fun y hy => by have := hy.many; omega) (by omega) hm7
     refine ⟨HX6.out.grow hg7, own_growD HO6.out hg7 HDL.out, OwnN.nil _ _, (fun x hx => by cases hx), hd7, h72, by simpa using hn7, by simpa [R.wSIn] using HT5.out.num h71 h73, fun y e1 e2 e3 => ?_⟩
     obtain ⟨h6, ⟨h7, h8⟩, h9, h10⟩ := hS y e1 e2 e3
     exact ⟨h6, ⟨h7, by simp, by simp; omega⟩, by simpa using h9, by simpa using h10⟩)
    clear hd7 hg7 hm7 h73 HN7 HS5 HT5 HX6 HD6 HO6 HX5 HD5 HO5 HP HSG HOR
    obtain ⟨PV, hPV⟩ : ∃ v, Value.slice ad l.length cp = v := ⟨_, rfl⟩
    rw [hPV] at HNV
    clear hPV
    go_wp2_with fail
    go_loopw [5] (fun n wr => ∃ (m : Nat) (li : List In) (iv : Value) (q : Nat) (c : Bool), n = .int .i64 m ∧ NV s d p g b w nm l PV n3 n5 li iv m q c wr) (fun n _ => (intOf n).toNat)
    case atStart => exact ⟨n7, [], _, q7, c7, rfl, HNV.out⟩
    case round =>
     obtain ⟨m, li, iv, q, c, rfl, hpi⟩ := hrel
     have HP := hid hpi
     obtain ⟨ai, ci, rfl⟩ := hpi.own.sl
     obtain ⟨_, _, k2, _, _⟩ := hpi.ds.c
     have hfew := hpi.few
     have hle := hpi.le
     clear hpi HNV
     by_cases hgo : 0 < m ∧ c = false
     ·obtain ⟨hm0, rfl⟩ := hgo
      obtain ⟨m', rfl⟩ : ∃ m', m = m' + 1 := ⟨m - 1, by omega⟩
      have hm1 : (0 : Int) < ((m' + 1 : Nat) : Int) := by omega
      have HG : Hid (∀ V, wr.grownBy V (some d) → V.cell? ⟨g, 4, none⟩ = some (.slice ai li.length ci) ∧ V.frozen? ⟨g, 4, none⟩ = false) := hid fun V hV => ⟨(gbox_c (HP.out.gx.grow hV).e1).2.2.2.2, (gbox_f (HP.out.gx.grow hV).e1).2.2.2.2⟩
      obtain ⟨p5, z5⟩ := HG.out _ (grown_refl _ _)
      obtain ⟨p6, z6⟩ := HG.out _ (grown_drew (grown_refl _ _))
      go_wp2_with fail
      go_region_law (first
       | (refine step_entR rfl (f := 47) (vals := #[.pointer (some ⟨d, 0, none⟩)]) (by kernel_rfl) (ins_anyD HP.out.ds.drew hle hs) ?_; intro e w8 hq8; obtain ⟨x8, q8, c8, rfl, hr8, h81, hd8, h82, h83, hg8, hm8⟩ := hq8; unfold inV; refine ⟨_, rfl, ?_⟩; have HG8 : Hid (wr.grownBy w8 (some d)) := hid (grown_trans (grown_drew (grown_refl _ _)) hg8); have HG8A : Hid (wr.grownBy (w8.alloc (.cells #[.int .i64 x8.op, .int .i64 x8.a, .int .i64 x8.n, .string x8.text] 84)) (some d)) := hid (grown_below HG8.out ((Below.refl _ _).alloc (Nat.le_refl _) _)); obtain ⟨p8, z8⟩ := HG.out _ HG8.out; obtain ⟨p8a, z8a⟩ := HG.out _ HG8A.out; have HD8 := hid hd8; have H83 := hid h83; have HM8 := hid hm8; have HR8 := hid hr8; clear hd8 hg8 hm8 h83 hr8)
       | (refine step_appR rfl (.tmp 49) (.tmp 52) 55 rfl w.heap.size 84 j0 (.agg #[.int .i64 0, .int .i64 0, .int .i64 0, .string ⟨#[]⟩]) 4 40 Tryz.underlying55 HHJ.out.1 HHJ.out.2.1 HHJ.out.2.2.1 HHJ.out.2.2.2 rfl (by decide) (.slice ai li.length ci) li.length (insC li) (by simp [Act.eval]) (own_growD HP.out.own HG8A.out HDL.out) ⟨w8.heap.size, 0, none⟩ 1 1 [.int .i64 x8.op, .int .i64 x8.a, .int .i64 x8.n, .string x8.text] (by simp [Act.eval]) rfl (lit_four _ _ _ _ _ _) (one_four _ _ _ _) (by unfold maxLen; omega) (by omega) (Nat.le_trans HP.out.gx.gr.size HG8A.out.size) ?_; intro v9 w9 o9 g9; have HO9 := hid o9; have HX9 := hid ((HP.out.gx.grow HG8A.out).own (own_growD HP.out.own HG8A.out HDL.out) (by decide) g9); have HD9 : Hid (DS w9 d s q8 c8) := hid (box_other (HD8.out.next ((Below.refl _ _).alloc (Nat.le_refl _) _)) (own_growD HP.out.own HG8A.out HDL.out) (by decide) g9); have HP9 : Hid (OwnI w.heap.size w9 PV l) := hid (own_otherT (own_growD HP.out.ownp HG8A.out HDL.out) (own_growD HP.out.own HG8A.out HDL.out) (by decide) g9); obtain ⟨a9, c9, rfl⟩ := own_slN o9; have p9 := (gbox_c HX9.out.e1).2.2.2.2; have z9 := (gbox_f HX9.out.e1).2.2.2.2; clear o9 g9))
      all_goals
       have HN9 := hid (HP.out.step HX9.out HP9.out HO9.out ⟨HR8.out.2.2.2.2.1, HR8.out.2.2.2.2.2⟩ HD9.out h81 h82 H83.out HM8.out)
       go_wp2
       go_roundw
       case rel => exact ⟨m', _, _, q8, c8, by go_num, HN9.out⟩
       case measure => simp [intOf]
     ·have HST : Hid (m = 0 ∨ c = true) := hid (by cases c <;> simp at hgo ⊢; omega)
      have HOR : Hid (((0 : Int) < (m : Int) ∧ c = true) ∨ m = 0) := hid (by rcases HST.out with h | h; exact .inr h; exact (Nat.eq_zero_or_pos m).symm.imp_left fun h9 => ⟨by omega, h⟩)
      obtain ⟨ap, cpx, rfl⟩ := HP.out.ownp.sl
      have HFIN := hid (fn_fin HP.out HST.out)
      obtain ⟨d0, d1, d2, d3, d4⟩ := gbox_c HP.out.gx.e1
      obtain ⟨r0, r1, r2, r3, r4⟩ := gbox_c HP.out.gx.e0
      obtain ⟨f0, f1, f2, f3, f4⟩ := gbox_f HP.out.gx.e0
      clear hgo HST
      rcases HOR.out with ⟨hmi, rfl⟩ | rfl
      all_goals
       go_wp2
       exact bodyPost_ret (v := .agg #[.string nm, .slice ap l.length cpx, .int .i64 n3, .int .i64 n5, .slice ai li.length ci]) (by simp [results, Tryz.results26, go_sem, r0, r1, r2, r3, r4]) rfl (HFIN.out _ _ _ _ _)
end Go.Proofs.YtcjgcipacfcjnaaGreatDoor.C.D
