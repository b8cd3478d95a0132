import Derived.Maps.AppendAt
import Derived.Deep.RegionLaw
import Derived.Test.YtcjgcipacfcjnaaGreatDoorJ33
import Derived.Test.YtcjgcipacfcjnaaGreatDoorJ13
namespace Go.Proofs.YtcjgcipacfcjnaaGreatDoor.C.D
open Go.RowKit
set_option maxRecDepth 20000
def rbox (o a n : Int) (t : ByteArray) : Obj := .cells #[.int .i64 o, .int .i64 a, .int .i64 n, .string t] 84
theorem rbox_c {W : World} {g : Nat} {o a n : Int} {t : ByteArray} (h : W.heap[g]? = some (rbox o a n t)) : W.cell? ⟨g, 0, none⟩ = some (.int .i64 o) ∧ W.cell? ⟨g, 1, none⟩ = some (.int .i64 a) ∧ W.cell? ⟨g, 2, none⟩ = some (.int .i64 n) ∧ W.cell? ⟨g, 3, none⟩ = some (.string t) :=
 ⟨cell_hp h 0, cell_hp h 1, cell_hp h 2, cell_hp h 3⟩
theorem rbox_f {W : World} {g : Nat} {o a n : Int} {t : ByteArray} (h : W.heap[g]? = some (rbox o a n t)) : W.frozen? ⟨g, 0, none⟩ = false ∧ W.frozen? ⟨g, 1, none⟩ = false ∧ W.frozen? ⟨g, 2, none⟩ = false ∧ W.frozen? ⟨g, 3, none⟩ = false :=
 ⟨frozen_hp h 0, frozen_hp h 1, frozen_hp h 2, frozen_hp h 3⟩
structure RX (w : World) (d g : Nat) (o a n : Int) (t : ByteArray) (W : World) : Prop where
 gr : w.grownBy W (some d)
 e0 : W.heap[w.heap.size]? = some (rbox 0 0 0 ⟨#[]⟩)
 e1 : W.heap[g]? = some (rbox o a n t)
 lt : w.heap.size < g
 dl : d < w.heap.size
theorem grown_hp {w W : World} {d g : Nat} {o : Obj} (h : w.grownBy W (some d)) (hg : w.heap[g]? = some o) (hne : ¬ g = d) : W.heap[g]? = some o :=
 (h.block g (lt_hp hg) (fun e => hne (by injection e))).trans hg
theorem RX.grow {w W V : World} {d g : Nat} {o a n : Int} {t : ByteArray} (h : RX w d g o a n t W) (hg : W.grownBy V (some d)) : RX w d g o a n t V :=
 ⟨grown_trans h.gr hg, grown_hp hg h.e0 (by have := h.dl; omega), grown_hp hg h.e1 (by have := h.dl; have := h.lt; omega), h.lt, h.dl⟩
theorem grown_hi {w W : World} {d k : Nat} (h : w.grownBy W (some d)) (hk : w.heap.size ≤ k) (i : Nat) (v : Value) : w.grownBy (W.setCell ⟨k, i, none⟩ v) (some d) :=
 ⟨h.os, h.tape, h.output, Nat.le_trans h.size (set_lo (Below.refl 0 W) k i (Nat.zero_le _) v).size, fun x hx hne => (set_other _ _ _ _ _ (by omega)).trans (h.block x hx hne)⟩
theorem DS.setO {W : World} {d p k : Nat} {s : ByteArray} {b : Bool} (h : DS W d s p b) (hk : ¬ d = k) (i : Nat) (v : Value) : DS (W.setCell ⟨k, i, none⟩ v) d s p b := (set_other _ _ _ _ _ hk).trans h
theorem grown_of {w W : World} (d : Nat) (h : Below w.heap.size w W) : w.grownBy W (some d) := grown_below (grown_refl w d) h
theorem RX.set1 {w W : World} {d g : Nat} {o a n : Int} {t : ByteArray} (h : RX w d g o a n t W) (x : Int) : RX w d g o x n t (W.setCell ⟨g, 1, none⟩ (.int .i64 x)) :=
 ⟨grown_hi h.gr (Nat.le_of_lt h.lt) _ _, (set_other _ _ _ _ _ (by have := h.lt; omega)).trans h.e0, (by have := h.e1; unfold World.setCell; simp only [Array.getElem?_modify, this]; simp [rbox]), h.lt, h.dl⟩
theorem RX.set2 {w W : World} {d g : Nat} {o a n : Int} {t : ByteArray} (h : RX w d g o a n t W) (x : Int) : RX w d g o a x t (W.setCell ⟨g, 2, none⟩ (.int .i64 x)) :=
 ⟨grown_hi h.gr (Nat.le_of_lt h.lt) _ _, (set_other _ _ _ _ _ (by have := h.lt; omega)).trans h.e0, (by have := h.e1; unfold World.setCell; simp only [Array.getElem?_modify, this]; simp [rbox]), h.lt, h.dl⟩
theorem RX.set3 {w W : World} {d g : Nat} {o a n : Int} {t : ByteArray} (h : RX w d g o a n t W) (x : ByteArray) : RX w d g o a n x (W.setCell ⟨g, 3, none⟩ (.string x)) :=
 ⟨grown_hi h.gr (Nat.le_of_lt h.lt) _ _, (set_other _ _ _ _ _ (by have := h.lt; omega)).trans h.e0, (by have := h.e1; unfold World.setCell; simp only [Array.getElem?_modify, this]; simp [rbox]), h.lt, h.dl⟩
def RInsEnd (s : ByteArray) (d p : Nat) (b : Bool) (w : World) (e : Ending) (w' : World) : Prop := ∃ (x : In) (q : Nat) (c : Bool), e = .returned (inV x) ∧ (0 ≤ x.op ∧ x.op ≤ 16 ∧ 0 ≤ x.a ∧ x.a ≤ 50000 ∧ -9223372036854775808 ≤ x.n ∧ x.n ≤ 9223372036854775807) ∧ p + x.text.size ≤ q ∧ DS w' d s q c ∧ q ≤ s.size ∧ (c = false → b = false ∧ p + x.text.size < q) ∧ w.grownBy w' (some d) ∧ ∀ y, b = false → InS y → Fr (insF y) ((bts s).drop p) → x = y ∧ q = p + (insF y).length ∧ c = false
theorem ins_fin {s : ByteArray} {d p g q : Nat} {b c : Bool} {w W : World} {o a n : Int} {t : ByteArray} (h : RX w d g o a n t W) (hd : DS W d s q c) (hr : 0 ≤ o ∧ o ≤ 16 ∧ 0 ≤ a ∧ a ≤ 50000 ∧ -9223372036854775808 ≤ n ∧ n ≤ 9223372036854775807) (h1 : p + t.size ≤ q) (h2 : q ≤ s.size) (h3 : c = false → b = false ∧ p + t.size < q)
  (hm : ∀ y, b = false → InS y → Fr (insF y) ((bts s).drop p) → (⟨o, a, n, t⟩ : In) = y ∧ q = p + (insF y).length ∧ c = false) (v0 v1 v2 v3 : Value) :
  RInsEnd s d p b w (.returned (.agg #[.int .i64 o, .int .i64 a, .int .i64 n, .string t])) ((((W.setCell ⟨w.heap.size, 0, none⟩ v0).setCell ⟨w.heap.size, 1, none⟩ v1).setCell ⟨w.heap.size, 2, none⟩ v2).setCell ⟨w.heap.size, 3, none⟩ v3) := by
 have hl := h.dl
 exact ⟨⟨o, a, n, t⟩, q, c, rfl, hr, h1, (((hd.setO (by omega) _ _).setO (by omega) _ _).setO (by omega) _ _).setO (by omega) _ _, h2, h3, grown_hi (grown_hi (grown_hi (grown_hi h.gr (Nat.le_refl _) _ _) (Nat.le_refl _) _ _) (Nat.le_refl _) _ _) (Nat.le_refl _) _ _, hm⟩
def rsB (y : In) : List UInt8 := if y.op = 1 then (if y.a = 2 then tb y.text else nb (uOf y.n)) else []
def rsA (y : In) : List UInt8 := (if hasA y.op then nb (uOf y.a) else []) ++ rsB y
theorem insF_rs (y : In) : insF y = nb (uOf y.op) ++ rsA y := rfl
set_option maxHeartbeats 8000000 in
theorem ins_anyD {s : ByteArray} {d p : Nat} {b : Bool} {w : World} (h : DS w d s p b) (hp : p ≤ s.size) (hs : s.size ≤ 200000) :
  Calls Tryz.prog 47 #[.pointer (some ⟨d, 0, none⟩)] w (RInsEnd s d p b w) := by
 have HB0 : Hid (Below w.heap.size w (w.alloc (rbox 0 0 0 ⟨#[]⟩))) := hid ((Below.refl _ _).alloc (Nat.le_refl _) _)
 have HE0 : Hid ((w.alloc (rbox 0 0 0 ⟨#[]⟩)).heap[w.heap.size]? = some (rbox 0 0 0 ⟨#[]⟩)) := hid (heap_alloc_new _ _)
 have HN := hid (small_any (M := 16) (h.next HB0.out) hp hs (by omega))
 have HDL := hid (lt_hp h)
 clear h
 obtain ⟨W0, hW0⟩ : ∃ W, w.alloc (rbox 0 0 0 ⟨#[]⟩) = W := ⟨_, rfl⟩
 rw [hW0] at HB0 HE0 HN
 unfold rbox at hW0
 go_enter Tryz.func47, Tryz.ntmps47
 go_wp2_with fail
 clear hW0
 refine HN.out.mono ?_
 rintro e w1 ⟨n1, q1, b1, rfl, hn1, hd1, h11, h12, h13, h14, hg1, hm1⟩
 have HL1 : Hid (w.heap.size < w1.heap.size) := hid (Nat.lt_of_lt_of_le (lt_hp HE0.out) hg1.size)
 have HS1 : Hid (∀ y, b = false → InS y → Fr (insF y) ((bts s).drop p) → (n1 : Int) = y.op ∧ b1 = false ∧ q1 = p + (nb (uOf y.op)).length ∧ Fr (rsA y) ((bts s).drop q1)) := hid fun y e1 e2 e3 => by
  rw [insF_rs] at e3
  have h5 := fr_at e3
  have h6 : uOf y.op ≤ 16 ∧ ((uOf y.op : Nat) : Int) = y.op := by have := e2.op; unfold uOf; omega
  have h7 := hm1 (uOf y.op) e1 h6.1 h5.1
  exact ⟨by rw [h7.1]; exact h6.2, h7.2.2, h7.2.1, by rw [h7.2.1]; exact h5.2⟩
 have HW1 : Hid (RX w d w1.heap.size n1 0 0 ⟨#[]⟩ (w1.alloc (.cells #[.int .i64 n1, .int .i64 0, .int .i64 0, .string ⟨#[]⟩] 84)) ∧ DS (w1.alloc (.cells #[.int .i64 n1, .int .i64 0, .int .i64 0, .string ⟨#[]⟩] 84)) d s q1 b1) := hid (by
  have hb : Below w1.heap.size w1 (w1.alloc (.cells #[.int .i64 n1, .int .i64 0, .int .i64 0, .string ⟨#[]⟩] 84)) := (Below.refl _ _).alloc (Nat.le_refl _) _
  refine ⟨⟨grown_below (grown_trans (grown_of d HB0.out) hg1) hb, hp_next (grown_hp hg1 HE0.out (by have := HDL.out; omega)) hb, heap_alloc_new _ _, HL1.out, HDL.out⟩, hd1.next hb⟩)
 have H13 := hid h13
 clear hd1 hg1 hm1 h13 HN
 go_upto_region 2 with fail
 obtain ⟨W1, hW1⟩ : ∃ W, w1.alloc (.cells #[.int .i64 n1, .int .i64 0, .int .i64 0, .string ⟨#[]⟩] 84) = W := ⟨_, rfl⟩
 rw [hW1] at HW1 ⊢
 obtain ⟨g, hg⟩ : ∃ g, w1.heap.size = g := ⟨_, rfl⟩
 rw [hg] at HW1 ⊢
 clear hW1 hg HL1
 obtain ⟨c0, c1, c2, c3⟩ := rbox_c HW1.out.1.e1
 cases hh : hasA n1 with
 | false =>
  have hne : ¬ (n1 : Int) = 1 := fun e => by rw [e] at hh; cases hh
  have heq : ((n1 : Int) == 1) = false := by simpa using hne
  obtain ⟨r0, r1, r2, r3⟩ := rbox_c HW1.out.1.e0
  obtain ⟨f0, f1, f2, f3⟩ := rbox_f HW1.out.1.e0
  have HF : Hid (∀ y, b = false → InS y → Fr (insF y) ((bts s).drop p) → (⟨n1, 0, 0, ⟨#[]⟩⟩ : In) = y ∧ q1 = p + (insF y).length ∧ b1 = false) := hid fun y e1 e2 e3 => by
   obtain ⟨h5, h6, h7, _⟩ := HS1.out y e1 e2 e3
   rw [h5] at hh hne
   have h8 := e2.no hh
   have h9 := e2.n hne
   have h10 := e2.num fun e => hne e.1
   refine ⟨?_, ?_, h6⟩
   ·obtain ⟨yo, ya, yn, yt⟩ := y
    dsimp only at h5 h8 h9 h10
    rw [h5, h8, h9, h10]
   ·rw [h7, insF_rs, List.length_append]
    unfold rsA rsB
    rw [hh, if_neg hne]
    simp
  go_wp2_with (go_at_call 35; refine (hasA_any _ _).mono ?_; rintro e w2 ⟨rfl, hw2⟩; have hw3 := hw2.symm; clear hw2; subst hw3; rw [hh])
  exact bodyPost_ret (v := .agg #[.int .i64 n1, .int .i64 0, .int .i64 0, .string ⟨#[]⟩]) (by simp [results, Tryz.results47, go_sem, r0, r1, r2, r3]) rfl (ins_fin HW1.out.1 HW1.out.2 (by omega) (by show p + 0 ≤ q1; omega) h12 (fun e => ⟨(H13.out e).1, by show p + 0 < q1; have := (H13.out e).2; omega⟩) HF.out _ _ _ _)
 | true =>
  go_upto_region 3 with (go_at_call 35; refine (hasA_any _ _).mono ?_; rintro e w2 ⟨rfl, hw2⟩; have hw3 := hw2.symm; clear hw2; subst hw3; rw [hh])
  have HN2 := hid (small_any (M := 50000) HW1.out.2 h12 hs (by omega))
  go_wp2_with fail
  refine HN2.out.mono ?_
  rintro e w2 ⟨n2, q2, b2, rfl, hn2, hd2, h21, h22, h23, h24, hg2, hm2⟩
  have HS2 : Hid (∀ y, b = false → InS y → Fr (insF y) ((bts s).drop p) → (n1 : Int) = y.op ∧ (n2 : Int) = y.a ∧ b2 = false ∧ q2 + (rsB y).length = p + (insF y).length ∧ Fr (rsB y) ((bts s).drop q2)) := hid fun y e1 e2 e3 => by
   obtain ⟨h5, h6, h7, h8⟩ := HS1.out y e1 e2 e3
   rw [h5] at hh
   unfold rsA at h8
   rw [hh, if_pos rfl] at h8
   have h9 := fr_at h8
   have h10 : uOf y.a ≤ 50000 ∧ ((uOf y.a : Nat) : Int) = y.a := by have := e2.a; unfold uOf; omega
   have h11 := hm2 (uOf y.a) h6 h10.1 h9.1
   refine ⟨h5, by rw [h11.1]; exact h10.2, h11.2.2, ?_, by rw [h11.2.1]; exact h9.2⟩
   rw [h11.2.1, h7, insF_rs, List.length_append]
   unfold rsA
   rw [hh, if_pos rfl, List.length_append]
   omega
  have HR2 := hid (HW1.out.1.grow hg2)
  have HD2 := hid hd2
  have H23 := hid h23
  obtain ⟨c0, c1, c2, c3⟩ := rbox_c HR2.out.e1
  obtain ⟨f0, f1, f2, f3⟩ := rbox_f HR2.out.e1
  have HLT : Hid (¬ d = g) := hid (by have := HR2.out.lt; have := HR2.out.dl; omega)
  clear hd2 hg2 hm2 h23 HN2
  go_upto_region 4 with fail
  have HR3 := hid (HR2.out.set1 (n2 : Int))
  have HD3 := hid (HD2.out.setO HLT.out 1 (.int .i64 n2))
  obtain ⟨W3, hW3⟩ : ∃ W, w2.setCell ⟨g, 1, none⟩ (.int .i64 n2) = W := ⟨_, rfl⟩
  rw [hW3] at HR3 HD3 ⊢
  clear hW3 c0 c1 c2 c3 f0 f1 f2 f3
  obtain ⟨c0, c1, c2, c3⟩ := rbox_c HR3.out.e1
  by_cases ho : (n1 : Int) = 1
  ·have hob : ((n1 : Int) == 1) = true := by simpa using ho
   by_cases ha : (n2 : Int) = 2
   ·have hab : ((n2 : Int) == 2) = true := by simpa using ha
    have HTX := hid (text_anyD HD3.out h22 hs)
    go_wp2_with fail
    refine HTX.out.mono ?_
    rintro e w4 ⟨t, q4, b4, rfl, ht, h41, hd4, h42, h43, hg4, hm4⟩
    have HF : Hid (∀ y, b = false → InS y → Fr (insF y) ((bts s).drop p) → (⟨n1, n2, 0, t⟩ : In) = y ∧ q4 = p + (insF y).length ∧ b4 = false) := hid fun y e1 e2 e3 => by
     obtain ⟨h5, h6, h7, h8, h9⟩ := HS2.out y e1 e2 e3
     have e4 : rsB y = tb y.text := by unfold rsB; rw [if_pos (h5.symm.trans ho), if_pos (h6.symm.trans ha)]
     rw [e4] at h8 h9
     have h10 := hm4 y.text h7 e2.t h9
     have h11 := e2.push (h5.symm.trans ho) (h6.symm.trans ha)
     refine ⟨?_, by rw [h10.2.1]; exact h8, h10.2.2⟩
     obtain ⟨yo, ya, yn, yt⟩ := y
     dsimp only at h5 h6 h10 h11
     rw [h5, h6, h11, h10.1]
    have HR4 := hid (HR3.out.grow hg4)
    have HD4 := hid hd4
    have H43 := hid h43
    clear hd4 hg4 hm4 h43 HTX c0 c1 c2 c3
    obtain ⟨c0, c1, c2, c3⟩ := rbox_c HR4.out.e1
    obtain ⟨f0, f1, f2, f3⟩ := rbox_f HR4.out.e1
    go_upto_region 8 with fail
    have HR5 := hid (HR4.out.set3 t)
    have HD5 := hid (HD4.out.setO HLT.out 3 (.string t))
    obtain ⟨W5, hW5⟩ : ∃ W, w4.setCell ⟨g, 3, none⟩ (.string t) = W := ⟨_, rfl⟩
    rw [hW5] at HR5 HD5 ⊢
    clear hW5 c0 c1 c2 c3 f0 f1 f2 f3
    obtain ⟨c0, c1, c2, c3⟩ := rbox_c HR5.out.e1
    obtain ⟨r0, r1, r2, r3⟩ := rbox_c HR5.out.e0
    obtain ⟨f0, f1, f2, f3⟩ := rbox_f HR5.out.e0
    go_wp2
    exact bodyPost_ret (v := .agg #[.int .i64 n1, .int .i64 n2, .int .i64 0, .string t]) (by simp [results, Tryz.results47, go_sem, r0, r1, r2, r3]; exact ⟨ho.symm, ha.symm⟩) rfl (ins_fin HR5.out HD5.out (by omega) (by omega) h42 (fun e => ⟨(H13.out (H23.out (H43.out e).1).1).1, by have := (H43.out e).2; omega⟩) HF.out _ _ _ _)
   ·have hab : ((n2 : Int) == 2) = false := by simpa using ha
    have HTX := hid (sNum_any HD3.out h22 hs)
    go_upto_region 7 with fail
    go_wp2_with fail
    refine HTX.out.mono ?_
    rintro e w4 ⟨m4, q4, b4, rfl, ht, hd4, h41, h42, h43, hg4, hm4⟩
    obtain ⟨z, hz⟩ : ∃ z : Int, IntKind.i64.wrap (m4 : Int) = z := ⟨_, rfl⟩
    have hzr : -9223372036854775808 ≤ z ∧ z ≤ 9223372036854775807 := by rw [← hz, IntKind.wrap_i64]; omega
    have HF : Hid (∀ y, b = false → InS y → Fr (insF y) ((bts s).drop p) → (⟨n1, n2, z, ⟨#[]⟩⟩ : In) = y ∧ q4 = p + (insF y).length ∧ b4 = false) := hid fun y e1 e2 e3 => by
     obtain ⟨h5, h6, h7, h8, h9⟩ := HS2.out y e1 e2 e3
     have e4 : rsB y = nb (uOf y.n) := by unfold rsB; rw [if_pos (h5.symm.trans ho), if_neg (fun e => ha (h6.trans e))]
     rw [e4] at h8 h9
     have h10 := hm4 (uOf y.n) h7 (u64_lt _) h9
     have h11 := e2.num fun e => ha (h6.trans e.2)
     have h12 : z = y.n := by
      have := e2.n64
      rw [← hz, h10.1, IntKind.wrap_i64]
      unfold uOf
      omega
     refine ⟨?_, by rw [h10.2.1]; exact h8, h10.2.2⟩
     obtain ⟨yo, ya, yn, yt⟩ := y
     dsimp only at h5 h6 h11 h12
     rw [h5, h6, h11, h12]
    have HR4 := hid (HR3.out.grow hg4)
    have HD4 := hid hd4
    have H43 := hid h43
    clear hd4 hg4 hm4 h43 HTX c0 c1 c2 c3
    obtain ⟨c0, c1, c2, c3⟩ := rbox_c HR4.out.e1
    obtain ⟨f0, f1, f2, f3⟩ := rbox_f HR4.out.e1
    go_upto_region 8 with fail
    have HR5 := hid (HR4.out.set2 z)
    have HD5 := hid (HD4.out.setO HLT.out 2 (.int .i64 z))
    obtain ⟨W5, hW5⟩ : ∃ W, w4.setCell ⟨g, 2, none⟩ (.int .i64 z) = W := ⟨_, rfl⟩
    rw [hW5] at HR5 HD5 ⊢
    clear hW5 c0 c1 c2 c3 f0 f1 f2 f3 hz
    obtain ⟨c0, c1, c2, c3⟩ := rbox_c HR5.out.e1
    obtain ⟨r0, r1, r2, r3⟩ := rbox_c HR5.out.e0
    obtain ⟨f0, f1, f2, f3⟩ := rbox_f HR5.out.e0
    go_wp2
    exact bodyPost_ret (v := .agg #[.int .i64 n1, .int .i64 n2, .int .i64 z, .string ⟨#[]⟩]) (by simp [results, Tryz.results47, go_sem, r0, r1, r2, r3]; exact ho.symm) rfl (ins_fin HR5.out HD5.out (by omega) (by show p + 0 ≤ q4; omega) h42 (fun e => ⟨(H13.out (H23.out (H43.out e).1).1).1, by show p + 0 < q4; have := (H43.out e).2; omega⟩) HF.out _ _ _ _)
  ·have hob : ((n1 : Int) == 1) = false := by simpa using ho
   have HF : Hid (∀ y, b = false → InS y → Fr (insF y) ((bts s).drop p) → (⟨n1, n2, 0, ⟨#[]⟩⟩ : In) = y ∧ q2 = p + (insF y).length ∧ b2 = false) := hid fun y e1 e2 e3 => by
    obtain ⟨h5, h6, h7, h8, h9⟩ := HS2.out y e1 e2 e3
    rw [h5] at ho
    have e4 : rsB y = [] := by unfold rsB; rw [if_neg ho]
    rw [e4] at h8
    have h10 := e2.n ho
    have h11 := e2.num fun e => ho e.1
    refine ⟨?_, by simpa using h8, h7⟩
    obtain ⟨yo, ya, yn, yt⟩ := y
    dsimp only at h5 h6 h10 h11
    rw [h5, h6, h10, h11]
   obtain ⟨r0, r1, r2, r3⟩ := rbox_c HR3.out.e0
   obtain ⟨f0, f1, f2, f3⟩ := rbox_f HR3.out.e0
   go_wp2
   exact bodyPost_ret (v := .agg #[.int .i64 n1, .int .i64 n2, .int .i64 0, .string ⟨#[]⟩]) (by simp [results, Tryz.results47, go_sem, r0, r1, r2, r3]) rfl (ins_fin HR3.out HD3.out (by omega) (by show p + 0 ≤ q2; omega) h22 (fun e => ⟨(H13.out (H23.out e).1).1, by show p + 0 < q2; have := (H23.out e).2; omega⟩) HF.out _ _ _ _)
theorem step_entR {P : Program} {ops : Array Oper} {o : Oper} {a : Act} {w : World} {K : Act → World → Prop} {Q : Exit → Act → World → Prop} {E : Prop} (hg : o.guard = none) {f : FuncId} {vals : Array Value}
  (hx : (execOp a.eval o).run P w = .ok (.enter f vals) w) {Q' : Ending → World → Prop} (hc : Calls P f vals w Q') (h : ∀ e w', Q' e w' → ∃ v, e = .returned v ∧ K (a.put o.dst v) w') :
  if Region.wanted o (yielded ops a.tmps) = true then Oper.wp P o a w K Q else E := by
 have hw : Region.wanted o (yielded ops a.tmps) = true := by simp [Region.wanted, hg]
 rw [if_pos hw]
 unfold Oper.wp
 rw [hx, Oper.upon_enter]
 refine hc.mono fun e w' hq => ?_
 obtain ⟨v, rfl, hk⟩ := h e w' hq
 exact hk
theorem step_appR {P : Program} {ops : Array Oper} {o : Oper} {a : Act} {w : World} {K : Act → World → Prop} {Q : Exit → Act → World → Prop} {E : Prop} (hg : o.guard = none) (s x : Operand) (t : TypeId)
  (hop : o.op = Op.call { callee := Callee.builtin Builtin.append, args := #[s, x], argTypes := #[t, t] })
  (base : Nat) (e : TypeId) (i : TypeInfo) (z : Value) (size bytes : Nat) (ht : P.underlying t = some (.slice e)) (hi : P.info? e = some i) (hz : i.zero = some z)
  (hsize : i.size = size) (hby : i.bytes = bytes) (hzs : z.cells.size = size) (hsz : 0 < size)
  (v : Value) (n : Nat) (xs : List Value) (hs : a.eval s = v) (hown : w.ownsRow base e size v n xs)
  (ad : Addr) (m c : Nat) (news : List Value) (hx : a.eval x = .slice (some ad) m c) (hl : news.length = m * size) (hnews : ∀ j u, news[j]? = some u → w.cell? (ad.add j) = some u) (h1 : ∀ u ∈ news, u.oneCell' = true)
  (h63 : n + m ≤ maxLen) (hbytes : (n + m) * bytes ≤ 140737488355328) (hbase : base ≤ w.heap.size)
  (h : ∀ v' w', w'.ownsRow base e size v' (n + m) (xs ++ news) → w.grownBy w' v.ownBlock → K (a.put o.dst v') w') :
  if Region.wanted o (yielded ops a.tmps) = true then Oper.wp P o a w K Q else E := by
 have hw : Region.wanted o (yielded ops a.tmps) = true := by simp [Region.wanted, hg]
 rw [if_pos hw]
 obtain ⟨v', w', hr, h2, h3, _, _⟩ := run_append_own_at (P := P) w base t o.type e i z size bytes ht hi hz hsize hby hzs hsz v n xs hown ad m c news hl hnews h1 h63 hbytes hbase
 unfold Oper.wp
 simp [execOp, hop, resolve, invoke, builtin, hs, hx, hr, Result.andThen]
 exact h v' w' h2 h3
theorem own_keepR {W V : World} {B e k n : Nat} {v : Value} {xs : List Value} (h : W.ownsRow B e k v n xs) (hk : ∀ (g : Nat) (cur : Array Value), B ≤ g → W.heap[g]? = some (.cells cur e (0, 0)) → V.heap[g]? = W.heap[g]?) : V.ownsRow B e k v n xs := by
 obtain ⟨h1, h2 | ⟨g, cap, cur, a, b, c, r⟩⟩ := h
 ·exact ⟨h1, .inl h2⟩
 ·exact ⟨h1, .inr ⟨g, cap, cur, a, b, (hk g cur b c).trans c, r⟩⟩
theorem own_growD {W V : World} {B e k n d : Nat} {v : Value} {xs : List Value} (h : W.ownsRow B e k v n xs) (hg : W.grownBy V (some d)) (hd : d < B) : V.ownsRow B e k v n xs :=
 own_keepR h fun g _ hb hc => hg.block g (lt_hp hc) fun ee => by injection ee with ee; omega
theorem own_setT {W : World} {B e k n j t : Nat} {v : Value} {xs : List Value} {cs : Array Value} (h : W.ownsRow B e k v n xs) (hc : W.heap[j]? = some (.cells cs t (0, 0))) (hne : ¬ t = e) (i : Nat) (u : Value) : (W.setCell ⟨j, i, none⟩ u).ownsRow B e k v n xs :=
 own_keepR h fun g cur _ hg => set_other _ _ _ _ _ fun ee => by
  subst ee
  rw [hc] at hg
  injection hg with hg
  injection hg with _ hg _
  exact hne hg
theorem own_otherT {W V : World} {B B' e e' k k' n m : Nat} {v u : Value} {xs ys : List Value} (h : W.ownsRow B e k v n xs) (ho : W.ownsRow B' e' k' u m ys) (hne : ¬ e' = e) (hg : W.grownBy V u.ownBlock) : V.ownsRow B e k v n xs :=
 own_keepR h fun g cur _ hc => hg.block g (lt_hp hc) fun ee => by
  obtain ⟨_, ⟨rfl, _⟩ | ⟨g', cap, cu, rfl, _, hc', _⟩⟩ := ho
  ·cases ee
  ·simp [Value.ownBlock] at ee
   subst ee
   rw [hc] at hc'
   injection hc' with hc'
   injection hc' with _ hc' _
   exact hne hc'.symm
theorem box_other {W V : World} {B' e' k' m g t : Nat} {u : Value} {ys : List Value} {cs : Array Value} (hc : W.heap[g]? = some (.cells cs t (0, 0))) (ho : W.ownsRow B' e' k' u m ys) (hne : ¬ e' = t) (hg : W.grownBy V u.ownBlock) : V.heap[g]? = some (.cells cs t (0, 0)) :=
 (hg.block g (lt_hp hc) fun ee => by
  obtain ⟨_, ⟨rfl, _⟩ | ⟨g', cap, cu, rfl, _, hc', _⟩⟩ := ho
  ·cases ee
  ·simp [Value.ownBlock] at ee
   subst ee
   rw [hc] at hc'
   injection hc' with hc'
   injection hc' with _ hc' _
   exact hne hc'.symm).trans hc
theorem grown_own {w W V : World} {e k m d : Nat} {u : Value} {ys : List Value} (h : w.grownBy W (some d)) (ho : W.ownsRow w.heap.size e k u m ys) (hg : W.grownBy V u.ownBlock) : w.grownBy V (some d) :=
 ⟨hg.os.trans h.os, hg.tape.trans h.tape, hg.output.trans h.output, Nat.le_trans h.size hg.size, fun i hi hne => (hg.block i (Nat.lt_of_lt_of_le hi h.size) fun ee => by have := ho.lt i ee.symm; omega).trans (h.block i hi hne)⟩
def intsC (l : List Int) : List Value := l.map fun x => Value.int .i64 x
def insC (l : List In) : List Value := l.flatMap fun x => [.int .i64 x.op, .int .i64 x.a, .int .i64 x.n, .string x.text]
def OwnI (B : Nat) (W : World) (v : Value) (l : List Int) : Prop := W.ownsRow B 3 1 v l.length (intsC l)
def OwnN (B : Nat) (W : World) (v : Value) (l : List In) : Prop := W.ownsRow B 84 4 v l.length (insC l)
theorem OwnI.nil (B : Nat) (W : World) : OwnI B W (.slice none 0 0) [] := ⟨rfl, .inl ⟨rfl, rfl⟩⟩
theorem OwnN.nil (B : Nat) (W : World) : OwnN B W (.slice none 0 0) [] := ⟨rfl, .inl ⟨rfl, rfl⟩⟩
theorem OwnI.more {B : Nat} {W : World} {v : Value} {l : List Int} {x : Int} (h : W.ownsRow B 3 1 v (l.length + 1) (intsC l ++ [.int .i64 x])) : OwnI B W v (l ++ [x]) := by
 unfold OwnI
 have e : intsC (l ++ [x]) = intsC l ++ [.int .i64 x] := by simp [intsC]
 rw [e, List.length_append]
 exact h
theorem OwnN.more {B : Nat} {W : World} {v : Value} {l : List In} {x : In} (h : W.ownsRow B 84 4 v (l.length + 1) (insC l ++ [.int .i64 x.op, .int .i64 x.a, .int .i64 x.n, .string x.text])) : OwnN B W v (l ++ [x]) := by
 unfold OwnN
 have e : insC (l ++ [x]) = insC l ++ [.int .i64 x.op, .int .i64 x.a, .int .i64 x.n, .string x.text] := by simp [insC]
 rw [e, List.length_append]
 exact h
theorem OwnI.sl {B : Nat} {W : World} {v : Value} {l : List Int} (h : OwnI B W v l) : ∃ ad c, v = .slice ad l.length c := by
 obtain ⟨_, ⟨rfl, e⟩ | ⟨g, cap, cur, rfl, _⟩⟩ := h
 ·exact ⟨none, 0, by rw [e]⟩
 ·exact ⟨_, cap, rfl⟩
theorem OwnN.sl {B : Nat} {W : World} {v : Value} {l : List In} (h : OwnN B W v l) : ∃ ad c, v = .slice ad l.length c := by
 obtain ⟨_, ⟨rfl, e⟩ | ⟨g, cap, cur, rfl, _⟩⟩ := h
 ·exact ⟨none, 0, by rw [e]⟩
 ·exact ⟨_, cap, rfl⟩
theorem own_slN {W : World} {B e k n : Nat} {v : Value} {xs : List Value} (h : W.ownsRow B e k v n xs) : ∃ ad c, v = .slice ad n c := by
 obtain ⟨_, ⟨rfl, e⟩ | ⟨g, cap, cur, rfl, _⟩⟩ := h
 ·exact ⟨none, 0, by rw [e]⟩
 ·exact ⟨_, cap, rfl⟩
theorem insC_get : ∀ (l : List In) (i : Nat), i < l.length → (insC l)[i * 4]? = some (.int .i64 (l.getD i in0).op) ∧ (insC l)[i * 4 + 1]? = some (.int .i64 (l.getD i in0).a) ∧ (insC l)[i * 4 + 2]? = some (.int .i64 (l.getD i in0).n) ∧ (insC l)[i * 4 + 3]? = some (.string (l.getD i in0).text)
 | [], _, h => absurd h (Nat.not_lt_zero _)
 | x :: l, 0, _ => ⟨rfl, rfl, rfl, rfl⟩
 | x :: l, i + 1, h => by
  have := insC_get l i (by simp at h; omega)
  have e : (i + 1) * 4 = i * 4 + 1 + 1 + 1 + 1 := by omega
  rw [e]
  exact this
theorem own_get {W : World} {B e k g cap n : Nat} {xs : List Value} (h : W.ownsRow B e k (.slice (some ⟨g, 0, none⟩) n cap) n xs) : ∃ cur, W.heap[g]? = some (.cells cur e (0, 0)) ∧ B ≤ g ∧ n ≤ cap ∧ cap ≤ maxLen ∧ n * k ≤ cur.size ∧ ∀ i, i < n * k → cur[i]? = xs[i]? := by
 obtain ⟨_, ⟨hn, _⟩ | ⟨g', cap', cur, ev, hb, hc, hnc, hm, hz, ht⟩⟩ := h
 ·cases hn
 ·injection ev with e1 _ e2
  injection e1 with e1
  injection e1 with e1 _ _
  subst e1 e2
  refine ⟨cur, hc, hb, hnc, hm, by rw [hz]; exact Nat.mul_le_mul_right k hnc, fun i hi => ?_⟩
  have : (cur.toList.take (n * k))[i]? = xs[i]? := by rw [ht]
  rw [List.getElem?_take_of_lt hi, Array.getElem?_toList] at this
  exact this
theorem InsRow.own {W : World} {B : Nat} {v : Value} {l : List In} (h : OwnN B W v l) : InsRow W v l := by
 unfold OwnN at h
 obtain ⟨ad, c, rfl⟩ := own_slN h
 cases ad with
 | none =>
  obtain ⟨_, ⟨hn, e⟩ | ⟨g', cap', cur, ev, _⟩⟩ := h
  ·injection hn with _ e1 e2
   exact ⟨none, c, rfl, by omega, by unfold maxLen; omega, .inl (List.eq_nil_of_length_eq_zero e)⟩
  ·cases ev
 | some ad =>
  obtain ⟨_, ⟨hn, e⟩ | ⟨g', cap', cur, ev, _⟩⟩ := id h
  ·cases hn
  ·injection ev with e1 _ e2
   injection e1 with e1
   subst e1 e2
   obtain ⟨cur, hc, _, h1, h2, _, h3⟩ := own_get h
   refine ⟨_, _, rfl, h1, h2, .inr ⟨g', cur, rfl, hc, fun i hi => ?_⟩⟩
   obtain ⟨a0, a1, a2, a3⟩ := insC_get l i hi
   exact ⟨(h3 _ (by omega)).trans a0, (h3 _ (by omega)).trans a1, (h3 _ (by omega)).trans a2, (h3 _ (by omega)).trans a3⟩
def gbox (nm : ByteArray) (pv : Value) (r sl : Int) (iv : Value) : Obj := .cells #[.string nm, pv, .int .i64 r, .int .i64 sl, iv] 57
theorem gbox_c {W : World} {g : Nat} {nm : ByteArray} {pv iv : Value} {r sl : Int} (h : W.heap[g]? = some (gbox nm pv r sl iv)) : W.cell? ⟨g, 0, none⟩ = some (.string nm) ∧ W.cell? ⟨g, 1, none⟩ = some pv ∧ W.cell? ⟨g, 2, none⟩ = some (.int .i64 r) ∧ W.cell? ⟨g, 3, none⟩ = some (.int .i64 sl) ∧ W.cell? ⟨g, 4, none⟩ = some iv :=
 ⟨cell_hp h 0, cell_hp h 1, cell_hp h 2, cell_hp h 3, cell_hp h 4⟩
theorem gbox_f {W : World} {g : Nat} {nm : ByteArray} {pv iv : Value} {r sl : Int} (h : W.heap[g]? = some (gbox nm pv r sl iv)) : W.frozen? ⟨g, 0, none⟩ = false ∧ W.frozen? ⟨g, 1, none⟩ = false ∧ W.frozen? ⟨g, 2, none⟩ = false ∧ W.frozen? ⟨g, 3, none⟩ = false ∧ W.frozen? ⟨g, 4, none⟩ = false :=
 ⟨frozen_hp h 0, frozen_hp h 1, frozen_hp h 2, frozen_hp h 3, frozen_hp h 4⟩
structure GX (w : World) (d g : Nat) (nm : ByteArray) (pv : Value) (r sl : Int) (iv : Value) (W : World) : Prop where
 gr : w.grownBy W (some d)
 e0 : W.heap[w.heap.size]? = some (gbox ⟨#[]⟩ (.slice none 0 0) 0 0 (.slice none 0 0))
 e1 : W.heap[g]? = some (gbox nm pv r sl iv)
 lt : w.heap.size < g
 dl : d < w.heap.size
theorem GX.grow {w W V : World} {d g : Nat} {nm : ByteArray} {pv iv : Value} {r sl : Int} (h : GX w d g nm pv r sl iv W) (hg : W.grownBy V (some d)) : GX w d g nm pv r sl iv V :=
 ⟨grown_trans h.gr hg, grown_hp hg h.e0 (by have := h.dl; omega), grown_hp hg h.e1 (by have := h.dl; have := h.lt; omega), h.lt, h.dl⟩
theorem GX.next {w W V : World} {d g : Nat} {nm : ByteArray} {pv iv : Value} {r sl : Int} (h : GX w d g nm pv r sl iv W) (hg : Below W.heap.size W V) : GX w d g nm pv r sl iv V := h.grow (grown_of d hg)
theorem GX.own {w W V : World} {d g : Nat} {nm : ByteArray} {pv iv : Value} {r sl : Int} {e k m : Nat} {u : Value} {ys : List Value} (h : GX w d g nm pv r sl iv W) (ho : W.ownsRow w.heap.size e k u m ys) (hne : ¬ e = 57) (hg : W.grownBy V u.ownBlock) : GX w d g nm pv r sl iv V :=
 ⟨grown_own h.gr ho hg, box_other h.e0 ho hne hg, box_other h.e1 ho hne hg, h.lt, h.dl⟩
theorem GX.set1 {w W : World} {d g : Nat} {nm : ByteArray} {pv iv : Value} {r sl : Int} (h : GX w d g nm pv r sl iv W) (x : Value) : GX w d g nm x r sl iv (W.setCell ⟨g, 1, none⟩ x) :=
 ⟨grown_hi h.gr (Nat.le_of_lt h.lt) _ _, (set_other _ _ _ _ _ (by have := h.lt; omega)).trans h.e0, (by have := h.e1; unfold World.setCell; simp only [Array.getElem?_modify, this]; simp [gbox]), h.lt, h.dl⟩
theorem GX.set2 {w W : World} {d g : Nat} {nm : ByteArray} {pv iv : Value} {r sl : Int} (h : GX w d g nm pv r sl iv W) (x : Int) : GX w d g nm pv x sl iv (W.setCell ⟨g, 2, none⟩ (.int .i64 x)) :=
 ⟨grown_hi h.gr (Nat.le_of_lt h.lt) _ _, (set_other _ _ _ _ _ (by have := h.lt; omega)).trans h.e0, (by have := h.e1; unfold World.setCell; simp only [Array.getElem?_modify, this]; simp [gbox]), h.lt, h.dl⟩
theorem GX.set3 {w W : World} {d g : Nat} {nm : ByteArray} {pv iv : Value} {r sl : Int} (h : GX w d g nm pv r sl iv W) (x : Int) : GX w d g nm pv r x iv (W.setCell ⟨g, 3, none⟩ (.int .i64 x)) :=
 ⟨grown_hi h.gr (Nat.le_of_lt h.lt) _ _, (set_other _ _ _ _ _ (by have := h.lt; omega)).trans h.e0, (by have := h.e1; unfold World.setCell; simp only [Array.getElem?_modify, this]; simp [gbox]), h.lt, h.dl⟩
theorem GX.set4 {w W : World} {d g : Nat} {nm : ByteArray} {pv iv : Value} {r sl : Int} (h : GX w d g nm pv r sl iv W) (x : Value) : GX w d g nm pv r sl x (W.setCell ⟨g, 4, none⟩ x) :=
 ⟨grown_hi h.gr (Nat.le_of_lt h.lt) _ _, (set_other _ _ _ _ _ (by have := h.lt; omega)).trans h.e0, (by have := h.e1; unfold World.setCell; simp only [Array.getElem?_modify, this]; simp [gbox]), h.lt, h.dl⟩
def Sg (s : ByteArray) (p : Nat) (b : Bool) (q : Nat) (c : Bool) (rem : Fn → List UInt8) (P : Fn → Prop) : Prop := ∀ y, b = false → FnS y → Fr (fnF y) ((bts s).drop p) → c = false ∧ P y ∧ Fr (rem y) ((bts s).drop q) ∧ q + (rem y).length = p + (fnF y).length
theorem Sg.num {s : ByteArray} {p q q' M n : Nat} {b c c' : Bool} {rem rem' : Fn → List UInt8} {P : Fn → Prop} (h : Sg s p b q c rem P) (f : Fn → Int) (hr : ∀ y, FnS y → rem y = nb (uOf (f y)) ++ rem' y) (hf : ∀ y, FnS y → 0 ≤ f y ∧ f y ≤ M) (hM : M ≤ 200000) (hm : ∀ m, c = false → m ≤ M → Fr (nb m) ((bts s).drop q) → n = m ∧ q' = q + (nb m).length ∧ c' = false) : Sg s p b q' c' rem' (fun y => P y ∧ (n : Int) = f y) := fun y e1 e2 e3 => by
 obtain ⟨h1, h2, h3, h4⟩ := h y e1 e2 e3
 rw [hr y e2] at h3 h4
 have h5 := fr_at h3
 have h6 : uOf (f y) ≤ M ∧ ((uOf (f y) : Nat) : Int) = f y := by have := hf y e2; unfold uOf; omega
 have h7 := hm (uOf (f y)) h1 h6.1 h5.1
 refine ⟨h7.2.2, ⟨h2, by rw [h7.1]; exact h6.2⟩, by rw [h7.2.1]; exact h5.2, ?_⟩
 rw [← h4, h7.2.1, List.length_append]
 omega
def Wt (b : Bool) (p K q : Nat) (c : Bool) : Prop := (c = false → b = false ∧ p + K < q) ∧ p + K ≤ q + 1
theorem Wt.num {b c c' : Bool} {p K q q' : Nat} (h : Wt b p K q c) (h1 : q ≤ q') (h2 : c' = false → c = false ∧ q < q') : Wt b p K q' c' :=
 ⟨fun e => by have := h2 e; have := h.1 this.1; exact ⟨this.1, by omega⟩, by have := h.2; omega⟩
theorem Wt.more {b c' : Bool} {p K q q' t : Nat} (h : Wt b p K q false) (h1 : q + t ≤ q') (h2 : c' = false → false = false ∧ q + t < q') : Wt b p (K + 1 + t) q' c' :=
 ⟨fun e => by have := h2 e; have := h.1 rfl; exact ⟨this.1, by omega⟩, by have := h.1 rfl; omega⟩
def rm3 (y : Fn) : List UInt8 := nb y.ins.length ++ inssF y.ins
def rm2 (y : Fn) : List UInt8 := nb (uOf y.slots) ++ rm3 y
def rm1 (y : Fn) : List UInt8 := nb (uOf y.result) ++ rm2 y
theorem fnF_rm (y : Fn) : fnF y = tb y.name ++ (nb y.params.length ++ (parF y.params ++ rm1 y)) := by
 simp [fnF, hdF, rm1, rm2, rm3]
theorem lit_one (W : World) (t : TypeId) (x : Value) : ∀ j u, ([x] : List Value)[j]? = some u → (W.alloc (.cells #[x] t)).cell? ((⟨W.heap.size, 0, none⟩ : Addr).add j) = some u := fun j u hj => by
 match j, hj with
 | 0, hj => simp at hj; subst hj; simp [Addr.add]
theorem drop_cons' {l : List Int} {j : Nat} (h : j < l.length) : l.drop j = l.getD j 0 :: l.drop (j + 1) := by
 rw [List.drop_eq_getElem_cons h, List.getD_eq_getElem?_getD, List.getElem?_eq_getElem h]
 rfl
def ParS (s : ByteArray) (p : Nat) (b : Bool) (nm : ByteArray) (l : List Int) (m q : Nat) (c : Bool) : Prop := Sg s p b q c (fun y => parF (y.params.drop l.length) ++ rm1 y) (fun y => nm = y.name ∧ l = y.params.take l.length ∧ l.length + m = y.params.length)
theorem ParS.step {s : ByteArray} {p q q' m n : Nat} {b c c' : Bool} {nm : ByteArray} {l : List Int} (h : ParS s p b nm l (m + 1) q c) (hm : ∀ k, c = false → k ≤ 10 → Fr (nb k) ((bts s).drop q) → n = k ∧ q' = q + (nb k).length ∧ c' = false) : ParS s p b nm (l ++ [(n : Int)]) m q' c' := fun y e1 e2 e3 => by
 obtain ⟨h1, ⟨h2, h3, h4⟩, h5, h6⟩ := h y e1 e2 e3
 have hlt : l.length < y.params.length := by omega
 have hd : parF (y.params.drop l.length) = nb (uOf (y.params.getD l.length 0)) ++ parF (y.params.drop (l.length + 1)) := by
  rw [drop_cons' hlt]
  simp [parF]
 dsimp only at h5 h6
 rw [hd, List.append_assoc] at h5 h6
 have h7 := fr_at h5
 have h8 : uOf (y.params.getD l.length 0) ≤ 10 ∧ ((uOf (y.params.getD l.length 0) : Nat) : Int) = y.params.getD l.length 0 := by
  have := e2.params (y.params.getD l.length 0) (by rw [List.getD_eq_getElem?_getD, List.getElem?_eq_getElem hlt]; exact List.getElem_mem hlt)
  unfold uOf
  omega
 have h9 := hm _ h1 h8.1 h7.1
 have hl : (l ++ [(n : Int)]).length = l.length + 1 := by simp
 refine ⟨h9.2.2, ⟨h2, ?_, by omega⟩, by rw [hl, h9.2.1]; exact h7.2, ?_⟩
 ·rw [hl, take_int hlt, ← h3, h9.1, h8.2]
 ·show q' + (parF (y.params.drop (l ++ [(n : Int)]).length) ++ rm1 y).length = _
  rw [hl, ← h6, h9.2.1]
  simp only [List.length_append]
  omega
def InnS (s : ByteArray) (p : Nat) (b : Bool) (P : Fn → Prop) (l : List In) (m q : Nat) (c : Bool) : Prop := Sg s p b q c (fun y => inssF (y.ins.drop l.length)) (fun y => P y ∧ l = y.ins.take l.length ∧ l.length + m = y.ins.length)
theorem InnS.step {s : ByteArray} {p q q' m : Nat} {x : In} {b c c' : Bool} {P : Fn → Prop} {l : List In} (h : InnS s p b P l (m + 1) q c) (hm : ∀ k, c = false → InS k → Fr (insF k) ((bts s).drop q) → x = k ∧ q' = q + (insF k).length ∧ c' = false) : InnS s p b P (l ++ [x]) m q' c' := fun y e1 e2 e3 => by
 obtain ⟨h1, ⟨h2, h3, h4⟩, h5, h6⟩ := h y e1 e2 e3
 have hlt : l.length < y.ins.length := by omega
 have hd : inssF (y.ins.drop l.length) = insF (y.ins.getD l.length in0) ++ inssF (y.ins.drop (l.length + 1)) := by
  have e9 : y.ins.getD l.length in0 = y.ins[l.length] := by rw [List.getD_eq_getElem?_getD, List.getElem?_eq_getElem hlt]; rfl
  rw [List.drop_eq_getElem_cons hlt, e9]
  simp only [inssF, List.flatMap_cons]
 dsimp only at h5 h6
 rw [hd] at h5 h6
 have h7 := fr_at h5
 have h8 := e2.ins (y.ins.getD l.length in0) (by rw [List.getD_eq_getElem?_getD, List.getElem?_eq_getElem hlt]; exact List.getElem_mem hlt)
 have h9 := hm _ h1 h8 h7.1
 have hl : (l ++ [x]).length = l.length + 1 := by simp
 refine ⟨h9.2.2, ⟨h2, ?_, by omega⟩, by rw [hl, h9.2.1]; exact h7.2, ?_⟩
 ·rw [hl, take_in hlt, ← h3, h9.1]
 ·show q' + (inssF (y.ins.drop (l ++ [x]).length)).length = _
  rw [hl, ← h6, h9.2.1]
  simp only [List.length_append]
  omega
theorem wSIn_app (l : List In) (x : In) : R.wSIn (l ++ [x]) (l ++ [x]).length = R.wSIn l l.length + 1 + x.text.size := by
 have h1 : ∀ n, n ≤ l.length → R.wSIn (l ++ [x]) n = R.wSIn l n := fun n => by
  induction n with
  | zero => intro _; rfl
  | succ n ih =>
   intro hn
   simp only [R.wSIn]
   rw [ih (by omega), List.getD_eq_getElem?_getD, List.getElem?_append_left (by omega), ← List.getD_eq_getElem?_getD]
 have e : (l ++ [x]).length = l.length + 1 := by simp
 rw [e]
 simp only [R.wSIn, R.wIn]
 rw [h1 _ (Nat.le_refl _), List.getD_eq_getElem?_getD, List.getElem?_append_right (Nat.le_refl _)]
 simp
end Go.Proofs.YtcjgcipacfcjnaaGreatDoor.C.D
