import Derived.Deep.DeepCutAuto
import Derived.Test.YtbakebdfmdepnaaGreatDoorJ41
import Derived.Test.YtbakebdfmdepnaaGreatDoorJ44
import Derived.Test.YtbakebdfmdepnaaGreatDoorJ43
namespace Go.Proofs.YtbakebdfmdepnaaGreatDoor
open Go.RowKit
set_option maxRecDepth 20000
set_option maxHeartbeats 16000000 in
theorem args_at {s : Ds} {ov0 : Value} {w0 : World} {p n : Nat} {bad : Bool} {w : World} (hE : ∀ q, p ≤ q → EOk9 s q) (h : Ad s ov0 w0 p bad n w) (hl : n + 2 * s.T ≤ 400000 + 2 * p) :
  Calls Tryz.prog 116 #[.pointer (some ⟨s.D, 0, none⟩)] w (DI9 s ov0 w0 p n) := by
 have HA0 := hid h
 have hT := h.pT.2
 clear h
 go_enter Tryz.func116, Tryz.ntmps116
 go_wp2
 go_loopw [3, 4] (fun c3 c4 wr => ∃ m q k : Nat, ∃ bb : Bool, c3 = .int .i64 m ∧ (∃ nb : Bool, c4 = .bool nb) ∧ p ≤ q ∧ n ≤ k ∧ k + 2 * p ≤ n + 2 * q ∧ m ≤ q - p ∧ Ad s ov0 w0 q bb k wr) (fun _ _ wr => s.T - deskP s wr)
 case atStart => exact ⟨0, p, n, _, rfl, ⟨_, rfl⟩, by omega, by omega, by omega, by omega, HA0.out⟩
 case round =>
  obtain ⟨m, q, k, bb, rfl, ⟨nb, rfl⟩, lq, lk, lkq, lm, ad⟩ := hrel
  have HAr := hid ad
  have HDP := hid ad.deskP
  have hqT := ad.pT.1
  clear ad HA0
  obtain ⟨_, _, c3, _⟩ := HAr.out.cells
  cases bb
  ·rcases Nat.eq_zero_or_pos m with rfl | hm1
   ·go_wp2_with fail
    refine (is_at HAr.out _).mono ?_
    rintro e w1 (⟨rfl, l1, a1⟩ | ⟨rfl, a1⟩)
    ·have HA1 := hid a1
     clear a1 HAr
     go_wp2_with fail
     refine (need_at HA1.out _).mono ?_
     rintro e w2 ⟨rfl, p2, b2, l2a, l2b, a2⟩
     have HA2 := hid a2
     clear a2 HA1
     go_wp2
     go_ret
     exact ⟨0, p2, b2, k, rfl, by omega, by omega, by omega, by omega, HA2.out⟩
    ·have HA1 := hid a1
     clear a1 HAr
     cases nb
     ·go_wp2_with fail
      refine (named_at HA1.out).mono ?_
      rintro e w3 ⟨v3, rfl, a3⟩
      have HA3 := hid a3
      clear a3 HA1
      cases v3
      ·skip
       go_wp2_with fail
       refine (hE q (by omega) _ _ _ _ _ HA3.out (by have := HA3.out.pT; omega)).mono ?_
       rintro e w4 ⟨rfl, p4, b4, n4, l4a, l4b, l4c, a4⟩
       have HA4 := hid a4
       clear a4 HA3
       go_wp2_with fail
       refine (take_at HA4.out _).mono ?_
       rintro e w5 (⟨rfl, l5, a5⟩ | ⟨rfl, a5⟩)
       ·have HA5 := hid a5
        clear a5 HA4
        go_wp2
        go_roundw
        case rel => exact ⟨0 + 1, (p4 + 1), n4, false, by go_num, ⟨_, rfl⟩, by omega, by omega, by omega, by omega, HA5.out⟩
        case measure => rw [HA5.out.deskP, HDP.out]; have := HA5.out.pT; omega
       ·have HA5 := hid a5
        clear a5 HA4
        go_wp2_with fail
        refine (need_at HA5.out _).mono ?_
        rintro e w6 ⟨rfl, p6, b6, l6a, l6b, a6⟩
        have HA6 := hid a6
        clear a6 HA5
        go_wp2
        go_ret
        exact ⟨(0 + 1), p6, b6, n4, rfl, by omega, by omega, by omega, by omega, HA6.out⟩
      ·skip
       go_wp2_with fail
       refine (name_at9 HA3.out).mono ?_
       rintro e w7 ⟨t7, p7, b7, rfl, x7, l7a, l7b, l7c, a7⟩
       have HA7 := hid a7
       have HX7 := hid x7
       have HC7 := hid l7c
       clear a7 HA3 l7c x7
       go_wp2_with fail
       refine (need_at HA7.out _).mono ?_
       rintro e w8 ⟨rfl, p8, b8, l8a, l8b, a8⟩
       have HA8 := hid a8
       clear a8 HA7
       go_wp2_with fail
       refine (hE p8 (by omega) _ _ _ _ _ HA8.out (by have := HA8.out.pT; omega)).mono ?_
       rintro e w9 ⟨rfl, p9, b9, n9, l9a, l9b, l9c, a9⟩
       have HA9 := hid a9
       clear a9 HA8
       go_wp2_with fail
       refine (put_at9 HA9.out ⟨18, 0, 0, t7, 1⟩ (HX7.out) (by have := HA9.out.pT; omega)).mono ?_
       rintro e w10 ⟨rfl, a10⟩
       have HA10 := hid a10
       clear a10 HA9
       go_wp2_with fail
       refine (take_at HA10.out _).mono ?_
       rintro e w11 (⟨rfl, l11, a11⟩ | ⟨rfl, a11⟩)
       ·have HA11 := hid a11
        clear a11 HA10
        go_wp2
        go_roundw
        case rel => exact ⟨0 + 1, (p9 + 1), (n9 + 1), false, by go_num, ⟨_, rfl⟩, by omega, by omega, by omega, by omega, HA11.out⟩
        case measure => rw [HA11.out.deskP, HDP.out]; have := HA11.out.pT; omega
       ·have HA11 := hid a11
        clear a11 HA10
        go_wp2_with fail
        refine (need_at HA11.out _).mono ?_
        rintro e w12 ⟨rfl, p12, b12, l12a, l12b, a12⟩
        have HA12 := hid a12
        clear a12 HA11
        go_wp2
        go_ret
        exact ⟨(0 + 1), p12, b12, (n9 + 1), rfl, by omega, by omega, by omega, by omega, HA12.out⟩
     ·skip
      go_wp2_with fail
      refine (name_at9 HA1.out).mono ?_
      rintro e w13 ⟨t13, p13, b13, rfl, x13, l13a, l13b, l13c, a13⟩
      have HA13 := hid a13
      have HX13 := hid x13
      have HC13 := hid l13c
      clear a13 HA1 l13c x13
      go_wp2_with fail
      refine (need_at HA13.out _).mono ?_
      rintro e w14 ⟨rfl, p14, b14, l14a, l14b, a14⟩
      have HA14 := hid a14
      clear a14 HA13
      go_wp2_with fail
      refine (hE p14 (by omega) _ _ _ _ _ HA14.out (by have := HA14.out.pT; omega)).mono ?_
      rintro e w15 ⟨rfl, p15, b15, n15, l15a, l15b, l15c, a15⟩
      have HA15 := hid a15
      clear a15 HA14
      go_wp2_with fail
      refine (put_at9 HA15.out ⟨18, 0, 0, t13, 1⟩ (HX13.out) (by have := HA15.out.pT; omega)).mono ?_
      rintro e w16 ⟨rfl, a16⟩
      have HA16 := hid a16
      clear a16 HA15
      go_wp2_with fail
      refine (take_at HA16.out _).mono ?_
      rintro e w17 (⟨rfl, l17, a17⟩ | ⟨rfl, a17⟩)
      ·have HA17 := hid a17
       clear a17 HA16
       go_wp2
       go_roundw
       case rel => exact ⟨0 + 1, (p15 + 1), (n15 + 1), false, by go_num, ⟨_, rfl⟩, by omega, by omega, by omega, by omega, HA17.out⟩
       case measure => rw [HA17.out.deskP, HDP.out]; have := HA17.out.pT; omega
      ·have HA17 := hid a17
       clear a17 HA16
       go_wp2_with fail
       refine (need_at HA17.out _).mono ?_
       rintro e w18 ⟨rfl, p18, b18, l18a, l18b, a18⟩
       have HA18 := hid a18
       clear a18 HA17
       go_wp2
       go_ret
       exact ⟨(0 + 1), p18, b18, (n15 + 1), rfl, by omega, by omega, by omega, by omega, HA18.out⟩
   ·have hm2 : (0 : Int) < (m : Int) := by omega
    cases nb
    ·go_wp2_with fail
     refine (named_at HAr.out).mono ?_
     rintro e w19 ⟨v19, rfl, a19⟩
     have HA19 := hid a19
     clear a19 HAr
     cases v19
     ·skip
      go_wp2_with fail
      refine (hE q (by omega) _ _ _ _ _ HA19.out (by have := HA19.out.pT; omega)).mono ?_
      rintro e w20 ⟨rfl, p20, b20, n20, l20a, l20b, l20c, a20⟩
      have HA20 := hid a20
      clear a20 HA19
      go_wp2_with fail
      refine (take_at HA20.out _).mono ?_
      rintro e w21 (⟨rfl, l21, a21⟩ | ⟨rfl, a21⟩)
      ·have HA21 := hid a21
       clear a21 HA20
       go_wp2
       go_roundw
       case rel => exact ⟨m + 1, (p20 + 1), n20, false, by go_num, ⟨_, rfl⟩, by omega, by omega, by omega, by omega, HA21.out⟩
       case measure => rw [HA21.out.deskP, HDP.out]; have := HA21.out.pT; omega
      ·have HA21 := hid a21
       clear a21 HA20
       go_wp2_with fail
       refine (need_at HA21.out _).mono ?_
       rintro e w22 ⟨rfl, p22, b22, l22a, l22b, a22⟩
       have HA22 := hid a22
       clear a22 HA21
       go_wp2
       go_ret
       exact ⟨(m + 1), p22, b22, n20, rfl, by omega, by omega, by omega, by omega, HA22.out⟩
     ·skip
      go_wp2_with fail
      refine (name_at9 HA19.out).mono ?_
      rintro e w23 ⟨t23, p23, b23, rfl, x23, l23a, l23b, l23c, a23⟩
      have HA23 := hid a23
      have HX23 := hid x23
      have HC23 := hid l23c
      clear a23 HA19 l23c x23
      go_wp2_with fail
      refine (need_at HA23.out _).mono ?_
      rintro e w24 ⟨rfl, p24, b24, l24a, l24b, a24⟩
      have HA24 := hid a24
      clear a24 HA23
      go_wp2_with fail
      refine (hE p24 (by omega) _ _ _ _ _ HA24.out (by have := HA24.out.pT; omega)).mono ?_
      rintro e w25 ⟨rfl, p25, b25, n25, l25a, l25b, l25c, a25⟩
      have HA25 := hid a25
      clear a25 HA24
      go_wp2_with fail
      refine (put_at9 HA25.out ⟨18, 0, 0, t23, 1⟩ (HX23.out) (by have := HA25.out.pT; omega)).mono ?_
      rintro e w26 ⟨rfl, a26⟩
      have HA26 := hid a26
      clear a26 HA25
      go_wp2_with fail
      refine (take_at HA26.out _).mono ?_
      rintro e w27 (⟨rfl, l27, a27⟩ | ⟨rfl, a27⟩)
      ·have HA27 := hid a27
       clear a27 HA26
       go_wp2
       go_roundw
       case rel => exact ⟨m + 1, (p25 + 1), (n25 + 1), false, by go_num, ⟨_, rfl⟩, by omega, by omega, by omega, by omega, HA27.out⟩
       case measure => rw [HA27.out.deskP, HDP.out]; have := HA27.out.pT; omega
      ·have HA27 := hid a27
       clear a27 HA26
       go_wp2_with fail
       refine (need_at HA27.out _).mono ?_
       rintro e w28 ⟨rfl, p28, b28, l28a, l28b, a28⟩
       have HA28 := hid a28
       clear a28 HA27
       go_wp2
       go_ret
       exact ⟨(m + 1), p28, b28, (n25 + 1), rfl, by omega, by omega, by omega, by omega, HA28.out⟩
    ·skip
     go_wp2_with fail
     refine (name_at9 HAr.out).mono ?_
     rintro e w29 ⟨t29, p29, b29, rfl, x29, l29a, l29b, l29c, a29⟩
     have HA29 := hid a29
     have HX29 := hid x29
     have HC29 := hid l29c
     clear a29 HAr l29c x29
     go_wp2_with fail
     refine (need_at HA29.out _).mono ?_
     rintro e w30 ⟨rfl, p30, b30, l30a, l30b, a30⟩
     have HA30 := hid a30
     clear a30 HA29
     go_wp2_with fail
     refine (hE p30 (by omega) _ _ _ _ _ HA30.out (by have := HA30.out.pT; omega)).mono ?_
     rintro e w31 ⟨rfl, p31, b31, n31, l31a, l31b, l31c, a31⟩
     have HA31 := hid a31
     clear a31 HA30
     go_wp2_with fail
     refine (put_at9 HA31.out ⟨18, 0, 0, t29, 1⟩ (HX29.out) (by have := HA31.out.pT; omega)).mono ?_
     rintro e w32 ⟨rfl, a32⟩
     have HA32 := hid a32
     clear a32 HA31
     go_wp2_with fail
     refine (take_at HA32.out _).mono ?_
     rintro e w33 (⟨rfl, l33, a33⟩ | ⟨rfl, a33⟩)
     ·have HA33 := hid a33
      clear a33 HA32
      go_wp2
      go_roundw
      case rel => exact ⟨m + 1, (p31 + 1), (n31 + 1), false, by go_num, ⟨_, rfl⟩, by omega, by omega, by omega, by omega, HA33.out⟩
      case measure => rw [HA33.out.deskP, HDP.out]; have := HA33.out.pT; omega
     ·have HA33 := hid a33
      clear a33 HA32
      go_wp2_with fail
      refine (need_at HA33.out _).mono ?_
      rintro e w34 ⟨rfl, p34, b34, l34a, l34b, a34⟩
      have HA34 := hid a34
      clear a34 HA33
      go_wp2
      go_ret
      exact ⟨(m + 1), p34, b34, (n31 + 1), rfl, by omega, by omega, by omega, by omega, HA34.out⟩
  ·skip
   go_wp2_with fail
   refine (need_at HAr.out _).mono ?_
   rintro e w35 ⟨rfl, p35, b35, l35a, l35b, a35⟩
   have HA35 := hid a35
   clear a35 HAr
   go_wp2
   go_ret
   exact ⟨m, p35, b35, k, rfl, by omega, by omega, by omega, by omega, HA35.out⟩
end Go.Proofs.YtbakebdfmdepnaaGreatDoor
namespace Go.Proofs.YtbakebdfmdepnaaGreatDoor
open Go.RowKit Go.Maps Go.WideMaps
set_option maxRecDepth 20000
set_option maxHeartbeats 4000000 in
theorem bound_any (b N cap : Nat) (nd : Nat → Nd) (w : World) (hN : N ≤ 1048576) (hb : b < w.heap.size) (hn : NodesAt w b N nd) (hx : ∀ i, i < N → (nd i).text.size ≤ maxLen) (hE : BEnv w) :
  Calls Tryz.prog 11 #[.agg #[.slice (some ⟨b, 0, none⟩) N cap]] w fun e w' => BoundEnd nd N w w' e := by
 have HN := hid hn
 have HX := hid hx
 have HE := hid hE
 clear hn hx hE
 have HA : Hid (Below w.heap.size w ((w.alloc (.cells #[.slice (some ⟨b, 0, none⟩) N cap] 25)).alloc (.cells #[.int .i64 0, .int .i64 0] 28))) := ((Below.refl _ _).alloc (Nat.le_refl _) _).alloc (by simp) _
 have HR0 : Hid ((World.heap ((w.alloc (.cells #[.slice (some ⟨b, 0, none⟩) N cap] 25)).alloc (.cells #[.int .i64 0, .int .i64 0] 28)))[w.heap.size + 1]? = some (.cells #[.int .i64 0, .int .i64 0] 28 (0, 0)) ∧ ((w.alloc (.cells #[.slice (some ⟨b, 0, none⟩) N cap] 25)).alloc (.cells #[.int .i64 0, .int .i64 0] 28)).cell? ⟨w.heap.size, 0, none⟩ = some (.slice (some ⟨b, 0, none⟩) N cap)) := by
  refine ⟨?_, ?_⟩
  ·have := heap_alloc_new (w.alloc (.cells #[.slice (some ⟨b, 0, none⟩) N cap] 25)) (.cells #[.int .i64 0, .int .i64 0] 28)
   rw [World.size_alloc] at this
   exact this
  ·rw [cell_alloc_lt _ _ _ _ (by simp)]
   exact cell_new_row w _ _ 0
 go_enter Tryz.func11, Tryz.ntmps11
 have HSZ : Hid (((w.alloc (.cells #[.slice (some ⟨b, 0, none⟩) N cap] 25)).alloc (.cells #[.int .i64 0, .int .i64 0] 28)).heap.size = w.heap.size + 2) := by show _ = _; simp
 go_wp2_with fail
 refine (implValid_all b N cap nd _ hN (by rw [HSZ.out]; omega) (HN.out.below HA.out hb) HX.out).mono ?_
 rintro e w1 ⟨hs1, hb1⟩
 have HB1 := hid (HA.out.trans (hb1.mono (by rw [HSZ.out]; omega)))
 have hw1 : w.heap.size + 2 ≤ w1.heap.size := by have := hb1.size; rw [HSZ.out] at this; exact this
 have hF1 : w1.heap[w.heap.size + 1]? = some (.cells #[.int .i64 0, .int .i64 0] 28 (0, 0)) := (hb1.block _ (by rw [HSZ.out]; omega)).trans HR0.out.1
 have t1 : w1.cell? ⟨w.heap.size, 0, none⟩ = some (.slice (some ⟨b, 0, none⟩) N cap) := (hb1.cell (p := ⟨w.heap.size, 0, none⟩) (by rw [HSZ.out]; show w.heap.size < w.heap.size + 2; omega)).trans HR0.out.2
 clear hb1
 obtain ⟨r0, r1, r2, r3⟩ : w1.cell? ⟨w.heap.size + 1, 0, none⟩ = some (.int .i64 0) ∧ w1.cell? ⟨w.heap.size + 1, 1, none⟩ = some (.int .i64 0) ∧ w1.frozen? ⟨w.heap.size + 1, 0, none⟩ = false ∧ w1.frozen? ⟨w.heap.size + 1, 1, none⟩ = false := by
  refine ⟨?_, ?_, ?_, ?_⟩
  ·unfold World.cell?; rw [hF1]; rfl
  ·unfold World.cell?; rw [hF1]; rfl
  ·unfold World.frozen?; rw [hF1]; simp
  ·unfold World.frozen?; rw [hF1]; simp
 rcases hs1.get with ⟨rfl, hV⟩ | ⟨rfl, hV⟩
 ·have HV := hid hV
  obtain ⟨hV1, hV2, hV3, o, xx, hV4, hV5⟩ := hV
  have HKF := hid hV4
  have HFT := hid hV5
  clear hV4 hV5 hs1
  obtain ⟨i0, hi, hz0, hz1, hz2⟩ := info_parts info_int
  have HHI := hid (And.intro hi (And.intro hz0 (And.intro hz1 hz2)))
  clear hi hz0 hz1
  have hmk := run_make_row' (P := Tryz.prog) 30 3 (.int .i64 0) 8 Tryz.underlying30 info_int rfl .i64 .i64 N (by omega) (by omega)
  have HKP : Hid (∀ W, Below w.heap.size w W → Calls Tryz.prog 20 #[.slice (some ⟨b, 0, none⟩) N cap] W fun e w' => ∃ gk, e = .returned (.slice (some ⟨gk, 0, none⟩) N N) ∧ W.heap.size ≤ gk ∧ KG w' gk N o ∧ (∀ i, i < N → ∀ g n c, w'.cell? ⟨gk, i, none⟩ = some (.slice (some ⟨g, 0, none⟩) n c) → W.heap.size ≤ g) ∧ Below W.heap.size W w') := fun W hW => kidPlaces_any b N cap nd o _ W (by omega) (Nat.lt_of_lt_of_le hb hW.size) (HN.out.below hW hb) HKF.out
  have e1 : ∀ O, (w1.alloc O).cell? ⟨w.heap.size, 0, none⟩ = some (.slice (some ⟨b, 0, none⟩) N cap) := fun O => (cell_alloc_lt w1 O _ _ (by omega)).trans t1
  have e2 : ∀ O O', ((w1.alloc O).alloc O').cell? ⟨w.heap.size, 0, none⟩ = some (.slice (some ⟨b, 0, none⟩) N cap) := fun O O' => (cell_alloc_lt _ O' _ _ (by simp; omega)).trans (e1 O)
  go_upto_region 3 with fail
  have HK1 : Hid (∀ W, Below w1.heap.size w1 W → W.cell? ⟨w.heap.size, 0, none⟩ = some (.slice (some ⟨b, 0, none⟩) N cap)) := fun W h => (h.cell (p := ⟨w.heap.size, 0, none⟩) (by show w.heap.size < w1.heap.size; omega)).trans t1
  go_cut [4] (fun v wx => BoxR nd o N b cap w1 v wx)
  case first =>
   go_region_held3 (fun W => W.cell? ⟨w.heap.size, 0, none⟩ = some (.slice (some ⟨b, 0, none⟩) N cap)) (first | (rw [cell_set_ne, cell_set_ne, cell_set_ne, cell_set_ne, cell_set_ne]; (first | exact f1 | exact f2); all_goals omega) | (refine (cell_alloc_lt _ _ _ _ ?_).trans ?_; (simp [World.setCell]; omega); rw [cell_set_ne, cell_set_ne, cell_set_ne, cell_set_ne, cell_set_ne]; (exact f1); all_goals omega) | go_keep) (first
    | (go_at_call 20; refine (HKP.out _ ?_).mono ?_; (first | exact HB1.out.drew | exact (HB1.out.alloc HB1.out.size _).drew | exact ((HB1.out.alloc HB1.out.size _).alloc (by simp; omega) _).drew); rintro e w2 ⟨gk, rfl, hgk, hkg, hkb, hb2⟩; have f1 : w2.cell? ⟨w.heap.size, 0, none⟩ = some (.slice (some ⟨b, 0, none⟩) N cap) := (by first | exact pre_t t1 hw1 hb2 | exact pre_t1 t1 hw1 hb2 | exact pre_t2 t1 hw1 hb2); have f2 : (w2.alloc (.cells (madeCells #[.int .i64 0] N) 3)).cell? ⟨w.heap.size, 0, none⟩ = some (.slice (some ⟨b, 0, none⟩) N cap) := (cell_alloc_lt w2 _ _ _ (World.block_lt_of_cell? w2 _ f1)).trans f1; have HCA := hid hb2; have HKGX := hid hkg; have HKBX := hid hkb; (first | (have hq := pre_b (w1 := w1) hb2; obtain ⟨hlw, z0, z1, z2, z3, z4, z5, z6, z7, z8, z9⟩ := hq; obtain ⟨zz0, zz1, zz2, zz3, zz4, zz5, zz6, zz7, zz8, zz9⟩ := five_more ⟨z0, z1, z2, z3, z4, z5, z6, z7, z8, z9⟩ (.cells (madeCells #[.int .i64 0] N) 3)) | (have hq := pre_bm (w1 := w1) hb2; obtain ⟨hlw, z0, z1, z2, z3, z4, z5, z6, z7, z8, z9⟩ := hq) | (have hq := pre_mb (w1 := w1) hb2; obtain ⟨hlw, z0, z1, z2, z3, z4, z5, z6, z7, z8, z9⟩ := hq) | skip); clear hkg hkb hb2)
    | fail)
   ·go_wp2_with fail
    go_meet
    case rel => exact end1 hV1 HCA.out hgk HKGX.out HKBX.out
   ·go_wp2_with fail
    go_meet
    case rel => exact end2 hV1 HCA.out hgk HKGX.out HKBX.out
   ·go_wp2_with fail
    go_meet
    case rel => exact end3 hV1 HCA.out hgk HKGX.out HKBX.out
   ·go_wp2_with fail
    go_meet
    case rel => exact end4 hV1 HCA.out hgk HKGX.out HKBX.out
   ·go_wp2_with fail
    go_meet
    case rel => exact end5 hV1 HCA.out hgk HKGX.out HKBX.out
   ·go_wp2_with fail
    go_meet
    case rel => exact end6 hV1 HCA.out hgk HKGX.out HKBX.out
  case rest =>
   obtain ⟨bb, gm, gk, rfl, hbb, hgm, hne, hkb, hkm, hat, hstb, hbw⟩ := hcut
   clear e1 e2 hmk HKP
   have HAT := hid hat
   have HBW := hid hbw
   obtain ⟨x, hxe⟩ : ∃ x, x = Bx.mk bb gm b N cap gk nd o := ⟨_, rfl⟩
   have HOK : Hid (x.Ok) := by rw [hxe]; exact box_ok hne hV2 HX.out HKF.out (fun i hi => (HFT.out i hi).2) (by omega) (by omega) hkb hkm
   have HTR : Hid (Stb x.S wc x.Tree) := by
    rw [hxe]
    refine fun W hW => ⟨?_, hstb W hW⟩
    have h1 : Below w.heap.size w W := (HB1.out.trans (HBW.out.mono HB1.out.size)).trans (hW.below (Nat.le_trans HB1.out.size HBW.out.size) (by rintro k (rfl | rfl) <;> omega))
    exact HN.out.below h1 hb
   have HAX : Hid (x.At wc (fun _ => 0) 0 0) := by rw [hxe]; exact HAT.out
   have HXE := hid hxe
   have HSB : Hid (∀ W, Sv x.S wc W → Below w1.heap.size w1 W) := fun W hW => HBW.out.trans (hW.below HBW.out.size (by rw [HXE.out]; rintro k (rfl | rfl) <;> omega))
   obtain ⟨-, -, f2, -, -, -, -⟩ := hat.five
   clear hat hstb hbw hxe r0 r1 r2 r3
   go_wp2
   clear f2
   go_loopw [23] (fun i wr => ∃ j : Nat, j ≤ N ∧ i = .int .i64 j ∧ x.At wr (fun i => if i < j then -1 else 0) 0 0 ∧ Sv x.S wc wr) (fun i _ => N - (intOf i).toNat)
   case atStart => exact ⟨0, Nat.zero_le _, rfl, HAX.out, Sv.refl _ _⟩
   case round =>
    obtain ⟨j, hj, rfl, hatw, hsvw⟩ := hrel
    have HATW := hid hatw
    have HSVW := hid hsvw
    have f2 : wr.cell? ⟨bb, 2, none⟩ = some (.slice (some ⟨gm, 0, none⟩) N N) := by have := hatw.five.2.2.1; rw [HXE.out] at this; exact this
    clear hatw hsvw
    by_cases hlt : j < N
    ·obtain ⟨b0, b1⟩ : wr.cell? ⟨gm, j, none⟩ = some (.int .i64 0) ∧ wr.frozen? ⟨gm, j, none⟩ = false := by
      have := HATW.out.2.cell j (by rw [HXE.out]; exact hlt)
      rw [HXE.out, if_neg (Nat.lt_irrefl _)] at this
      exact this
     have HNX : Hid (x.At (wr.setCell ⟨gm, j, none⟩ (.int .i64 (-1))) (fun i => if i < j + 1 then -1 else 0) 0 0 ∧ Sv x.S wc (wr.setCell ⟨gm, j, none⟩ (.int .i64 (-1)))) := by
      have e : x.gb = gm := by rw [HXE.out]
      have h1 := at_set HOK.out.ne HATW.out (by rw [HXE.out]; exact hlt)
      rw [e] at h1
      exact ⟨h1, HSVW.out.setCell (p := ⟨gm, j, none⟩) (.inl (.inr e.symm)) _⟩
     go_wp2
     go_roundw
     case rel => exact ⟨j + 1, by omega, by go_num, HNX.out.1, HNX.out.2⟩
     case measure => simp [intOf]; omega
    ·obtain rfl : j = N := by omega
     have tw : wr.cell? ⟨w.heap.size, 0, none⟩ = some (.slice (some ⟨b, 0, none⟩) j cap) := ((HSB.out _ HSVW.out).cell (p := ⟨w.heap.size, 0, none⟩) (by show w.heap.size < w1.heap.size; omega)).trans t1
     have hwrs := HSVW.out.size
     have hws := HBW.out.size
     clear f2
     have HM : Hid (x.N = j ∧ x.nd = nd ∧ x.o = o ∧ x.bb = bb ∧ x.gb = gm) := by rw [HXE.out]; exact ⟨rfl, rfl, rfl, rfl, rfl⟩
     have HENV : Hid (∀ W, Below w1.heap.size w1 W → BEnv W) := fun W hW => HE.out.below (HB1.out.trans (hW.mono HB1.out.size)) HE.out.pos
     have HWK : Hid (∀ a bn W, x.At W bn 0 0 → Stb x.S W x.Tree → Kn x.S W (.pointer a) builtEnv → Calls Tryz.prog 21 #[.pointer (some ⟨bb, 0, none⟩), .int .i64 ((j : Int) - 1), .pointer a] W fun e w' => e = .returned (.tuple #[]) ∧ x.Ends W w' bn (0, 0) (treeE nd o j)) := fun a bn W h1 h2 h3 => by
      have := walk_top x HOK.out (by rw [HM.out.1]; exact hV1) (by rw [HM.out.2.1, HM.out.1]; exact hV3) ((j : Int) - 1) (by rw [HM.out.1]; omega) a bn W h1 h2 h3
      rw [HM.out.2.2.2.1, HM.out.2.1, HM.out.2.2.1, HM.out.1] at this
      exact this
     have HSW := hid (HSB.out _ HSVW.out)
     have hwrap : IntKind.i64.wrap ((j : Int) - 1) = (j : Int) - 1 := by rw [IntKind.wrap_i64]; omega
     go_upto_region 9 with fail
     go_region_held3 (fun W => W.cell? ⟨w.heap.size, 0, none⟩ = some (.slice (some ⟨b, 0, none⟩) j cap)) (first | exact tw4 | exact tw3 | go_keep) (first
      | (go_at_call 22; refine (builtScope_any x.S (wr.drew) HATW.out.lt (HENV.out _ HSW.out.drew)).mono ?_; rintro e w3 ⟨sb, rfl, hkn, hb3⟩; have tw3 : w3.cell? ⟨w.heap.size, 0, none⟩ = some (.slice (some ⟨b, 0, none⟩) j cap) := (hb3.cell (p := ⟨w.heap.size, 0, none⟩) (by show w.heap.size < wr.heap.size; omega)).trans tw; have HKN := hid hkn; have HB3 := hid ((Below.refl wr.heap.size wr).drew.trans hb3); clear hkn hb3)
      | (go_at_call 21; refine (HWK.out _ (fun i => if i < j then -1 else 0) _ (HATW.out.go HB3.out) ((HTR.out.go HSVW.out).go (Sv.of_below HB3.out)) HKN.out).mono ?_; rintro e w4 ⟨rfl, hen⟩; have HEN := hid hen; have tw4 : w4.cell? ⟨w.heap.size, 0, none⟩ = some (.slice (some ⟨b, 0, none⟩) j cap) := ((HSB.out _ (HSVW.out.trans ((Sv.of_below HB3.out).trans hen.1))).cell (p := ⟨w.heap.size, 0, none⟩) (by show w.heap.size < w1.heap.size; omega)).trans t1; clear hen))
     obtain ⟨hsv4, bn, hat4, hbn⟩ := HEN.out
     have HB4 := hid (HSB.out _ (HSVW.out.trans ((Sv.of_below HB3.out).trans hsv4)))
     have hF4 : w4.heap[w.heap.size + 1]? = some (.cells #[.int .i64 0, .int .i64 0] 28 (0, 0)) := (HB4.out.block _ (by omega)).trans hF1
     have HBW4 : Hid (Below w.heap.size w w4) := HB1.out.trans (HB4.out.mono HB1.out.size)
     obtain ⟨r0, r1, r2, r3⟩ : w4.cell? ⟨w.heap.size + 1, 0, none⟩ = some (.int .i64 0) ∧ w4.cell? ⟨w.heap.size + 1, 1, none⟩ = some (.int .i64 0) ∧ w4.frozen? ⟨w.heap.size + 1, 0, none⟩ = false ∧ w4.frozen? ⟨w.heap.size + 1, 1, none⟩ = false := zero2 hF4
     obtain ⟨-, -, g2, g3, g4, -, -⟩ := hat4.five
     rw [HM.out.2.2.2.1, HM.out.2.2.2.2, HM.out.1] at g2
     rw [HM.out.2.2.2.1] at g3 g4
     have HAT4 := hid hat4
     have HBN := hid hbn
     clear hat4 hbn hsv4 HEN tw tw3 tw4 hwrap HWK
     cases hfl : fls (treeE nd o j) with
     | nil =>
      rw [hfl] at g3 g4
      change w4.cell? ⟨bb, 3, none⟩ = some (.int .i64 0) at g3
      change w4.cell? ⟨bb, 4, none⟩ = some (.int .i64 0) at g4
      have HFL := hid hfl
      clear hfl
      have q0 := ret2 hF4 (.int .i64 0) (.int .i64 0)
      obtain ⟨q1, q2⟩ := q0
      have HFIN : Hid (Below w.heap.size w ((w4.setCell ⟨w.heap.size + 1, 0, none⟩ (.int .i64 0)).setCell ⟨w.heap.size + 1, 1, none⟩ (.int .i64 0)) ∧ BnAt ((w4.setCell ⟨w.heap.size + 1, 0, none⟩ (.int .i64 0)).setCell ⟨w.heap.size + 1, 1, none⟩ (.int .i64 0)) gm j (apB (fun _ => -1) (treeE nd o j))) := by
       refine ⟨(HBW4.out.setCell (p := ⟨w.heap.size + 1, 0, none⟩) (Nat.le_succ _) _).setCell (p := ⟨w.heap.size + 1, 1, none⟩) (Nat.le_succ _) _, ?_⟩
       obtain ⟨cur, u1, u2, u3⟩ := HAT4.out.2
       rw [HM.out.2.2.2.2] at u1
       rw [HM.out.1] at u2 u3
       have e := HBN.out HFL.out
       refine ⟨cur, (Below.heap_setCell _ _ _ _ (by show gm ≠ w.heap.size + 1; omega)).trans ((Below.heap_setCell _ _ _ _ (by show gm ≠ w.heap.size + 1; omega)).trans u1), u2, fun i hi => ?_⟩
       rw [u3 i hi, e, apB_at _ (fun i => if i < j then -1 else 0) (fun _ => -1) i (if_pos hi)]
      clear hF4
      go_wp2
      clear r0 r1 r2 r3 g2 g3 g4 t1 hF1
      generalize (w4.setCell ⟨w.heap.size + 1, 0, none⟩ (.int .i64 0)).setCell ⟨w.heap.size + 1, 1, none⟩ (.int .i64 0) = w5 at *
      refine bodyPost_ret (v := .tuple #[.slice (some ⟨gm, 0, none⟩) j j, .agg #[.int .i64 0, .int .i64 0]]) (by simp [results, Tryz.results11, go_sem, q1, q2]) rfl ?_
      exact ⟨HFIN.out.1, .inr ⟨o, xx, HV.out, HKF.out, .inr ⟨HFL.out, gm, rfl, by omega, HFIN.out.2⟩⟩⟩
     | cons y l =>
      obtain ⟨k, c⟩ := y
      have hc0 : c ≠ 0 := by
       have h1 := (srt_tree HKF.out hV1 (fun i hi => (HFT.out i hi).2) hV3).2 (k, c) (by rw [hfl]; simp)
       simp only at h1
       omega
      rw [hfl, ft_first k c hc0 l] at g3 g4
      change w4.cell? ⟨bb, 3, none⟩ = some (.int .i64 (c : Nat)) at g3
      change w4.cell? ⟨bb, 4, none⟩ = some (.int .i64 (k : Nat)) at g4
      have HFL := hid hfl
      clear hfl
      have q0 := ret2 hF4 (.int .i64 (c : Nat)) (.int .i64 (k : Nat))
      obtain ⟨q1, q2⟩ := q0
      have HFIN : Hid (Below w.heap.size w ((w4.setCell ⟨w.heap.size + 1, 0, none⟩ (.int .i64 (c : Nat))).setCell ⟨w.heap.size + 1, 1, none⟩ (.int .i64 (k : Nat)))) := (HBW4.out.setCell (p := ⟨w.heap.size + 1, 0, none⟩) (Nat.le_succ _) _).setCell (p := ⟨w.heap.size + 1, 1, none⟩) (Nat.le_succ _) _
      clear hF4
      go_wp2
      go_region
      all_goals go_wp2
      clear r0 r1 r2 r3 g2 g3 g4 t1 hF1
      generalize (w4.setCell ⟨w.heap.size + 1, 0, none⟩ (.int .i64 (c : Nat))).setCell ⟨w.heap.size + 1, 1, none⟩ (.int .i64 (k : Nat)) = w5 at *
      have q3 : w5.drew.cell? ⟨w.heap.size + 1, 0, none⟩ = some (.int .i64 (c : Nat)) := q1
      have q4 : w5.drew.cell? ⟨w.heap.size + 1, 1, none⟩ = some (.int .i64 (k : Nat)) := q2
      refine bodyPost_ret (v := .tuple #[.slice none 0 0, .agg #[.int .i64 (c : Nat), .int .i64 (k : Nat)]]) (by simp [results, Tryz.results11, go_sem, q3, q4]) rfl ?_
      exact ⟨HFIN.out.drew, .inr ⟨o, xx, HV.out, HKF.out, .inl ⟨k, c, l, HFL.out, rfl⟩⟩⟩
 ·have HV := hid hV
  clear hV hs1
  have HBE : Hid (Below w.heap.size w ((w1.setCell ⟨w.heap.size + 1, 0, none⟩ (.int .i64 11)).setCell ⟨w.heap.size + 1, 1, none⟩ (.int .i64 0))) := (HB1.out.setCell (p := ⟨w.heap.size + 1, 0, none⟩) (Nat.le_succ _) _).setCell (p := ⟨w.heap.size + 1, 1, none⟩) (Nat.le_succ _) _
  have q0 := set_atC (.int .i64 0) (i := 1) (set_atC (.int .i64 11) (i := 0) hF1)
  have q1 : ((w1.setCell ⟨w.heap.size + 1, 0, none⟩ (.int .i64 11)).setCell ⟨w.heap.size + 1, 1, none⟩ (.int .i64 0)).cell? ⟨w.heap.size + 1, 0, none⟩ = some (.int .i64 11) := by unfold World.cell?; rw [q0]; rfl
  have q2 : ((w1.setCell ⟨w.heap.size + 1, 0, none⟩ (.int .i64 11)).setCell ⟨w.heap.size + 1, 1, none⟩ (.int .i64 0)).cell? ⟨w.heap.size + 1, 1, none⟩ = some (.int .i64 0) := by unfold World.cell?; rw [q0]; rfl
  clear q0
  go_wp2
  clear r0 r1 r2 r3 t1 hF1
  generalize (w1.setCell ⟨w.heap.size + 1, 0, none⟩ (.int .i64 11)).setCell ⟨w.heap.size + 1, 1, none⟩ (.int .i64 0) = w2 at *
  refine bodyPost_ret (v := .tuple #[.slice none 0 0, .agg #[.int .i64 11, .int .i64 0]]) (by simp [results, Tryz.results11, go_sem, q1, q2]) rfl ?_
  exact ⟨HBE.out, .inl ⟨HV.out, rfl⟩⟩
end Go.Proofs.YtbakebdfmdepnaaGreatDoor
namespace Go.Proofs.YtbakebdfmdepnaaGreatDoor
open Go.RowKit
set_option maxRecDepth 20000
set_option maxHeartbeats 8000000 in
theorem single_at {s : Ds} {ov0 : Value} {w0 : World} {p n : Nat} {bad : Bool} {w : World} (hE : ∀ q, p < q → EOk9 s q) (h : Ad s ov0 w0 p bad n w) (hl : n + 2 * s.T ≤ 400000 + 2 * p) :
  Calls Tryz.prog 115 #[.pointer (some ⟨s.D, 0, none⟩)] w (DE 0 s ov0 w0 p n) := by
 have HA0 := hid h
 have hT := h.pT.2
 have hpT := h.pT.1
 clear h
 go_enter Tryz.func115, Tryz.ntmps115
 go_wp2_with fail
 refine (tok_at HA0.out).mono ?_
 rintro e w1 ⟨k, m, q, t, rfl, hx, hk, a1⟩
 have HAO : Hid (∀ o, Ad s ov0 w0 p bad n (w1.alloc o)) := fun o => a1.next ((Below.refl _ _).alloc (Nat.le_refl _) o)
 have HK := hid hk
 have HX := hid hx
 have hDw : s.D < w1.heap.size := by obtain ⟨ov, h1, _⟩ := a1; exact h1.lt
 have C3 : ∀ o, (w1.alloc o).cell? ⟨s.D, 3, none⟩ = some (.bool bad) := fun o => (HAO.out o).cells.2.2.1
 have C2 : ∀ o, (w1.alloc o).cell? ⟨s.D, 2, none⟩ = some (.int .i64 p) := fun o => (HAO.out o).cells.2.1
 have F2 : ∀ o, (w1.alloc o).frozen? ⟨s.D, 2, none⟩ = false := fun o => (HAO.out o).cells.2.2.2
 have hne : s.D ≠ w1.heap.size := by omega
 have hne2 : w1.heap.size ≠ s.D := by omega
 clear hk hx a1 HA0 hDw
 cases bad
 ·by_cases h3 : k = 3
  ·subst h3
   have hp := HK.out (by decide)
   have HAi := hid ((HAO.out (.cells #[.int .i64 3, .string t, .int .i64 m, .int .i64 q] 120)).inc hp)
   go_wp2_with fail
   refine (put_at9 HAi.out ⟨3, 0, m, ⟨#[]⟩, 0⟩ (by show (⟨#[]⟩ : ByteArray).size ≤ 1000; decide) (by have := HAi.out.pT; omega)).mono ?_
   rintro e w1 ⟨rfl, a1⟩
   have HA1 := hid a1
   clear a1 HAi
   go_wp2
   go_end0
   exact ⟨rfl, (p + 1), false, (n + 1), by omega, by omega, by omega, HA1.out⟩
  ·have e3 : (k == 3) = false := by simpa using h3
   by_cases h4 : k = 4
   ·subst h4
    have hp := HK.out (by decide)
    have HAi := hid ((HAO.out (.cells #[.int .i64 4, .string t, .int .i64 m, .int .i64 q] 120)).inc hp)
    go_wp2_with fail
    refine (put_at9 HAi.out ⟨4, 0, 0, t, 0⟩ (HX.out) (by have := HAi.out.pT; omega)).mono ?_
    rintro e w2 ⟨rfl, a2⟩
    have HA2 := hid a2
    clear a2 HAi
    go_wp2
    go_end0
    exact ⟨rfl, (p + 1), false, (n + 1), by omega, by omega, by omega, HA2.out⟩
   ·have e4 : (k == 4) = false := by simpa using h4
    by_cases h1 : k = 1
    ·subst h1
     have hp := HK.out (by decide)
     have HAi := hid ((HAO.out (.cells #[.int .i64 1, .string t, .int .i64 m, .int .i64 q] 120)).inc hp)
     go_wp2_with fail
     refine (put_at9 HAi.out ⟨5, 0, 0, t, 0⟩ (HX.out) (by have := HAi.out.pT; omega)).mono ?_
     rintro e w3 ⟨rfl, a3⟩
     have HA3 := hid a3
     clear a3 HAi
     go_wp2
     go_end0
     exact ⟨rfl, (p + 1), false, (n + 1), by omega, by omega, by omega, HA3.out⟩
    ·have e1 : (k == 1) = false := by simpa using h1
     go_wp2_with fail
     refine (take_at (HAO.out _) _).mono ?_
     rintro e w4 (⟨rfl, l4, a4⟩ | ⟨rfl, a4⟩)
     ·have HA4 := hid a4
      clear a4 HAO
      go_wp2_with fail
      refine (put_at9 HA4.out ⟨1, 0, 0, ⟨#[]⟩, 0⟩ (by show (⟨#[]⟩ : ByteArray).size ≤ 1000; decide) (by have := HA4.out.pT; omega)).mono ?_
      rintro e w5 ⟨rfl, a5⟩
      have HA5 := hid a5
      clear a5 HA4
      go_wp2
      go_end0
      exact ⟨rfl, (p + 1), false, (n + 1), by omega, by omega, by omega, HA5.out⟩
     ·have HA4 := hid a4
      clear a4 HAO
      go_wp2_with fail
      refine (take_at HA4.out _).mono ?_
      rintro e w6 (⟨rfl, l6, a6⟩ | ⟨rfl, a6⟩)
      ·have HA6 := hid a6
       clear a6 HA4
       go_wp2_with fail
       refine (put_at9 HA6.out ⟨2, 0, 0, ⟨#[]⟩, 0⟩ (by show (⟨#[]⟩ : ByteArray).size ≤ 1000; decide) (by have := HA6.out.pT; omega)).mono ?_
       rintro e w7 ⟨rfl, a7⟩
       have HA7 := hid a7
       clear a7 HA6
       go_wp2
       go_end0
       exact ⟨rfl, (p + 1), false, (n + 1), by omega, by omega, by omega, HA7.out⟩
      ·have HA6 := hid a6
       clear a6 HA4
       go_wp2_with fail
       refine (take_at HA6.out _).mono ?_
       rintro e w8 (⟨rfl, l8, a8⟩ | ⟨rfl, a8⟩)
       ·have HA8 := hid a8
        clear a8 HA6
        go_wp2_with fail
        refine (put_at9 HA8.out ⟨2, 0, 1, ⟨#[]⟩, 0⟩ (by show (⟨#[]⟩ : ByteArray).size ≤ 1000; decide) (by have := HA8.out.pT; omega)).mono ?_
        rintro e w9 ⟨rfl, a9⟩
        have HA9 := hid a9
        clear a9 HA8
        go_wp2
        go_end0
        exact ⟨rfl, (p + 1), false, (n + 1), by omega, by omega, by omega, HA9.out⟩
       ·have HA8 := hid a8
        clear a8 HA6
        go_wp2_with fail
        refine (take_at HA8.out _).mono ?_
        rintro e w10 (⟨rfl, l10, a10⟩ | ⟨rfl, a10⟩)
        ·have HA10 := hid a10
         clear a10 HA8
         go_wp2_with fail
         refine (list_at (p := (p + 1)) (fun q hq => hE q (by omega)) HA10.out (by have := HA10.out.pT; omega)).mono ?_
         rintro e w11 ⟨rfl, p11, b11, n11, l11a, l11b, l11c, a11⟩
         have HA11 := hid a11
         clear a11 HA10
         go_wp2
         go_end0
         exact ⟨rfl, p11, b11, n11, by omega, by omega, by omega, HA11.out⟩
        ·have HA10 := hid a10
         clear a10 HA8
         go_wp2_with fail
         refine (take_at HA10.out _).mono ?_
         rintro e w12 (⟨rfl, l12, a12⟩ | ⟨rfl, a12⟩)
         ·have HA12 := hid a12
          clear a12 HA10
          go_wp2_with fail
          refine (record_at9 (p := (p + 1)) (fun q hq => hE q (by omega)) HA12.out (by have := HA12.out.pT; omega)).mono ?_
          rintro e w13 ⟨rfl, p13, b13, n13, l13a, l13b, l13c, a13⟩
          have HA13 := hid a13
          clear a13 HA12
          go_wp2
          go_end0
          exact ⟨rfl, p13, b13, n13, by omega, by omega, by omega, HA13.out⟩
         ·have HA12 := hid a12
          clear a12 HA10
          go_wp2_with fail
          refine (take_at HA12.out _).mono ?_
          rintro e w14 (⟨rfl, l14, a14⟩ | ⟨rfl, a14⟩)
          ·have HA14 := hid a14
           clear a14 HA12
           go_wp2_with fail
           refine (hE (p + 1) (by omega) _ _ _ _ _ HA14.out (by have := HA14.out.pT; omega)).mono ?_
           rintro e w15 ⟨rfl, p15, b15, n15, l15a, l15b, l15c, a15⟩
           have HA15 := hid a15
           clear a15 HA14
           go_wp2_with fail
           refine (need_at HA15.out _).mono ?_
           rintro e w16 ⟨rfl, p16, b16, l16a, l16b, a16⟩
           have HA16 := hid a16
           clear a16 HA15
           go_wp2
           go_end0
           exact ⟨rfl, p16, b16, n15, by omega, by omega, by omega, HA16.out⟩
          ·have HA14 := hid a14
           clear a14 HA12
           go_wp2_with fail
           refine (stop_at HA14.out).mono ?_
           rintro e w17 ⟨rfl, a17⟩
           have HA17 := hid a17
           clear a17 HA14
           go_wp2
           go_end0
           exact ⟨rfl, p, true, n, by omega, by omega, by omega, HA17.out⟩
 ·skip
  go_wp2
  exact bodyPost_ret (results_none rfl _ _ _) rfl ⟨rfl, p, true, n, by omega, by omega, by omega, HAO.out _⟩
end Go.Proofs.YtbakebdfmdepnaaGreatDoor
