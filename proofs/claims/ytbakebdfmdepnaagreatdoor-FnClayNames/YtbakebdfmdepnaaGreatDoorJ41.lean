import Derived.Deep.DeepCutAuto
import Derived.Test.YtbakebdfmdepnaaGreatDoorJ40
import Derived.Test.YtbakebdfmdepnaaGreatDoorJ28
import Derived.Test.YtbakebdfmdepnaaGreatDoorJ39
import Derived.Test.YtbakebdfmdepnaaGreatDoorJ09
import Derived.Test.YtbakebdfmdepnaaGreatDoorJ22
import Derived.Test.YtbakebdfmdepnaaGreatDoorJ29
namespace Go.Proofs.YtbakebdfmdepnaaGreatDoor
open Go.RowKit
set_option maxRecDepth 20000
set_option maxHeartbeats 1000000 in
theorem specValid_out (b N cap : Nat) (nd : Nat → Nd) (w : World) (hN : N ≤ 1048576) (ho : N = 0 ∨ 5000 < N) :
  Calls Tryz.prog 12 #[.agg #[.slice (some ⟨b, 0, none⟩) N cap]] w fun e w' => Says e (ValidT nd N) ∧ Below w.heap.size w w' := by
 have HF : Hid (¬ ValidT nd N) := fun ⟨h1, h2, _⟩ => by omega
 have HIN : Hid ((decide ((1 : Int) ≤ (N : Int)) && decide ((N : Int) ≤ 5000)) = false) := by show _ = _; simp; omega
 go_enter Tryz.func12, Tryz.ntmps12
 go_wp2_with (first
  | (go_at_call 23; refine (l1In_dec _ _ _ _).mono ?_; rintro e w' ⟨rfl, hw⟩; have hw2 := hw.symm; clear hw; subst hw2; rw [HIN.out]))
 go_ret
 exact ⟨says_f HF.out, (Below.refl _ _).alloc (Nat.le_refl _) _⟩
set_option maxHeartbeats 1000000 in
theorem specValid_kind (b N cap : Nat) (nd : Nat → Nd) (w : World) (hN1 : 1 ≤ N) (hN : N ≤ 5000) (h24 : ¬ (nd (N - 1)).kind = 24) (hb : b < w.heap.size) (hn : NodesAt w b N nd) :
  Calls Tryz.prog 12 #[.agg #[.slice (some ⟨b, 0, none⟩) N cap]] w fun e w' => Says e (ValidT nd N) ∧ Below w.heap.size w w' := by
 have HF : Hid (¬ ValidT nd N) := fun ⟨_, _, h, _⟩ => h24 h
 have HBT := hid ((Below.refl w.heap.size w).alloc (Nat.le_refl _) (.cells #[.slice (some ⟨b, 0, none⟩) N cap] 25))
 have HIN : Hid ((decide ((1 : Int) ≤ (N : Int)) && decide ((N : Int) ≤ 5000)) = true) := by show _ = _; simp; omega
 have a0 := ((hn.below HBT.out hb) (N - 1) (by omega)).1
 have hne : ((nd (N - 1)).kind != 24) = true := by rw [bne_iff_ne]; exact h24
 clear hn h24
 go_enter Tryz.func12, Tryz.ntmps12
 go_wp2_with (first
  | (go_at_call 23; refine (l1In_dec _ _ _ _).mono ?_; rintro e w' ⟨rfl, hw⟩; have hw2 := hw.symm; clear hw; subst hw2; rw [HIN.out]))
 go_ret
 exact ⟨says_f HF.out, HBT.out⟩
theorem specValid_all (b N cap : Nat) (nd : Nat → Nd) (w : World) (hN : N ≤ 1048576) (hb : b < w.heap.size) (hn : NodesAt w b N nd) (hx : ∀ i, i < N → (nd i).text.size ≤ maxLen) :
  Calls Tryz.prog 12 #[.agg #[.slice (some ⟨b, 0, none⟩) N cap]] w fun e w' => Says e (ValidT nd N) ∧ Below w.heap.size w w' := by
 by_cases ho : N = 0 ∨ 5000 < N
 ·exact specValid_out b N cap nd w hN ho
 ·by_cases h24 : (nd (N - 1)).kind = 24
  ·exact specValid_any b N cap nd w (by omega) (by omega) h24 hb hn hx
  ·exact specValid_kind b N cap nd w (by omega) (by omega) h24 hb hn
set_option maxHeartbeats 1000000 in
theorem implValid_out (b N cap : Nat) (nd : Nat → Nd) (w : World) (hN : N ≤ 1048576) (ho : 5000 < N) :
  Calls Tryz.prog 19 #[.agg #[.slice (some ⟨b, 0, none⟩) N cap]] w fun e w' => Says e (ValidT nd N) ∧ Below w.heap.size w w' := by
 have HF : Hid (¬ ValidT nd N) := fun ⟨h1, h2, _⟩ => by omega
 go_enter Tryz.func19, Tryz.ntmps19
 go_wp2
 go_ret
 exact ⟨says_f HF.out, (Below.refl _ _).alloc (Nat.le_refl _) _⟩
theorem implValid_all (b N cap : Nat) (nd : Nat → Nd) (w : World) (hN : N ≤ 1048576) (hb : b < w.heap.size) (hn : NodesAt w b N nd) (hx : ∀ i, i < N → (nd i).text.size ≤ maxLen) :
  Calls Tryz.prog 19 #[.agg #[.slice (some ⟨b, 0, none⟩) N cap]] w fun e w' => Says e (ValidT nd N) ∧ Below w.heap.size w w' := by
 by_cases ho : 5000 < N
 ·exact implValid_out b N cap nd w hN ho
 ·exact implValid_any b N cap nd w (by omega) hb hn hx
set_option maxHeartbeats 8000000 in
theorem params_at {s : Ds} {ov0 : Value} {w0 : World} {p n : Nat} {bad : Bool} {w : World} (hE : ∀ q, p ≤ q → EOk9 s q) (h : Ad s ov0 w0 p bad n w) (hl : n + 2 * s.T ≤ 400000 + 2 * p) :
  Calls Tryz.prog 80 #[.pointer (some ⟨s.D, 0, none⟩)] w (DI9 s ov0 w0 p n) := by
 have HA0 := hid h
 have hT := h.pT.2
 clear h
 go_enter Tryz.func80, Tryz.ntmps80
 go_wp2_with fail
 refine (need_at HA0.out _).mono ?_
 rintro e w1 ⟨rfl, p1, b1, l1a, l1b, a1⟩
 have HA1 := hid a1
 clear a1 HA0
 go_wp2
 go_loopw [3] (fun c3 wr => ∃ m q k : Nat, ∃ bb : Bool, c3 = .int .i64 m ∧ p1 ≤ q ∧ n ≤ k ∧ k + 2 * p1 ≤ n + 2 * q ∧ m ≤ q - p1 ∧ Ad s ov0 w0 q bb k wr) (fun _ wr => s.T - deskP s wr)
 case atStart => exact ⟨0, p1, n, _, rfl, by omega, by omega, by omega, by omega, HA1.out⟩
 case round =>
  obtain ⟨m, q, k, bb, rfl, lq, lk, lkq, lm, ad⟩ := hrel
  have HAr := hid ad
  have HDP := hid ad.deskP
  have hqT := ad.pT.1
  clear ad HA1
  obtain ⟨_, _, c3, _⟩ := HAr.out.cells
  cases bb
  ·rcases Nat.eq_zero_or_pos m with rfl | hm1
   ·go_wp2_with fail
    refine (is_at HAr.out _).mono ?_
    rintro e w2 (⟨rfl, l2, a2⟩ | ⟨rfl, a2⟩)
    ·have HA2 := hid a2
     clear a2 HAr
     go_wp2_with fail
     refine (need_at HA2.out _).mono ?_
     rintro e w3 ⟨rfl, p3, b3, l3a, l3b, a3⟩
     have HA3 := hid a3
     clear a3 HA2
     go_wp2
     go_ret
     exact ⟨0, p3, b3, k, rfl, by omega, by omega, by omega, by omega, HA3.out⟩
    ·have HA2 := hid a2
     clear a2 HAr
     go_wp2_with fail
     refine (name_at9 HA2.out).mono ?_
     rintro e w4 ⟨t4, p4, b4, rfl, x4, l4a, l4b, l4c, a4⟩
     have HA4 := hid a4
     have HX4 := hid x4
     have HC4 := hid l4c
     clear a4 HA2 l4c x4
     go_wp2_with fail
     refine (take_at HA4.out _).mono ?_
     rintro e w5 (⟨rfl, l5, a5⟩ | ⟨rfl, a5⟩)
     ·have HA5 := hid a5
      clear a5 HA4
      go_wp2_with fail
      refine (hE (p4 + 1) (by omega) _ _ _ _ _ HA5.out (by have := HA5.out.pT; omega)).mono ?_
      rintro e w6 ⟨rfl, p6, b6, n6, l6a, l6b, l6c, a6⟩
      have HA6 := hid a6
      clear a6 HA5
      go_wp2_with fail
      refine (put_at9 HA6.out ⟨19, 0, 0, t4, 1⟩ (HX4.out) (by have := HA6.out.pT; omega)).mono ?_
      rintro e w7 ⟨rfl, a7⟩
      have HA7 := hid a7
      clear a7 HA6
      go_wp2_with fail
      refine (take_at HA7.out _).mono ?_
      rintro e w8 (⟨rfl, l8, a8⟩ | ⟨rfl, a8⟩)
      ·have HA8 := hid a8
       clear a8 HA7
       go_wp2
       go_roundw
       case rel => exact ⟨0 + 1, (p6 + 1), (n6 + 1), false, by go_num, by omega, by omega, by omega, by omega, HA8.out⟩
       case measure => rw [HA8.out.deskP, HDP.out]; have := HA8.out.pT; omega
      ·have HA8 := hid a8
       clear a8 HA7
       go_wp2_with fail
       refine (need_at HA8.out _).mono ?_
       rintro e w9 ⟨rfl, p9, b9, l9a, l9b, a9⟩
       have HA9 := hid a9
       clear a9 HA8
       go_wp2
       go_ret
       exact ⟨(0 + 1), p9, b9, (n6 + 1), rfl, by omega, by omega, by omega, by omega, HA9.out⟩
     ·have HA5 := hid a5
      clear a5 HA4
      go_wp2_with fail
      refine (put_at9 HA5.out ⟨19, 0, 0, t4, 0⟩ (HX4.out) (by have := HA5.out.pT; omega)).mono ?_
      rintro e w10 ⟨rfl, a10⟩
      have HA10 := hid a10
      clear a10 HA5
      go_wp2_with fail
      refine (take_at HA10.out _).mono ?_
      rintro e w11 (⟨rfl, l11, a11⟩ | ⟨rfl, a11⟩)
      ·have HA11 := hid a11
       clear a11 HA10
       go_wp2
       go_roundw
       case rel => exact ⟨0 + 1, (p4 + 1), (k + 1), false, by go_num, by omega, by omega, by omega, by omega, HA11.out⟩
       case measure => rw [HA11.out.deskP, HDP.out]; have := HA11.out.pT; omega
      ·have HA11 := hid a11
       clear a11 HA10
       go_wp2_with fail
       refine (need_at HA11.out _).mono ?_
       rintro e w12 ⟨rfl, p12, b12, l12a, l12b, a12⟩
       have HA12 := hid a12
       clear a12 HA11
       go_wp2
       go_ret
       exact ⟨(0 + 1), p12, b12, (k + 1), rfl, by omega, by omega, by omega, by omega, HA12.out⟩
   ·have hm2 : (0 : Int) < (m : Int) := by omega
    go_wp2_with fail
    refine (name_at9 HAr.out).mono ?_
    rintro e w13 ⟨t13, p13, b13, rfl, x13, l13a, l13b, l13c, a13⟩
    have HA13 := hid a13
    have HX13 := hid x13
    have HC13 := hid l13c
    clear a13 HAr l13c x13
    go_wp2_with fail
    refine (take_at HA13.out _).mono ?_
    rintro e w14 (⟨rfl, l14, a14⟩ | ⟨rfl, a14⟩)
    ·have HA14 := hid a14
     clear a14 HA13
     go_wp2_with fail
     refine (hE (p13 + 1) (by omega) _ _ _ _ _ HA14.out (by have := HA14.out.pT; omega)).mono ?_
     rintro e w15 ⟨rfl, p15, b15, n15, l15a, l15b, l15c, a15⟩
     have HA15 := hid a15
     clear a15 HA14
     go_wp2_with fail
     refine (put_at9 HA15.out ⟨19, 0, 0, t13, 1⟩ (HX13.out) (by have := HA15.out.pT; omega)).mono ?_
     rintro e w16 ⟨rfl, a16⟩
     have HA16 := hid a16
     clear a16 HA15
     go_wp2_with fail
     refine (take_at HA16.out _).mono ?_
     rintro e w17 (⟨rfl, l17, a17⟩ | ⟨rfl, a17⟩)
     ·have HA17 := hid a17
      clear a17 HA16
      go_wp2
      go_roundw
      case rel => exact ⟨m + 1, (p15 + 1), (n15 + 1), false, by go_num, by omega, by omega, by omega, by omega, HA17.out⟩
      case measure => rw [HA17.out.deskP, HDP.out]; have := HA17.out.pT; omega
     ·have HA17 := hid a17
      clear a17 HA16
      go_wp2_with fail
      refine (need_at HA17.out _).mono ?_
      rintro e w18 ⟨rfl, p18, b18, l18a, l18b, a18⟩
      have HA18 := hid a18
      clear a18 HA17
      go_wp2
      go_ret
      exact ⟨(m + 1), p18, b18, (n15 + 1), rfl, by omega, by omega, by omega, by omega, HA18.out⟩
    ·have HA14 := hid a14
     clear a14 HA13
     go_wp2_with fail
     refine (put_at9 HA14.out ⟨19, 0, 0, t13, 0⟩ (HX13.out) (by have := HA14.out.pT; omega)).mono ?_
     rintro e w19 ⟨rfl, a19⟩
     have HA19 := hid a19
     clear a19 HA14
     go_wp2_with fail
     refine (take_at HA19.out _).mono ?_
     rintro e w20 (⟨rfl, l20, a20⟩ | ⟨rfl, a20⟩)
     ·have HA20 := hid a20
      clear a20 HA19
      go_wp2
      go_roundw
      case rel => exact ⟨m + 1, (p13 + 1), (k + 1), false, by go_num, by omega, by omega, by omega, by omega, HA20.out⟩
      case measure => rw [HA20.out.deskP, HDP.out]; have := HA20.out.pT; omega
     ·have HA20 := hid a20
      clear a20 HA19
      go_wp2_with fail
      refine (need_at HA20.out _).mono ?_
      rintro e w21 ⟨rfl, p21, b21, l21a, l21b, a21⟩
      have HA21 := hid a21
      clear a21 HA20
      go_wp2
      go_ret
      exact ⟨(m + 1), p21, b21, (k + 1), rfl, by omega, by omega, by omega, by omega, HA21.out⟩
  ·skip
   go_wp2_with fail
   refine (need_at HAr.out _).mono ?_
   rintro e w22 ⟨rfl, p22, b22, l22a, l22b, a22⟩
   have HA22 := hid a22
   clear a22 HAr
   go_wp2
   go_ret
   exact ⟨m, p22, b22, k, rfl, by omega, by omega, by omega, by omega, HA22.out⟩
theorem Ad.gr {s : Ds} {ov0 : Value} {w0 : World} {p n : Nat} {bad : Bool} {w : World} (h : Ad s ov0 w0 p bad n w) (G : Gr w) : ∃ ov, Dk s p bad n ov G.W ∧ Ad s ov0 w0 p bad n G.W := by
 obtain ⟨ov, h1, h2⟩ := h
 exact ⟨ov, h1.next G.h, ov, h1.next G.h, h2.next G.h⟩
set_option maxHeartbeats 4000000 in
theorem named_at {s : Ds} {ov0 : Value} {w0 : World} {p n : Nat} {bad : Bool} {w : World} (h : Ad s ov0 w0 p bad n w) :
  Calls Tryz.prog 121 #[.pointer (some ⟨s.D, 0, none⟩)] w fun e w' => ∃ v : Bool, e = .returned (.bool v) ∧ Ad s ov0 w0 p bad n w' := by
 have HG := hid h.gr
 have hT := h.pT.2
 have hpT := h.pT.1
 have hd := h.cells.1
 clear h
 have c2 : ∀ G : Gr w, G.W.cell? ⟨s.D, 2, none⟩ = some (.int .i64 p) := fun G => by obtain ⟨ov, h1, _⟩ := HG.out G; exact h1.cells.2.2.1
 have hne : Nonempty (Gr w) := ⟨⟨w, Below.refl _ _⟩⟩
 by_cases hp : p < s.T
 ·have hta : s.ta = some ⟨s.b, 0, none⟩ := by obtain ⟨ov, h1, _⟩ := HG.out ⟨w, Below.refl _ _⟩; exact h1.tad.resolve_left (by omega)
  have c0 : ∀ G : Gr w, G.W.cell? ⟨s.D, 0, none⟩ = some (.slice (some ⟨s.b, 0, none⟩) s.T s.tc) := fun G => by obtain ⟨ov, h1, _⟩ := HG.out G; rw [← hta]; exact h1.cells.1
  have HTK : Hid (∀ G : Gr w, Calls Tryz.prog 83 #[.pointer (some ⟨s.D, 0, none⟩)] G.W fun e w' => e = .returned (.agg #[.int .i64 (s.tk p).kind, .string (s.tk p).text, .int .i64 (s.tk p).n, .int .i64 (s.tk p).place]) ∧ Below G.W.heap.size G.W w') := fun G => by obtain ⟨ov, h1, _⟩ := HG.out G; exact tok_in h1 hp
  obtain ⟨k, hk⟩ : ∃ k, (s.tk p).kind = k := ⟨_, rfl⟩
  rw [hk] at HTK
  clear hta hk hd
  have F0 := fun W => tkKind k (s.tk p).n (s.tk p).place (s.tk p).text W
  by_cases h1 : k = 1
  ·subst h1
   by_cases h2 : p + 1 < s.T
   ·have h2i : (p : Int) + 1 < (s.T : Int) := by omega
    have HTT : Hid (∀ G : Gr w, G.W.cell? ⟨s.b, (p + 1) * 4, none⟩ = some (.int .i64 (s.tk (p + 1)).kind) ∧ G.W.cell? ⟨s.b, (p + 1) * 4 + 1, none⟩ = some (.string (s.tk (p + 1)).text)) := fun G => by obtain ⟨ov, h1, _⟩ := HG.out G; have := h1.tks (p + 1) h2; exact ⟨this.1, this.2.1⟩
    obtain ⟨k2, hk2⟩ : ∃ k, (s.tk (p + 1)).kind = k := ⟨_, rfl⟩
    rw [hk2] at HTT
    clear hk2
    have t0 := fun G : Gr w => (HTT.out G).1
    have t1 := fun G : Gr w => (HTT.out G).2
    by_cases h5 : k2 = 5
    ·subst h5
     go_enter Tryz.func121, Tryz.ntmps121
     go_wp2_with fail
     refine wp_region_gr (by kernel_rfl) (by kernel_rfl) ?_
     repeat (go_big_quiet_step (first | (go_at_call 83; refine Calls.gr_of (v := .agg #[.int .i64 1, .string (s.tk p).text, .int .i64 (s.tk p).n, .int .i64 (s.tk p).place]) fun _ => ?_; exact HTK.out _)))
     refine wpQuiet_nil ?_
     intro _ hw'
     obtain ⟨pw, rfl⟩ := hw'
     obtain ⟨ov9, _, ha⟩ := HG.out pw
     have HA9 := hid ha
     clear ha c2
     go_wp2
     go_ret
     exact ⟨_, rfl, HA9.out⟩
    ·have e5 : (k2 == 5) = false := by simpa using h5
     go_enter Tryz.func121, Tryz.ntmps121
     go_wp2_with fail
     refine wp_region_gr (by kernel_rfl) (by kernel_rfl) ?_
     repeat (go_big_quiet_step (first | (go_at_call 83; refine Calls.gr_of (v := .agg #[.int .i64 1, .string (s.tk p).text, .int .i64 (s.tk p).n, .int .i64 (s.tk p).place]) fun _ => ?_; exact HTK.out _)))
     refine wpQuiet_nil ?_
     intro _ hw'
     obtain ⟨pw, rfl⟩ := hw'
     obtain ⟨ov9, _, ha⟩ := HG.out pw
     have HA9 := hid ha
     clear ha c2
     go_wp2
     go_ret
     exact ⟨_, rfl, HA9.out⟩
   ·have e2 : decide ((p : Int) + 1 < (s.T : Int)) = false := by simp; omega
    go_enter Tryz.func121, Tryz.ntmps121
    go_wp2_with fail
    refine wp_region_gr (by kernel_rfl) (by kernel_rfl) ?_
    repeat (go_big_quiet_step (first | (go_at_call 83; refine Calls.gr_of (v := .agg #[.int .i64 1, .string (s.tk p).text, .int .i64 (s.tk p).n, .int .i64 (s.tk p).place]) fun _ => ?_; exact HTK.out _)))
    refine wpQuiet_nil ?_
    intro _ hw'
    obtain ⟨pw, rfl⟩ := hw'
    obtain ⟨ov9, _, ha⟩ := HG.out pw
    have HA9 := hid ha
    clear ha c2
    go_wp2
    go_ret
    exact ⟨_, rfl, HA9.out⟩
  ·have e1 : (k == 1) = false := by simpa using h1
   go_enter Tryz.func121, Tryz.ntmps121
   go_wp2_with fail
   refine wp_region_gr (by kernel_rfl) (by kernel_rfl) ?_
   repeat (go_big_quiet_step (first | (go_at_call 83; refine Calls.gr_of (v := .agg #[.int .i64 k, .string (s.tk p).text, .int .i64 (s.tk p).n, .int .i64 (s.tk p).place]) fun _ => ?_; exact HTK.out _)))
   refine wpQuiet_nil ?_
   intro _ hw'
   obtain ⟨pw, rfl⟩ := hw'
   obtain ⟨ov9, _, ha⟩ := HG.out pw
   have HA9 := hid ha
   clear ha c2
   go_wp2
   go_ret
   exact ⟨_, rfl, HA9.out⟩
 ·have HTK : Hid (∀ G : Gr w, Calls Tryz.prog 83 #[.pointer (some ⟨s.D, 0, none⟩)] G.W fun e w' => e = .returned (.agg #[.int .i64 0, .string ⟨#[]⟩, .int .i64 0, .int .i64 s.sz]) ∧ Below G.W.heap.size G.W w') := fun G => by obtain ⟨ov, h1, _⟩ := HG.out G; exact tok_out h1 hp
  have F0 := fun W => tkKind 0 0 s.sz ⟨#[]⟩ W
  go_enter Tryz.func121, Tryz.ntmps121
  go_wp2_with fail
  refine wp_region_gr (by kernel_rfl) (by kernel_rfl) ?_
  repeat (go_big_quiet_step (first | (go_at_call 83; refine Calls.gr_of (v := .agg #[.int .i64 0, .string ⟨#[]⟩, .int .i64 0, .int .i64 s.sz]) fun _ => ?_; exact HTK.out _)))
  refine wpQuiet_nil ?_
  intro _ hw'
  obtain ⟨pw, rfl⟩ := hw'
  obtain ⟨ov9, _, ha⟩ := HG.out pw
  have HA9 := hid ha
  clear ha c2
  go_wp2
  go_ret
  exact ⟨_, rfl, HA9.out⟩
theorem KG.below {W W' : World} {gk N B : Nat} {o : List (List Nat)} (h : KG W gk N o) (hb : Below B W W') (hB : W.heap.size ≤ B) : KG W' gk N o := by
 intro i hi
 obtain ⟨ad, c, h1, h2, h3, h4⟩ := h i hi
 have l1 := World.block_lt_of_cell? W _ h1
 refine ⟨ad, c, (hb.cell (p := ⟨gk, i, none⟩) (Nat.lt_of_lt_of_le l1 hB)).trans h1, h2, h3, h4.imp_right ?_⟩
 rintro ⟨g, e, hc⟩
 refine ⟨g, e, fun j hj => ?_⟩
 have l2 := World.block_lt_of_cell? W _ (hc j hj)
 exact (hb.cell (p := ⟨g, j, none⟩) (Nat.lt_of_lt_of_le l2 hB)).trans (hc j hj)
theorem own_not_nil {W : World} {B n : Nat} {v : Value} {xs : List Value} (h : W.ownsRow B 3 1 v n xs) (hv : ¬ v = .slice none 0 0) : ∃ g c, v = .slice (some ⟨g, 0, none⟩) n c ∧ B ≤ g := by
 obtain ⟨g, c, e, hb, _⟩ := RowAt.of_own h hv
 exact ⟨g, c, e, hb⟩
set_option maxHeartbeats 2000000 in
theorem l3Makes_any (b N cap gk ck : Nat) (nd : Nat → Nd) (o : List (List Nat)) (w : World) (hN1 : 1 ≤ N) (hN : N ≤ 5000) (hb : b < w.heap.size) (hn : NodesAt w b N nd) (hg : KG w gk N o) (hck : N ≤ ck) (h24 : (nd (N - 1)).kind = 24) (hfit : ∀ i, i < N → FitAt nd o i) (hkl : ∀ k, (o.getD k []).length ≤ 5000) (hpl : ∀ k, ∀ j ∈ o.getD k [], j < N) :
  Calls Tryz.prog 27 #[.agg #[.slice (some ⟨b, 0, none⟩) N cap], .slice (some ⟨gk, 0, none⟩) N ck] w fun e w' => ∃ g c, e = .returned (.slice (some ⟨g, 0, none⟩) ((o.getD (N - 1) []).flatMap (makersOf nd o)).length c) ∧ w.heap.size ≤ g ∧ RowAt w' 3 g c ((o.getD (N - 1) []).flatMap (makersOf nd o)).length (intRow ((o.getD (N - 1) []).flatMap (makersOf nd o))) ∧ Below w.heap.size w w' := by
 have HN := hid hn
 have HG := hid hg
 have HFT := hid hfit
 have HKL := hid hkl
 have HPL := hid hpl
 have H24 := hid h24
 obtain ⟨i0, hi, hz0, hz1, hz2⟩ := info_parts info_int
 have HHI := hid (And.intro hi (And.intro hz0 (And.intro hz1 hz2)))
 clear hi hz0 hz1 hz2 hn hg hfit hkl hpl h24
 obtain ⟨fl, hfl⟩ : ∃ fl, o.getD (N - 1) [] = fl := ⟨_, rfl⟩
 obtain ⟨n1, rfl⟩ : ∃ n1, N = n1 + 1 := ⟨N - 1, by omega⟩
 rw [Nat.add_sub_cancel] at hfl H24 ⊢
 obtain ⟨ad, cf, q1, q2, q3, q4⟩ := HG.out n1 (by omega)
 rw [hfl] at q1 q2 q4 ⊢
 obtain ⟨m, hm⟩ : ∃ m, fl.length = m := ⟨_, rfl⟩
 have hm2 : m ≤ 200 := by have := (kids_file (HFT.out n1 (by omega)) H24.out).1; rw [hfl, hm] at this; exact this
 have HFP : Hid (∀ j ∈ fl, j < n1 + 1) := fun j hj => HPL.out n1 j (by rw [hfl]; exact hj)
 have HM := hid hm
 rw [hm] at q1 q2
 have HQ4 := hid q4
 have HFL := hid hfl
 clear hm q4 hfl
 have e1 : ∀ O, (w.alloc O).cell? ⟨gk, n1, none⟩ = some (.slice ad m cf) := fun O => (cell_alloc_lt w O _ _ (World.block_lt_of_cell? w _ q1)).trans q1
 have e2 : ∀ O O', ((w.alloc O).alloc O').cell? ⟨gk, n1, none⟩ = some (.slice ad m cf) := fun O O' => (cell_alloc_lt _ O' _ _ (by have := World.block_lt_of_cell? w _ q1; simp at this ⊢; omega)).trans (e1 O)
 go_enter Tryz.func27, Tryz.ntmps27
 go_wp2
 have HB0 : Hid (Below (w.heap.size + 1) (w.alloc (.cells #[.slice (some ⟨b, 0, none⟩) (n1 + 1) cap] 25)) ((w.alloc (.cells #[.slice (some ⟨b, 0, none⟩) (n1 + 1) cap] 25)).alloc (.cells #[] 3))) := (Below.refl _ _).alloc (by simp) _
 have O0 : Hid (World.ownsRow ((w.alloc (.cells #[.slice (some ⟨b, 0, none⟩) (n1 + 1) cap] 25)).alloc (.cells #[] 3)) (w.heap.size + 1) 3 1 (.slice (some ⟨w.heap.size + 1, 0, none⟩) 0 0) 0 []) := by
  have := World.ownsRow_made (base := w.heap.size + 1) (e := 3) (size := 1) (w.alloc (.cells #[.slice (some ⟨b, 0, none⟩) (n1 + 1) cap] 25)) #[] 0 (by simp) (by unfold maxLen; omega) rfl
  rw [World.size_alloc] at this
  exact this
 clear e1 e2
 go_loopw [5, 7] (fun vo i wr => ∃ (j : Nat) (g c : Nat), j ≤ m ∧ i = .int .i64 j ∧ vo = .slice (some ⟨g, 0, none⟩) ((fl.take j).flatMap (makersOf nd o)).length c ∧ World.ownsRow wr (w.heap.size + 1) 3 1 vo ((fl.take j).flatMap (makersOf nd o)).length (intRow ((fl.take j).flatMap (makersOf nd o))) ∧ Below (w.heap.size + 1) (w.alloc (.cells #[.slice (some ⟨b, 0, none⟩) (n1 + 1) cap] 25)) wr) (fun _ i _ => m - (intOf i).toNat)
 case atStart => exact ⟨0, w.heap.size + 1, 0, Nat.zero_le _, rfl, rfl, O0.out, HB0.out⟩
 case round =>
  obtain ⟨j, g, c, hj, rfl, rfl, hown, hbw⟩ := hrel
  have HO := hid hown
  have HBW := hid hbw
  have t0 := tree_cell hbw
  have HB := hid (btree hbw)
  clear hown hbw HB0 O0
  by_cases hlt : j < m
  ·have hpl := HQ4.out
   rcases hpl with e | ⟨gf, rfl, hc⟩
   ·have := HM.out; rw [e] at this; simp at this; omega
   obtain ⟨y, hy⟩ : ∃ y, fl[j]? = some y := ⟨_, List.getElem?_eq_getElem (by have := HM.out; omega)⟩
   have c0 := hc j (by have := HM.out; omega)
   have lgf := World.block_lt_of_cell? w _ c0
   rw [List.getD_eq_getElem?_getD, hy] at c0
   simp only [Option.getD_some] at c0
   have c0 := (HB.out.cell (p := ⟨gf, j, none⟩) lgf).trans c0
   have hyN := HFP.out y (List.mem_of_getElem? hy)
   have HTK : Hid ((fl.take (j + 1)).flatMap (makersOf nd o) = (fl.take j).flatMap (makersOf nd o) ++ makersOf nd o y) := by
    show _ = _
    rw [List.take_succ_eq_append_getElem (by have := HM.out; omega), (List.getElem?_eq_some_iff.1 hy).2, List.flatMap_append]
    simp
   have hml : ((fl.take j).flatMap (makersOf nd o)).length ≤ 1000000 := by
    have e : ∀ l : List Nat, (l.flatMap (makersOf nd o)).length ≤ l.length * 5000 := fun l => by
     induction l with
     | nil => simp
     | cons a l ih =>
      rw [List.flatMap_cons, List.length_append, List.length_cons]
      have : (makersOf nd o a).length ≤ 5000 := by
       unfold makersOf
       split
       ·simp
       ·split
        ·exact HKL.out a
        ·simp
      omega
    have := e (fl.take j)
    rw [List.length_take] at this
    omega
   generalize (fl.take j).flatMap (makersOf nd o) = ms at *
   obtain ⟨nm, hnm⟩ : ∃ nm, ms.length = nm := ⟨_, rfl⟩
   have HNM := hid hnm
   rw [hnm] at hml HO ⊢
   obtain ⟨a0, a1, a2, a3, a4⟩ := (HN.out.below HB.out hb) y hyN
   clear hc hy hnm
   by_cases h20 : (nd y).kind = 20 ∨ (nd y).kind = 21
   ·have HM2 : Hid (makersOf nd o y = [y]) := by show _ = _; unfold makersOf; rw [if_pos h20]
    rcases h20 with h20 | h20
    all_goals
     rw [h20] at a0
     clear h20
     go_wp2
     go_region
     have HBD := hid HBW.out.drew
     have HOD : Hid (World.ownsRow wr.drew (w.heap.size + 1) 3 1 (.slice (some ⟨g, 0, none⟩) nm c) nm (intRow ms)) := HO.out
     have c0 : wr.drew.cell? ⟨gf, j, none⟩ = some (.int .i64 (y : Nat)) := c0
     clear HBW HO HB a0 a1 a2 a3 a4 t0
     generalize wr.drew = w2 at *
     have hsz2 := HBD.out.size
     have t0 := tree_cell HBD.out
     have HB := hid (btree HBD.out)
     go_wp2_with (at_builtin; refine wpList_append_own_at _ rfl (.tmp 33) (.tmp 38) 30 rfl (w.heap.size + 1) 3 i0 (.int .i64 0) 1 8 Tryz.underlying30 HHI.out.1 HHI.out.2.1 HHI.out.2.2.1 HHI.out.2.2.2 rfl (by decide) (.slice (some ⟨g, 0, none⟩) nm c) _ _ rfl (own_two HOD.out _) ⟨w2.heap.size, 0, none⟩ 1 1 [.int .i64 y] rfl rfl (cell_one_new w2 _ _) (by simp [Value.oneCell']) (by unfold maxLen; omega) (by omega) (by simp at hsz2 ⊢; omega) ?_; intro v5 w5 o5 g5 nn5 b5; have O5 := hid o5; have G5 := hid g5; have NN5 := hid (some_not_nil nn5); clear o5 g5 nn5 b5)
     obtain ⟨g6, c6, rfl, hb6⟩ := own_not_nil O5.out NN5.out
     have HB5 : Hid (Below (w.heap.size + 1) (w.alloc (.cells #[.slice (some ⟨b, 0, none⟩) (n1 + 1) cap] 25)) w5) := (HBD.out.alloc (by simp at hsz2 ⊢; omega) _).grown G5.out (by simp at hsz2 ⊢; omega) (fun q e => by simp [Value.ownBlock] at e; have := own_lt HOD.out (r := g) rfl; omega)
     clear G5 NN5
     go_wp2
     go_roundw
     case rel =>
      refine ⟨j + 1, g6, c6, by omega, by go_num, ?_, ?_, HB5.out⟩
      ·rw [HTK.out, HM2.out, List.length_append, HNM.out]; rfl
      ·rw [HTK.out, HM2.out, List.length_append, HNM.out, intRow_append]
       exact O5.out
     case measure => simp [intOf]; omega
   by_cases h23 : (nd y).kind = 23
   ·obtain ⟨kl, hkl'⟩ : ∃ kl, o.getD y [] = kl := ⟨_, rfl⟩
    have HM2 : Hid (makersOf nd o y = kl) := by show _ = _; unfold makersOf; rw [if_neg h20, if_pos h23, hkl']
    obtain ⟨ay, cy, s1, s2, s3, s4⟩ := HG.out y hyN
    have hly5 := HKL.out y
    have hne : kl ≠ [] := by
     intro e
     have h1 := (HFT.out y hyN).2
     rw [hkl', e] at h1
     rcases h1 with h | h | h | h | h | h | h | h | h | h | h | h
     all_goals simp at h
     all_goals omega
    rw [hkl'] at s1 s2 s4 hly5
    obtain ⟨gy, rfl, s5⟩ := s4.resolve_left hne
    have lgy := World.block_lt_of_cell? w _ (s5 0 (List.length_pos_iff.2 hne))
    have s1 := (HB.out.cell (p := ⟨gk, y, none⟩) (World.block_lt_of_cell? w _ s1)).trans s1
    obtain ⟨ly, hly⟩ : ∃ ly, kl.length = ly := ⟨_, rfl⟩
    have HLY := hid hly
    have HS5 := hid s5
    rw [hly] at s1 s2 hly5
    rw [h23] at a0
    clear h20 h23 hkl' s4 s5 hne hly
    ·go_wp2
     go_region
     have s1 : wr.drew.cell? ⟨gk, y, none⟩ = some (.slice (some ⟨gy, 0, none⟩) ly cy) := s1
     have HBD := hid HBW.out.drew
     have HOD : Hid (World.ownsRow wr.drew (w.heap.size + 1) 3 1 (.slice (some ⟨g, 0, none⟩) nm c) nm (intRow ms)) := HO.out
     have c0 : wr.drew.cell? ⟨gf, j, none⟩ = some (.int .i64 (y : Nat)) := c0
     clear HBW HO HB a0 a1 a2 a3 a4 t0
     generalize wr.drew = w2 at *
     have hsz2 := HBD.out.size
     have t0 := tree_cell HBD.out
     have HB := hid (btree HBD.out)
     have HKC : Hid (∀ q u, (intRow kl)[q]? = some u → w2.cell? ((⟨gy, 0, none⟩ : Addr).add q) = some u) := fun q u hq => by
      have hl := (List.getElem?_eq_some_iff.1 hq).1
      rw [intRow_length] at hl
      have e1 : ((⟨gy, 0, none⟩ : Addr).add q) = ⟨gy, q, none⟩ := by unfold Addr.add; simp; intro h; exact h.symm
      rw [e1, HB.out.cell (p := ⟨gy, q, none⟩) lgy, HS5.out q hl, ← hq]
      unfold intRow
      rw [List.getElem?_map, List.getElem?_eq_getElem hl, show kl.getD q 0 = kl[q] by rw [List.getD_eq_getElem?_getD, List.getElem?_eq_getElem hl]; rfl]
      rfl
     go_wp2_with (at_builtin; refine wpList_append_own_at _ rfl (.tmp 42) (.tmp 49) 30 rfl (w.heap.size + 1) 3 i0 (.int .i64 0) 1 8 Tryz.underlying30 HHI.out.1 HHI.out.2.1 HHI.out.2.2.1 HHI.out.2.2.2 rfl (by decide) (.slice (some ⟨g, 0, none⟩) nm c) _ _ rfl HOD.out ⟨gy, 0, none⟩ ly cy (intRow kl) rfl (by rw [intRow_length, HLY.out, Nat.mul_one]) HKC.out (intRow_one kl) (by unfold maxLen; omega) (by omega) (by simp at hsz2 ⊢; omega) ?_; intro v5 w5 o5 g5 nn5 b5; have O5 := hid o5; have G5 := hid g5; have NN5 := hid (some_not_nil nn5); clear o5 g5 nn5 b5)
     obtain ⟨g6, c6, rfl, hb6⟩ := own_not_nil O5.out NN5.out
     have HB5 : Hid (Below (w.heap.size + 1) (w.alloc (.cells #[.slice (some ⟨b, 0, none⟩) (n1 + 1) cap] 25)) w5) := HBD.out.grown G5.out (by simp at hsz2 ⊢; omega) (fun q e => by simp [Value.ownBlock] at e; have := own_lt HOD.out (r := g) rfl; omega)
     clear G5 NN5
     go_wp2
     go_roundw
     case rel =>
      refine ⟨j + 1, g6, c6, by omega, by go_num, ?_, ?_, HB5.out⟩
      ·rw [HTK.out, HM2.out, List.length_append, HNM.out, HLY.out]
      ·rw [HTK.out, HM2.out, List.length_append, HNM.out, HLY.out, intRow_append]
       exact O5.out
     case measure => simp [intOf]; omega
   ·have HM2 : Hid (makersOf nd o y = []) := by show _ = _; unfold makersOf; rw [if_neg h20, if_neg h23]
    have q5 : ((nd y).kind == 20) = false := by rw [beq_eq_false_iff_ne]; omega
    have q6 : ((nd y).kind == 21) = false := by rw [beq_eq_false_iff_ne]; omega
    have q7 : ((nd y).kind == 23) = false := by rw [beq_eq_false_iff_ne]; omega
    clear h20 h23
    have HBD := hid HBW.out.drew
    have HOD : Hid (World.ownsRow wr.drew (w.heap.size + 1) 3 1 (.slice (some ⟨g, 0, none⟩) nm c) nm (intRow ms)) := HO.out
    go_wp2
    go_region
    go_wp2
    go_roundw
    case rel =>
     refine ⟨j + 1, g, c, by omega, by go_num, ?_, ?_, HBD.out⟩
     ·rw [HTK.out, HM2.out, List.append_nil, HNM.out]
     ·rw [HTK.out, HM2.out, List.append_nil, HNM.out]
      exact HOD.out
    case measure => simp [intOf]; omega
  ·obtain rfl : j = m := by omega
   have e : fl.take j = fl := List.take_of_length_le (by have := HM.out; omega)
   rw [e] at HO ⊢
   obtain ⟨h1, ⟨h2, _⟩ | ⟨g', c', cur, h2, h3, h4, h5, h6, h7, h8⟩⟩ := HO.out
   ·cases h2
   cases h2
   have HROW : Hid (RowAt wr 3 g c (fl.flatMap (makersOf nd o)).length (intRow (fl.flatMap (makersOf nd o)))) := ⟨by simp [intRow], h5, h6, cur, h4, by omega, by rw [Nat.mul_one] at h8; exact h8⟩
   have HGE : Hid (w.heap.size ≤ g) := by show _ ≤ _; omega
   clear h1 h3 h4 h5 h6 h7 h8 e
   go_wp2
   go_ret
   exact ⟨g, c, rfl, HGE.out, HROW.out, HB.out⟩
end Go.Proofs.YtbakebdfmdepnaaGreatDoor
