import Derived.Deep.DeepCutAuto
import Derived.Laws.AppendOwnNone
import Derived.Test.YtbakebdfmdepnaaGreatDoorJ41
import Derived.Test.YtbakebdfmdepnaaGreatDoorJ39
import Derived.Test.YtbakebdfmdepnaaGreatDoorJ32
import Derived.Test.YtbakebdfmdepnaaGreatDoorJ46
import Derived.Test.YtbakebdfmdepnaaGreatDoorJ44
namespace Go.Proofs.YtbakebdfmdepnaaGreatDoor
open Go.RowKit
set_option maxRecDepth 20000
def ST9 (s : Ds) (ov0 : Value) (w0 : World) (p n : Nat) (e : Ending) (w' : World) : Prop := e = .returned (.tuple #[]) ∧ ∃ p' bad' n', p ≤ p' ∧ n ≤ n' ∧ n' + 2 * p ≤ n + 2 * p' ∧ (p < p' ∨ bad' = true) ∧ Ad s ov0 w0 p' bad' n' w'
set_option maxHeartbeats 16000000 in
theorem statement_at {s : Ds} {ov0 : Value} {w0 : World} {p n : Nat} {bad : Bool} {w : World} (hE : ∀ q, p ≤ q → EOk9 s q) (h : Ad s ov0 w0 p bad n w) (hl : n + 2 * s.T ≤ 400000 + 2 * p) :
  Calls Tryz.prog 52 #[.pointer (some ⟨s.D, 0, none⟩)] w (ST9 s ov0 w0 p n) := by
 have HA0 := hid h
 have hT := h.pT.2
 clear h
 go_enter Tryz.func52, Tryz.ntmps52
 go_wp2_with fail
 refine (take_at HA0.out _).mono ?_
 rintro e w1 (⟨rfl, l1, a1⟩ | ⟨rfl, a1⟩)
 ·have HA1 := hid a1
  clear a1 HA0
  go_wp2_with fail
  refine (name_at9 HA1.out).mono ?_
  rintro e w2 ⟨t2, p2, b2, rfl, x2, l2a, l2b, l2c, a2⟩
  have HA2 := hid a2
  have HX2 := hid x2
  have HC2 := hid l2c
  clear a2 HA1 l2c x2
  go_wp2_with fail
  refine (params_at (p := p2) (fun q hq => hE q (by omega)) HA2.out (by have := HA2.out.pT; omega)).mono ?_
  rintro e w3 ⟨m3, p3, b3, n3, rfl, l3m, l3a, l3b, l3c, a3⟩
  have HA3 := hid a3
  have z3 := a3.pT.1
  have hm3 : m3 ≤ 100001 := by omega
  clear a3 HA2
  go_wp2_with fail
  refine (need_at HA3.out _).mono ?_
  rintro e w4 ⟨rfl, p4, b4, l4a, l4b, a4⟩
  have HA4 := hid a4
  clear a4 HA3
  go_wp2_with fail
  refine (hE p4 (by omega) _ _ _ _ _ HA4.out (by have := HA4.out.pT; omega)).mono ?_
  rintro e w5 ⟨rfl, p5, b5, n5, l5a, l5b, l5c, a5⟩
  have HA5 := hid a5
  clear a5 HA4
  go_wp2_with fail
  refine (put_at9 HA5.out ⟨20, 0, 0, t2, (m3 : Int) + 1⟩ (HX2.out) (by have := HA5.out.pT; omega)).mono ?_
  rintro e w6 ⟨rfl, a6⟩
  have HA6 := hid a6
  clear a6 HA5
  go_wp2_with fail
  refine (need_to HA6.out _).mono ?_
  rintro e w7 ⟨rfl, p7, b7, l7a, l7b, hb7, _, a7⟩
  have HA7 := hid a7
  have HB7 := hid hb7
  clear a7 HA6 hb7
  go_wp2
  go_end0
  exact ⟨rfl, p7, b7, (n5 + 1), by omega, by omega, by omega, .inl (by omega), HA7.out⟩
 ·have HA1 := hid a1
  clear a1 HA0
  go_wp2_with fail
  refine (take_at HA1.out _).mono ?_
  rintro e w8 (⟨rfl, l8, a8⟩ | ⟨rfl, a8⟩)
  ·have HA8 := hid a8
   clear a8 HA1
   go_wp2_with fail
   refine (name_at9 HA8.out).mono ?_
   rintro e w9 ⟨t9, p9, b9, rfl, x9, l9a, l9b, l9c, a9⟩
   have HA9 := hid a9
   have HX9 := hid x9
   have HC9 := hid l9c
   clear a9 HA8 l9c x9
   go_wp2_with fail
   refine (need_at HA9.out _).mono ?_
   rintro e w10 ⟨rfl, p10, b10, l10a, l10b, a10⟩
   have HA10 := hid a10
   clear a10 HA9
   go_wp2_with fail
   refine (hE p10 (by omega) _ _ _ _ _ HA10.out (by have := HA10.out.pT; omega)).mono ?_
   rintro e w11 ⟨rfl, p11, b11, n11, l11a, l11b, l11c, a11⟩
   have HA11 := hid a11
   clear a11 HA10
   go_wp2_with fail
   refine (put_at9 HA11.out ⟨21, 0, 0, t9, 1⟩ (HX9.out) (by have := HA11.out.pT; omega)).mono ?_
   rintro e w12 ⟨rfl, a12⟩
   have HA12 := hid a12
   clear a12 HA11
   go_wp2_with fail
   refine (need_to HA12.out _).mono ?_
   rintro e w13 ⟨rfl, p13, b13, l13a, l13b, hb13, _, a13⟩
   have HA13 := hid a13
   have HB13 := hid hb13
   clear a13 HA12 hb13
   go_wp2
   go_end0
   exact ⟨rfl, p13, b13, (n11 + 1), by omega, by omega, by omega, .inl (by omega), HA13.out⟩
  ·have HA8 := hid a8
   clear a8 HA1
   go_wp2_with fail
   refine (take_at HA8.out _).mono ?_
   rintro e w14 (⟨rfl, l14, a14⟩ | ⟨rfl, a14⟩)
   ·have HA14 := hid a14
    clear a14 HA8
    go_wp2_with fail
    refine (hE (p + 1) (by omega) _ _ _ _ _ HA14.out (by have := HA14.out.pT; omega)).mono ?_
    rintro e w15 ⟨rfl, p15, b15, n15, l15a, l15b, l15c, a15⟩
    have HA15 := hid a15
    clear a15 HA14
    go_wp2_with fail
    refine (put_at9 HA15.out ⟨22, 0, 0, ⟨#[]⟩, 1⟩ (by show (⟨#[]⟩ : ByteArray).size ≤ 1000; decide) (by have := HA15.out.pT; omega)).mono ?_
    rintro e w16 ⟨rfl, a16⟩
    have HA16 := hid a16
    clear a16 HA15
    go_wp2_with fail
    refine (need_to HA16.out _).mono ?_
    rintro e w17 ⟨rfl, p17, b17, l17a, l17b, hb17, _, a17⟩
    have HA17 := hid a17
    have HB17 := hid hb17
    clear a17 HA16 hb17
    go_wp2
    go_end0
    exact ⟨rfl, p17, b17, (n15 + 1), by omega, by omega, by omega, .inl (by omega), HA17.out⟩
   ·have HA14 := hid a14
    clear a14 HA8
    go_wp2_with fail
    refine (take_at HA14.out _).mono ?_
    rintro e w18 (⟨rfl, l18, a18⟩ | ⟨rfl, a18⟩)
    ·have HA18 := hid a18
     clear a18 HA14
     have hq1 : (p + 1) ≤ s.T := HA18.out.pT.1
     go_wp2_with fail
     refine (tok_at HA18.out).mono ?_
     rintro e w19 ⟨kk, nn, qq, tt, rfl, hx, hk, a19⟩
     have HK := hid hk
     have HX := hid hx
     obtain ⟨ovb, kb, ab, bx⟩ := a19.box (.cells #[.int .i64 kk, .string tt, .int .i64 nn, .int .i64 qq] 120)
     have HKB := hid kb
     have HAb := hid ab
     have HBF := hid bx
     clear hk hx a19 HA18 kb ab bx
     go_upto_region 17 with fail
     obtain ⟨xb, hxb⟩ : ∃ g, w19.heap.size = g := ⟨_, rfl⟩
     obtain ⟨Wb, hWb⟩ : ∃ W, w19.alloc (.cells #[.int .i64 kk, .string tt, .int .i64 nn, .int .i64 qq] 120) = W := ⟨_, rfl⟩
     rw [hWb] at HKB HAb HBF ⊢
     rw [hxb] at HBF ⊢
     clear hxb hWb
     obtain ⟨⟨x0, x1, x2, x3⟩, _, _, _, _⟩ := tbox (HBF.out _ _ _ _ HAb.out)
     by_cases h4 : kk = 4
     ·subst h4
      have hp := HK.out (by decide)
      obtain ⟨_, d2, _, f2⟩ := HAb.out.cells
      have HAi := hid (HAb.out.inc hp)
      go_wp2_with fail
      refine (need_at HAi.out _).mono ?_
      rintro e w20 ⟨rfl, p20, b20, l20a, l20b, a20⟩
      have HA20 := hid a20
      clear a20 HAi HAb d2 f2 x0 x1 x2 x3
      go_wp2
      go_loopw [6] (fun c6 wr => ∃ m q k : Nat, ∃ bb : Bool, c6 = .int .i64 m ∧ m ≤ q - p20 + 1 ∧ p20 ≤ q ∧ n ≤ k ∧ k + 2 * p20 ≤ n + 2 * q ∧ Ad s ovb Wb q bb k wr) (fun _ wr => s.T - deskP s wr)
      case atStart => exact ⟨0, p20, n, _, rfl, by omega, by omega, by omega, by omega, HA20.out⟩
      case round =>
       obtain ⟨m, q, k, bb, rfl, lm, lq, lk, lkq, ad⟩ := hrel
       have HAr := hid ad
       have HDP := hid ad.deskP
       have hqT := ad.pT.1
       clear ad HA20
       obtain ⟨_, _, c3, _⟩ := HAr.out.cells
       cases bb
       ·go_wp2_with fail
        refine (name_at9 HAr.out).mono ?_
        rintro e w21 ⟨t21, p21, b21, rfl, x21, l21a, l21b, l21c, a21⟩
        have HA21 := hid a21
        have HX21 := hid x21
        have HC21 := hid l21c
        clear a21 HAr l21c x21
        go_wp2_with fail
        refine (put_at9 HA21.out ⟨5, 0, 0, t21, 0⟩ (HX21.out) (by have := HA21.out.pT; omega)).mono ?_
        rintro e w22 ⟨rfl, a22⟩
        have HA22 := hid a22
        clear a22 HA21
        go_wp2_with fail
        refine (take_at HA22.out _).mono ?_
        rintro e w23 (⟨rfl, l23, a23⟩ | ⟨rfl, a23⟩)
        ·have HA23 := hid a23
         clear a23 HA22
         go_wp2
         go_roundw
         case rel => exact ⟨m + 1, (p21 + 1), (k + 1), false, by go_num, by omega, by omega, by omega, by omega, HA23.out⟩
         case measure => rw [HA23.out.deskP, HDP.out]; have := HA23.out.pT; omega
        ·have HA23 := hid a23
         clear a23 HA22
         obtain ⟨⟨_, x1, _, _⟩, _, _, _, _⟩ := tbox (HBF.out _ _ _ _ HA23.out)
         go_wp2_with fail
         refine (put_at9 HA23.out ⟨23, 0, 0, tt, (((m + 1) : Nat) : Int)⟩ (HX.out) (by have := HA23.out.pT; omega)).mono ?_
         rintro e w24 ⟨rfl, a24⟩
         have HA24 := hid a24
         clear a24 HA23
         clear x1
         go_wp2_with fail
         refine (need_to HA24.out _).mono ?_
         rintro e w25 ⟨rfl, p25, b25, l25a, l25b, hb25, _, a25⟩
         have HA25 := hid a25
         have HB25 := hid hb25
         clear a25 HA24 hb25
         go_wp2
         go_end0
         exact ⟨rfl, p25, b25, ((k + 1) + 1), by omega, by omega, by omega, .inl (by omega), HA25.out.comp HKB.out⟩
       ·skip
        obtain ⟨⟨_, x1, _, _⟩, _, _, _, _⟩ := tbox (HBF.out _ _ _ _ HAr.out)
        go_wp2_with fail
        refine (put_at9 HAr.out ⟨23, 0, 0, tt, ((m : Nat) : Int)⟩ (HX.out) (by have := HAr.out.pT; omega)).mono ?_
        rintro e w26 ⟨rfl, a26⟩
        have HA26 := hid a26
        clear a26 HAr
        clear x1
        go_wp2_with fail
        refine (need_to HA26.out _).mono ?_
        rintro e w27 ⟨rfl, p27, b27, l27a, l27b, hb27, _, a27⟩
        have HA27 := hid a27
        have HB27 := hid hb27
        clear a27 HA26 hb27
        go_wp2
        go_end0
        exact ⟨rfl, p27, b27, (k + 1), by omega, by omega, by omega, .inl (by omega), HA27.out.comp HKB.out⟩
     ·have e4 : (kk != 4) = true := by simpa using h4
      go_wp2_with fail
      refine (stop_at HAb.out).mono ?_
      rintro e w28 ⟨rfl, a28⟩
      have HA28 := hid a28
      clear a28 HAb
      go_wp2
      exact bodyPost_ret (results_none rfl _ _ _) rfl ⟨rfl, (p + 1), true, n, by omega, by omega, by omega, .inr rfl, HA28.out.comp HKB.out⟩
    ·have HA18 := hid a18
     clear a18 HA14
     go_wp2_with fail
     refine (stop_at HA18.out).mono ?_
     rintro e w29 ⟨rfl, a29⟩
     have HA29 := hid a29
     clear a29 HA18
     go_wp2_with fail
     refine (need_to HA29.out _).mono ?_
     rintro e w30 ⟨rfl, p30, b30, l30a, l30b, hb30, _, a30⟩
     have HA30 := hid a30
     have HB30 := hid hb30
     clear a30 HA29 hb30
     go_wp2
     go_end0
     exact ⟨rfl, p30, b30, n, by omega, by omega, by omega, .inr (HB30.out (by trivial)), HA30.out⟩
theorem info_nd0 : (Tryz.prog.info? 33).map (fun i => (i.zero, i.size, i.bytes)) = some (some (.agg #[.int .i64 0, .int .i64 0, .int .i64 0, .string ⟨#[]⟩, .int .i64 0]), 5, 48) := by kernel_rfl
set_option maxHeartbeats 2000000 in
theorem spoil_none (R p : Nat) (ad : Option Addr) (c : Nat) (w : World) (h : Rd R w p) :
  Calls Tryz.prog 18 #[.pointer (some ⟨R, 0, none⟩), .agg #[.slice ad 0 c]] w fun e w2 => ∃ v, e = .returned (.agg #[v]) ∧ (∃ ad c, v = .slice ad 0 c) ∧ (∃ p', p' ≤ p ∧ Rd R w2 p') ∧ BR R w w2 := by
 obtain ⟨i0, hi0, hz0, hz1, hz2⟩ := info_parts info_nd0
 have hR := h.lt
 have HR := hid h
 clear h
 have HAL := hid ((((Below.refl w.heap.size w).alloc (Nat.le_refl _) (.cells #[.slice ad 0 c] 25)).alloc (by simp) (.cells #[.slice none 0 0] 25)).alloc (by simp; omega) (.cells #[] 33))
 have HO : Hid ((((w.alloc (.cells #[.slice ad 0 c] 25)).alloc (.cells #[.slice none 0 0] 25)).alloc (.cells #[] 33)).ownsRow (w.heap.size + 2) 33 5 (.slice (some ⟨w.heap.size + 2, 0, none⟩) 0 0) 0 []) := by
  refine ⟨rfl, .inr ⟨w.heap.size + 2, 0, #[], rfl, Nat.le_refl _, ?_, Nat.le_refl _, by unfold maxLen; omega, rfl, rfl⟩⟩
  have := heap_alloc_new ((w.alloc (.cells #[.slice ad 0 c] 25)).alloc (.cells #[.slice none 0 0] 25)) (.cells #[] 33)
  rwa [World.size_alloc, World.size_alloc] at this
 have HB1 : Hid (∀ v1 v2, Below w.heap.size w ((((w.alloc (.cells #[.slice ad 0 c] 25)).alloc (.cells #[v2] 25)).alloc (.cells #[] 33)).alloc (.cells #[v1] 25))) := fun v1 v2 => ((((Below.refl w.heap.size w).alloc (Nat.le_refl _) _).alloc (by simp) _).alloc (by simp; omega) _).alloc (by simp; omega) _
 cases ad with
 | none =>
  clear HO HAL
  go_enter Tryz.func18, Tryz.ntmps18
  go_wp2_with fail
  exact bodyPost_ret (v := .agg #[.slice (some ⟨w.heap.size + 1 + 1, 0, none⟩) 0 0]) (by simp [results, Tryz.results18, go_sem]) rfl ⟨_, rfl, ⟨_, _, rfl⟩, ⟨p, Nat.le_refl _, HR.out.next (HB1.out _ _)⟩, BR.of_below (HB1.out _ _) (by omega)⟩
 | some a =>
  go_enter Tryz.func18, Tryz.ntmps18
  go_wp2_with (at_builtin; refine wpList_append_own _ rfl _ _ 23 rfl (w.heap.size + 2) 33 i0 (.agg #[.int .i64 0, .int .i64 0, .int .i64 0, .string ⟨#[]⟩, .int .i64 0]) 5 48 Tryz.underlying23 hi0 hz0 hz1 hz2 rfl (by decide) _ _ [] rfl HO.out a 0 c [] rfl rfl (fun j u hu => by simp at hu) (fun u hu => by simp at hu) ?c3 ?c4 ?c5 ?_)
  case c3 => unfold maxLen; omega
  case c4 => omega
  case c5 => simp
  intro v1 w1 o1 g1 _
  have h4 := own_tr (l := []) (m := 0) (by simpa [ndRow] using o1) rfl
  obtain ⟨⟨ad9, c9, rfl, _⟩, _⟩ := h4
  have hb1 : Below w.heap.size w w1 := HAL.out.grown g1 HAL.out.size (fun q e => by cases e; show w.heap.size ≤ w.heap.size + 1 + 1; omega)
  have hw1 : w.heap.size + 3 ≤ w1.heap.size := by have := g1.size; simp at this; omega
  have HR0 : Hid ((w1.alloc (.cells #[.slice ad9 0 c9] 25)).heap[w.heap.size + 1]? = some (.cells #[.slice none 0 0] 25 (0, 0))) := by
   show _ = _
   rw [Below.heap_alloc _ _ _ (by omega), g1.block (w.heap.size + 1) (by simp) (by simp [Value.ownBlock]), Below.heap_alloc _ _ _ (by simp)]
   have := heap_alloc_new (w.alloc (.cells #[.slice (some a) 0 c] 25)) (.cells #[.slice none 0 0] 25)
   rwa [World.size_alloc] at this
  have HB2 := hid ((hb1.alloc hb1.size (.cells #[.slice ad9 0 c9] 25)).setCell (p := ⟨w.heap.size + 1, 0, none⟩) (by show w.heap.size ≤ w.heap.size + 1; omega) (.slice ad9 0 c9))
  have r0 := cell_hp HR0.out 0
  have rf := frozen_hp HR0.out 0
  simp at r0
  clear o1 g1 HO HAL HB1 hb1
  go_wp2
  exact bodyPost_ret (v := .agg #[.slice ad9 0 c9]) (by simp [results, Tryz.results18, go_sem, r0]) rfl ⟨_, rfl, ⟨_, _, rfl⟩, ⟨p, Nat.le_refl _, HR.out.next HB2.out⟩, BR.of_below HB2.out (by omega)⟩
theorem all_from {s : Ds} : ∀ d p : Nat, s.T ≤ p + d → EOk9 s p ∧ ∀ r : Int, 1 ≤ r → r ≤ 7 → OpsOk9 s r p := by
 intro d
 induction d using Nat.strongRecOn with
 | ind d ih =>
  intro p hd
  have hE : ∀ q, p < q → EOk9 s q := fun q hq => by
   by_cases h0 : d = 0
   ·intro bad n ov0 w0 w h
    have := h.pT.1
    omega
   ·exact (ih (d - 1) (by omega) q (by omega)).1
  have hO : ∀ q, p < q → ∀ r : Int, 1 ≤ r → r ≤ 7 → OpsOk9 s r q := fun q hq => by
   by_cases h0 : d = 0
   ·intro r _ _ bad n ov0 w0 w h
    have := h.pT.1
    omega
   ·exact (ih (d - 1) (by omega) q (by omega)).2
  have o7 : OpsOk9 s 7 p := ops7_at hE (fun q hq => hO q hq 7 (by omega) (by omega))
  have o6 : OpsOk9 s 6 p := opsB_at 6 (by omega) (by omega) (by omega) (by omega) o7 (fun q hq => hO q hq 7 (by omega) (by omega))
  have o5 : OpsOk9 s 5 p := opsB_at 5 (by omega) (by omega) (by omega) (by omega) o6 (fun q hq => hO q hq 6 (by omega) (by omega))
  have o4 : OpsOk9 s 4 p := opsB_at 4 (by omega) (by omega) (by omega) (by omega) o5 (fun q hq => hO q hq 5 (by omega) (by omega))
  have o3 : OpsOk9 s 3 p := ops3_at o4 (fun q hq => hO q hq 3 (by omega) (by omega))
  have o2 : OpsOk9 s 2 p := opsB_at 2 (by omega) (by omega) (by omega) (by omega) o3 (fun q hq => hO q hq 3 (by omega) (by omega))
  have o1 : OpsOk9 s 1 p := opsB_at 1 (by omega) (by omega) (by omega) (by omega) o2 (fun q hq => hO q hq 2 (by omega) (by omega))
  refine ⟨fun bad n ov0 w0 w h hl => e_at9 hE o1 h hl, fun r h1 h7 => ?_⟩
  obtain rfl | rfl | rfl | rfl | rfl | rfl | rfl : r = 1 ∨ r = 2 ∨ r = 3 ∨ r = 4 ∨ r = 5 ∨ r = 6 ∨ r = 7 := by omega
  ·exact o1
  ·exact o2
  ·exact o3
  ·exact o4
  ·exact o5
  ·exact o6
  ·exact o7
theorem e_all (s : Ds) (p : Nat) : EOk9 s p := (all_from s.T p (by omega)).1
end Go.Proofs.YtbakebdfmdepnaaGreatDoor
