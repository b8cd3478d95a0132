import Derived.Test.YtcjgcipacfcjnaaGreatDoorJ24
namespace Go.Proofs.YtcjgcipacfcjnaaGreatDoor.C
open Go.RowKit
set_option maxRecDepth 20000
def MainEnd (fns : List Fn) (w : World) (e : Ending) (w' : World) : Prop := ∃ r : Int, e = .returned (.int .i64 r) ∧ ((r = -1 ∧ ∀ j, j < fns.length → ¬ isMain (fns.getD j fn0)) ∨ ∃ j : Nat, j < fns.length ∧ r = j ∧ isMain (fns.getD j fn0)) ∧ Below w.heap.size w w'
set_option maxHeartbeats 4000000 in
theorem main_any {fns : List Fn} {w : World} {cv : Value} (h1 : FnsRow w cv fns) (hl : fns.length ≤ 60) :
  Calls Tryz.prog 88 #[.agg #[cv]] w (MainEnd fns w) := by
 have H1 := hid h1
 obtain ⟨aF, cF, rfl⟩ := h1.sl
 clear h1
 go_enter Tryz.func88, Tryz.ntmps88
 go_wp2_with fail
 have HLO := hid ((Below.refl w.heap.size w).alloc (Nat.le_refl _) (.cells #[.slice aF fns.length cF] 29))
 have k0 := cx (heap_alloc_new w (.cells #[.slice aF fns.length cF] 29))
 obtain ⟨W1, hW1⟩ : ∃ W, w.alloc (.cells #[.slice aF fns.length cF] 29) = W := ⟨_, rfl⟩
 rw [hW1] at HLO k0 ⊢
 clear hW1
 go_loop [3] (fun i => ∃ j : Nat, j ≤ fns.length ∧ i = .int .i64 j ∧ ∀ p, p < j → ¬ isMain (fns.getD p fn0)) (fun i => fns.length - (intOf i).toNat)
 case atStart => exact ⟨0, Nat.zero_le _, rfl, fun p hp => absurd hp (Nat.not_lt_zero _)⟩
 case round =>
  obtain ⟨j, hj, rfl, hall⟩ := hrel
  have HALL := hid hall
  clear hall
  by_cases hlt : j < fns.length
  ·have hlti : (j : Int) < (fns.length : Int) := by omega
   obtain ⟨gF2, cF2, e9, _, pv, iv, n0, n1, n2, n3, n4, hpv, _⟩ := (H1.out.next HLO.out).at hlt
   injection e9 with ea en ec
   clear en
   subst ea ec
   obtain ⟨aP, cP, rfl⟩ := hpv.sl
   obtain ⟨f, hf⟩ : ∃ f, fns.getD j fn0 = f := ⟨_, rfl⟩
   rw [hf] at n0 n1 n2 n3
   have HFE := hid hf
   clear hf hpv
   have HNO : Hid (¬ isMain f → ∀ p, p < j + 1 → ¬ isMain (fns.getD p fn0)) := hid fun h p hp => by
    by_cases e : p = j
    ·subst e; rw [HFE.out]; exact h
    ·exact HALL.out p (by omega)
   by_cases hnm : f.name = ⟨#[109, 97, 105, 110]⟩
   ·have hnf : (f.name.toList == (⟨#[109, 97, 105, 110]⟩ : ByteArray).toList) = true := str_eq.2 hnm
    have HNM := hid hnm
    rw [hnm] at n0
    clear hnm hnf
    by_cases hp0 : f.params.length = 0
    ·have HP0 := hid hp0
     rw [hp0] at n1
     clear hp0
     by_cases hr : f.result = 2
     ·rw [hr] at n2
      have HR := hid hr
      clear hr
      go_wp2_with fail
      go_ret
      exact ⟨_, rfl, .inr ⟨j, hlt, rfl, by rw [HFE.out]; exact ⟨HNM.out, HP0.out, HR.out⟩⟩, HLO.out⟩
     ·have HR := hid hr
      have hrf : (f.result == 2) = false := by simpa using hr
      clear hr
      go_wp2_with fail
      go_round
      case rel => exact ⟨j + 1, by omega, by go_num, HNO.out fun h => HR.out h.2.2⟩
      case measure => simp [intOf]; omega
    ·have HP0 := hid hp0
     have hpf : ((f.params.length : Int) == 0) = false := by simp; intro h; rw [h] at hp0; exact hp0 rfl
     clear hp0
     go_wp2_with fail
     go_round
     case rel => exact ⟨j + 1, by omega, by go_num, HNO.out fun h => HP0.out h.2.1⟩
     case measure => simp [intOf]; omega
   ·have HNM := hid hnm
    have hnf : ¬ f.name.toList = [109, 97, 105, 110] := fun h => hnm (str_eq.1 (by rw [beq_iff_eq, h, Lib.toList_data]))
    clear hnm
    go_wp2_with fail
    go_round
    case rel => exact ⟨j + 1, by omega, by go_num, HNO.out fun h => HNM.out h.1⟩
    case measure => simp [intOf]; omega
  ·obtain rfl : j = fns.length := by omega
   have hge : ¬ ((fns.length : Int) < (fns.length : Int)) := by omega
   go_wp2
   go_ret
   exact ⟨_, rfl, .inl ⟨rfl, HALL.out⟩, HLO.out⟩
def BsEnd (l : List Int) (x : Int) (w : World) (e : Ending) (w' : World) : Prop := ∃ i : Nat, i ≤ l.length ∧ e = .returned (.tuple #[.int .i64 i, .bool (decide (i < l.length ∧ l.getD i 0 = x))]) ∧ (∀ q, q < i → x < l.getD q 0) ∧ (∀ q, i ≤ q → q < l.length → l.getD q 0 ≤ x) ∧ Below w.heap.size w w'
set_option maxHeartbeats 1000000 in
theorem cmp_any (a b : Int) (h : -1000000 ≤ b - a ∧ b - a ≤ 1000000) (w : World) : Calls Tryz.prog 124 #[.int .i64 a, .int .i64 b] w fun e w' => e = .returned (.int .i64 (b - a)) ∧ w' = w := by
 have hw : IntKind.i64.wrap (b - a) = b - a := by rw [IntKind.wrap_i64]; omega
 clear h
 go_enter Tryz.func124, Tryz.ntmps124
 go_wp2
 go_ret
 exact ⟨rfl, rfl⟩
set_option maxHeartbeats 4000000 in
theorem search_any {v : Value} {l : List Int} {x : Int} {w : World} (h : IntRow w v l) (hd : ∀ p q, p < q → q < l.length → l.getD q 0 < l.getD p 0) (hr : ∀ q, q < l.length → 0 ≤ l.getD q 0 ∧ l.getD q 0 ≤ 100000) (hx : 0 ≤ x ∧ x ≤ 100000) (hl : l.length ≤ 100000) :
  Calls Tryz.prog 123 #[v, .int .i64 x, .func (.func 124) #[] #[]] w (BsEnd l x w) := by
 have H := hid h
 have HD := hid hd
 have HR := hid hr
 have HX := hid hx
 obtain ⟨ad, c, rfl⟩ := h.sl
 clear h hd hr hx
 go_enter Tryz.func123, Tryz.ntmps123
 go_wp2_with fail
 go_loopw [9, 10] (fun i j wr => ∃ a b : Nat, a ≤ b ∧ b ≤ l.length ∧ i = .int .i64 a ∧ j = .int .i64 b ∧ Below w.heap.size w wr ∧ (∀ q, q < a → x < l.getD q 0) ∧ (∀ q, b ≤ q → q < l.length → l.getD q 0 ≤ x)) (fun i j _ => (intOf j).toNat - (intOf i).toNat)
 case atStart => exact ⟨0, l.length, Nat.zero_le _, Nat.le_refl _, rfl, rfl, Below.refl _ _, fun q hq => absurd hq (Nat.not_lt_zero _), fun q h1 h2 => absurd h2 (by omega)⟩
 case round =>
  obtain ⟨a, b, hab, hbl, rfl, rfl, hlo, h1, h2⟩ := hrel
  have HLO := hid hlo
  have HA := hid h1
  have HB := hid h2
  clear hlo h1 h2
  by_cases hlt : a < b
  ·have hlti : (a : Int) < (b : Int) := by omega
   obtain ⟨m, hm⟩ : ∃ m, (a + b) / 2 = m := ⟨_, rfl⟩
   have hm1 : a ≤ m := by omega
   have hm2 : m < b := by omega
   have hw1 : IntKind.i64.wrap ((a : Int) + (b : Int)) = ((a + b : Nat) : Int) := by rw [IntKind.wrap_i64]; omega
   have hw2 : IntKind.u64.wrap ((a + b : Nat) : Int) = ((a + b : Nat) : Int) := by simp [IntKind.wrap, IntKind.bits, IntKind.signed]; omega
   have hml : m < l.length := by omega
   have hmli : (m : Int) < (l.length : Int) := by omega
   obtain ⟨gA, cA2, e9, _, _, _, hcA⟩ := (H.out.next HLO.out).at hml
   injection e9 with ea en ec
   clear en
   subst ea ec
   have kA := hcA m hml
   obtain ⟨y, hy⟩ : ∃ y, l.getD m 0 = y := ⟨_, rfl⟩
   have hyr := HR.out m hml
   rw [hy] at kA hyr
   have HY := hid hy
   have hx := HX.out
   have HC := hid (fun W => cmp_any y x (by omega) W)
   clear hcA hy
   have hmi : ((a : Int) + (b : Int)) / 2 = (m : Int) := by omega
   have hw3 : IntKind.i64.wrap ((m : Int) + 1) = ((m + 1 : Nat) : Int) := by rw [IntKind.wrap_i64]; omega
   clear hm
   by_cases hxy : x < y
   ·have hneg : x - y < 0 := by omega
    have HXY := hid hxy
    clear hxy
    go_wp2_with (go_at_call 124; refine (HC.out _).mono ?_; rintro e w' ⟨rfl, hw⟩; have hw2 := hw.symm; clear hw; subst hw2)
    go_roundw
    case rel =>
     refine ⟨m + 1, b, by omega, hbl, by go_num, rfl, HLO.out, fun q hq => ?_, HB.out⟩
     by_cases e : q = m
     ·subst e; rw [HY.out]; exact HXY.out
     ·have := HD.out q m (by omega) hml
      rw [HY.out] at this
      have := HXY.out
      omega
    case measure => simp [intOf]; omega
   ·have hneg : ¬ x - y < 0 := by omega
    have HXY := hid hxy
    clear hxy
    go_wp2_with (go_at_call 124; refine (HC.out _).mono ?_; rintro e w' ⟨rfl, hw⟩; have hw2 := hw.symm; clear hw; subst hw2)
    go_roundw
    case rel =>
     refine ⟨a, m, hm1, by omega, rfl, rfl, HLO.out, HA.out, fun q h1 h2 => ?_⟩
     by_cases e : q = m
     ·subst e; rw [HY.out]; have := HXY.out; omega
     ·have := HD.out m q (by omega) h2
      rw [HY.out] at this
      have := HXY.out
      omega
    case measure => simp [intOf]; omega
  ·obtain rfl : a = b := by omega
   have hge : ¬ ((a : Int) < (a : Int)) := by omega
   by_cases hal : a < l.length
   ·have hali : (a : Int) < (l.length : Int) := by omega
    obtain ⟨gA, cA2, e9, _, _, _, hcA⟩ := (H.out.next HLO.out).at hal
    injection e9 with ea en ec
    clear en
    subst ea ec
    have kA := hcA a hal
    obtain ⟨y, hy⟩ : ∃ y, l.getD a 0 = y := ⟨_, rfl⟩
    have hyr := HR.out a hal
    rw [hy] at kA hyr
    have HY := hid hy
    have hx := HX.out
    have HC := hid (fun W => cmp_any y x (by omega) W)
    clear hcA hy
    by_cases hxy : x = y
    ·have hz : x - y = 0 := by omega
     have HXY := hid hxy
     clear hxy
     go_wp2_with (go_at_call 124; refine (HC.out _).mono ?_; rintro e w' ⟨rfl, hw⟩; have hw2 := hw.symm; clear hw; subst hw2)
     go_ret2
     refine ⟨a, by omega, ?_, HA.out, HB.out, HLO.out⟩
     have : decide (a < l.length ∧ l.getD a 0 = x) = true := by rw [decide_eq_true_iff]; exact ⟨hal, by rw [HY.out]; exact HXY.out.symm⟩
     rw [this]
     rfl
    ·have hz : (x - y == 0) = false := by simp; omega
     have HXY := hid hxy
     clear hxy
     go_wp2_with (go_at_call 124; refine (HC.out _).mono ?_; rintro e w' ⟨rfl, hw⟩; have hw2 := hw.symm; clear hw; subst hw2)
     go_ret2
     refine ⟨a, by omega, ?_, HA.out, HB.out, HLO.out⟩
     have : decide (a < l.length ∧ l.getD a 0 = x) = false := by rw [decide_eq_false_iff_not]; rintro ⟨_, h9⟩; rw [HY.out] at h9; exact HXY.out h9.symm
     rw [this]
     rfl
   ·have hali : ¬ (a : Int) < (l.length : Int) := by omega
    have hff : decide (a < l.length ∧ l.getD a 0 = x) = false := by rw [decide_eq_false_iff_not]; exact fun h => hal h.1
    have HFF := hid hff
    clear hff
    go_wp2_with fail
    go_ret2
    refine ⟨a, by omega, ?_, HA.out, HB.out, HLO.out⟩
    rw [HFF.out]
    rfl
end Go.Proofs.YtcjgcipacfcjnaaGreatDoor.C
