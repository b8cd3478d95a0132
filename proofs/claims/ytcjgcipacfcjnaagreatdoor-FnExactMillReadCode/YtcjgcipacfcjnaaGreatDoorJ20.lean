import Derived.Lib.OthersKept
import Derived.Deep.LoopGhost
import Derived.OwnWalk
import Derived.Test.YtcjgcipacfcjnaaGreatDoorJ14
import Derived.Test.YtcjgcipacfcjnaaGreatDoorJ05
namespace Go.Proofs.YtcjgcipacfcjnaaGreatDoor.R
open Go.RowKit
set_option maxRecDepth 20000
end Go.Proofs.YtcjgcipacfcjnaaGreatDoor.R
namespace Go.Proofs.YtcjgcipacfcjnaaGreatDoor.C
open Go.RowKit
set_option maxRecDepth 20000
set_option maxHeartbeats 1000000 in
theorem kindFits_any (a k : Int) (w : World) : Calls Tryz.prog 147 #[.int .i64 a, .int .i64 k] w fun e w' => e = .returned (.bool (fitK a k)) ∧ w' = w := by
 by_cases h : a = k
 ·subst h
  go_enter Tryz.func147, Tryz.ntmps147
  go_wp2_with fail
  go_ret
  exact ⟨ret_bool (by simp [fitK]), rfl⟩
 ·have hf : (a == k) = false := by simpa using h
  by_cases h1 : a = -1
  ·subst h1
   have HF : Hid (fitK (-1) k = isI k) := hid (by simp [fitK, h])
   clear h
   go_enter Tryz.func147, Tryz.ntmps147
   go_wp2_with (go_at_call 141; refine (Q.millIsInteger_int _ _).mono ?_; rintro e w' ⟨rfl, hw⟩; have hw2 := hw.symm; clear hw; subst hw2)
   go_ret
   exact ⟨ret_bool (by rw [HF.out]; rfl), rfl⟩
  ·have hf1 : (a == -1) = false := by simpa using h1
   have HF : Hid (fitK a k = false) := hid (by simp [fitK, h, h1])
   clear h h1
   go_enter Tryz.func147, Tryz.ntmps147
   go_wp2_with fail
   go_ret
   exact ⟨ret_bool (by rw [HF.out]), rfl⟩
set_option maxHeartbeats 1000000 in
theorem unGives_any (op k : Int) (w : World) : Calls Tryz.prog 148 #[.int .i64 op, .int .i64 k] w fun e w' => e = .returned (.int .i64 (unG op k)) ∧ w' = w := by
 by_cases h : op = 2
 ·subst h
  by_cases hk : k = 1
  ·subst hk
   go_enter Tryz.func148, Tryz.ntmps148
   go_wp2_with fail
   go_ret
   exact ⟨rfl, rfl⟩
  ·have hkf : (k == 1) = false := by simpa using hk
   have HV : Hid (unG 2 k = 0) := hid (by simp [unG, hk])
   clear hk
   go_enter Tryz.func148, Tryz.ntmps148
   go_wp2_with fail
   go_ret
   exact ⟨by rw [HV.out]; rfl, rfl⟩
 ·have hf : (op == 2) = false := by simpa using h
  have hn : (op != 2) = true := by simpa using h
  cases hi : isI k with
  | true =>
   have HV : Hid (unG op k = k) := hid (by simp [unG, h, hi])
   have hi2 : (decide (3 ≤ k) && decide (k ≤ 10)) = true := hi
   clear h
   go_enter Tryz.func148, Tryz.ntmps148
   go_wp2_with (go_at_call 141; refine (Q.millIsInteger_int _ _).mono ?_; rw [hi2]; rintro e w' ⟨rfl, hw⟩; have hw2 := hw.symm; clear hw; subst hw2)
   go_ret
   exact ⟨by rw [HV.out]; rfl, rfl⟩
  | false =>
   have HV : Hid (unG op k = 0) := hid (by simp [unG, h, hi])
   have hi2 : (decide (3 ≤ k) && decide (k ≤ 10)) = false := hi
   clear h
   go_enter Tryz.func148, Tryz.ntmps148
   go_wp2_with (go_at_call 141; refine (Q.millIsInteger_int _ _).mono ?_; rw [hi2]; rintro e w' ⟨rfl, hw⟩; have hw2 := hw.symm; clear hw; subst hw2)
   go_ret
   exact ⟨by rw [HV.out]; rfl, rfl⟩
set_option maxHeartbeats 1000000 in
theorem kindText_any (k : Int) (h : 0 ≤ k ∧ k ≤ 10) (w : World) : Calls Tryz.prog 132 #[.int .i64 k] w fun e w' => e = .returned (.string (kt [k])) ∧ Below w.heap.size w w' := by
 have hw : IntKind.u8.wrap k = k := by rw [IntKind.wrap_u8]; omega
 have hcv : (convert 39 9 (.slice (some ⟨w.heap.size, 0, none⟩) 1 1)).run Tryz.prog (w.alloc (.cells #[.int .u8 k] 5)) = .ok (.string (kt [k])) (w.alloc (.cells #[.int .u8 k] 5)) := by
  have := run_convert_bytes_back (P := Tryz.prog) (w.alloc (.cells #[.int .u8 k] 5)) 39 9 5 ⟨w.heap.size, 0, none⟩ 1 [kb k] Tryz.underlying39 Tryz.underlying5 Tryz.underlying9 (fun j hj => by
   obtain rfl : j = 0 := by simpa using hj
   have ea : (⟨w.heap.size, 0, none⟩ : Addr).add 0 = ⟨w.heap.size, 0, none⟩ := by simp [Addr.add]
   rw [ea, cell_hp (heap_alloc_new w _) 0]
   simp [kb_nat h])
  exact this
 clear h
 go_enter Tryz.func132, Tryz.ntmps132
 go_wp2_with fail
 go_ret
 exact ⟨rfl, (Below.refl _ _).alloc (Nat.le_refl _) _⟩
set_option maxHeartbeats 2000000 in
theorem contains_any {v : Value} {l : List Int} {x : Int} {w : World} (h : IntRow w v l) (hl : l.length ≤ 1000) : Calls Tryz.prog 128 #[v, .int .i64 x] w fun e w' => e = .returned (.bool (decide (x ∈ l))) ∧ Below w.heap.size w w' := by
 have H := hid h
 obtain ⟨ad, c, rfl⟩ := h.sl
 clear h
 have HIX : Hid (Calls Tryz.prog 146 #[.slice ad l.length c, .int .i64 x] w fun e w' => ∃ r : Int, e = .returned (.int .i64 r) ∧ (0 ≤ r ↔ x ∈ l) ∧ Below w.heap.size w w') := hid (by
  go_enter Tryz.func146, Tryz.ntmps146
  go_wp2_with fail
  go_loop [8] (fun i => ∃ j : Nat, j ≤ l.length ∧ i = .int .i64 j ∧ ∀ p, p < j → ¬ l.getD p 0 = x) (fun i => l.length - (intOf i).toNat)
  case atStart => exact ⟨0, Nat.zero_le _, rfl, fun p hp => absurd hp (Nat.not_lt_zero _)⟩
  case round =>
   obtain ⟨j, hj, rfl, hall⟩ := hrel
   have HALL := hid hall
   clear hall
   by_cases hlt : j < l.length
   ·have hlti : (j : Int) < (l.length : Int) := by omega
    obtain ⟨gA, cA2, e9, _, _, _, hcA⟩ := H.out.at hlt
    injection e9 with ea en ec
    clear en
    subst ea ec
    have kA := hcA j hlt
    obtain ⟨y, hy⟩ : ∃ y, l.getD j 0 = y := ⟨_, rfl⟩
    rw [hy] at kA
    have HY := hid hy
    clear hy hcA
    by_cases hxy : x = y
    ·have hxf : (x == y) = true := by simpa using hxy
     have HIN : Hid (x ∈ l) := hid (by rw [hxy, ← HY.out, List.getD_eq_getElem?_getD, List.getElem?_eq_getElem hlt]; exact List.getElem_mem hlt)
     clear hxy
     go_wp2_with fail
     go_ret
     exact ⟨_, rfl, ⟨fun _ => HIN.out, fun _ => by omega⟩, Below.refl _ _⟩
    ·have hxf : (x == y) = false := by simpa using hxy
     have HNE := hid hxy
     clear hxy
     go_wp2_with fail
     go_round
     case rel =>
      refine ⟨j + 1, by omega, by go_num, fun p hp => ?_⟩
      by_cases e : p = j
      ·subst e; rw [HY.out]; exact fun h => HNE.out h.symm
      ·exact HALL.out p (by omega)
     case measure => simp [intOf]; omega
   ·obtain rfl : j = l.length := by omega
    have hge : ¬ ((l.length : Int) < (l.length : Int)) := by omega
    go_wp2_with fail
    go_ret
    refine ⟨_, rfl, ⟨fun h => by omega, fun h => ?_⟩, Below.refl _ _⟩
    obtain ⟨p, hp, e⟩ := List.getElem_of_mem h
    exact absurd (by rw [List.getD_eq_getElem?_getD, List.getElem?_eq_getElem hp]; exact e) (HALL.out p hp))
 go_enter Tryz.func128, Tryz.ntmps128
 go_wp2_with (go_at_call 146; refine HIX.out.mono ?_; rintro e w1 ⟨r, rfl, hr, hb1⟩; have HR := hid hr; have HB := hid hb1; clear hr hb1)
 go_ret
 exact ⟨ret_bool (by rw [Bool.eq_iff_iff, decide_eq_true_iff, decide_eq_true_iff]; exact HR.out), HB.out⟩
theorem bin_no {op a b : Int} (h : ¬ a = b) : binG op a b = 0 := by simp [binG, h]
theorem bin_34 {op a b : Int} (h : op = 3 ∨ op = 4) : binG op a b = if (decide (¬ a = 0) && decide (a = b)) = true then 1 else 0 := by
 by_cases hab : a = b
 ·subst hab
  by_cases h0 : a = 0 <;> simp [binG, h, h0]
 ·rw [bin_no hab]; simp [hab]
theorem bin_58 {op a b : Int} (ha : 0 ≤ a ∧ a ≤ 10) (h : 5 ≤ op ∧ op ≤ 8) : binG op a b = if ((isI a || decide (a = 2)) && decide (a = b)) = true then 1 else 0 := by
 have h34 : ¬ (op = 3 ∨ op = 4) := by omega
 by_cases hab : a = b
 ·subst hab
  obtain rfl | rfl | rfl | rfl | rfl | rfl | rfl | rfl | rfl | rfl | rfl : a = 0 ∨ a = 1 ∨ a = 2 ∨ a = 3 ∨ a = 4 ∨ a = 5 ∨ a = 6 ∨ a = 7 ∨ a = 8 ∨ a = 9 ∨ a = 10 := by omega
  all_goals simp [binG, isI, h34, h]
 ·rw [bin_no hab]; simp [hab]
theorem bin_9 {a b : Int} (ha : 0 ≤ a ∧ a ≤ 10) : binG 9 a b = if ((isI a || decide (a = 2)) && decide (a = b)) = true then a else 0 := by
 by_cases hab : a = b
 ·subst hab
  obtain rfl | rfl | rfl | rfl | rfl | rfl | rfl | rfl | rfl | rfl | rfl : a = 0 ∨ a = 1 ∨ a = 2 ∨ a = 3 ∨ a = 4 ∨ a = 5 ∨ a = 6 ∨ a = 7 ∨ a = 8 ∨ a = 9 ∨ a = 10 := by omega
  all_goals simp [binG, isI]
 ·rw [bin_no hab]; simp [hab]
theorem bin_r {op a b : Int} (ha : 0 ≤ a ∧ a ≤ 10) (h : 10 ≤ op) : binG op a b = if (isI a && decide (a = b)) = true then a else 0 := by
 have h34 : ¬ (op = 3 ∨ op = 4) := by omega
 have h58 : ¬ (5 ≤ op ∧ op ≤ 8) := by omega
 have h9 : ¬ op = 9 := by omega
 by_cases hab : a = b
 ·subst hab
  obtain rfl | rfl | rfl | rfl | rfl | rfl | rfl | rfl | rfl | rfl | rfl : a = 0 ∨ a = 1 ∨ a = 2 ∨ a = 3 ∨ a = 4 ∨ a = 5 ∨ a = 6 ∨ a = 7 ∨ a = 8 ∨ a = 9 ∨ a = 10 := by omega
  all_goals simp [binG, isI, h34, h58, h9]
 ·rw [bin_no hab]; simp [hab]
set_option maxHeartbeats 4000000 in
theorem binGives_any (op a b : Int) (ha : 0 ≤ a ∧ a ≤ 10) (hop : 3 ≤ op ∧ op ≤ 18) (w : World) : Calls Tryz.prog 149 #[.int .i64 op, .int .i64 a, .int .i64 b] w fun e w' => e = .returned (.int .i64 (binG op a b)) ∧ w' = w := by
 have HA := hid ha
 have HI := hid (Q.millIsInteger_int a)
 have hia : isI a = (decide (3 ≤ a) && decide (a ≤ 10)) := rfl
 have H34 := hid (fun h => bin_34 (op := op) (a := a) (b := b) h)
 have H58 := hid (fun h => bin_58 (op := op) (b := b) ha h)
 have H9 := hid (bin_9 (b := b) ha)
 have HRR := hid (fun h => bin_r (op := op) (b := b) ha h)
 obtain ⟨I, hI⟩ : ∃ I, isI a = I := ⟨_, rfl⟩
 rw [← hia, hI] at HI
 rw [hI] at H58 H9 HRR
 have e1 : (op == 1) = false := by simp; omega
 have e2 : (op == 2) = false := by simp; omega
 have habt : (a != b) = !decide (a = b) := by by_cases h : a = b <;> simp [h]
 have h20 : (a == 2) = decide (a = 2) := rfl
 have h00 : (a != 0) = decide (¬ a = 0) := by by_cases h : a = 0 <;> simp [h]
 obtain ⟨T, hT⟩ : ∃ T, decide (a = 2) = T := ⟨_, rfl⟩
 obtain ⟨Z, hZ⟩ : ∃ Z, decide (¬ a = 0) = Z := ⟨_, rfl⟩
 obtain ⟨B, hB⟩ : ∃ B, decide (a = b) = B := ⟨_, rfl⟩
 rw [hT] at h20 H58 H9
 rw [hZ] at h00 H34
 rw [hB] at habt H34 H58 H9 HRR
 clear hia hI hT hZ hB ha
 by_cases h34 : op = 3 ∨ op = 4
 ·have HV := hid (H34.out h34)
  clear hop H34 H58 H9 HRR
  cases Z <;> cases B <;> cases I <;> rcases h34 with rfl | rfl
  all_goals go_enter Tryz.func149, Tryz.ntmps149
  all_goals go_wp2_with (go_at_call 141; refine (HI.out _).mono ?_; rintro e w' ⟨rfl, hw⟩; have hw2 := hw.symm; clear hw; subst hw2)
  all_goals go_ret
  all_goals exact ⟨by rw [HV.out]; rfl, rfl⟩
 ·have e3 : (op == 3) = false := by simp; omega
  have e4 : (op == 4) = false := by simp; omega
  by_cases h58 : 5 ≤ op ∧ op ≤ 8
  ·have HV := hid (H58.out h58)
   clear h34 H34 H58 H9 HRR
   obtain rfl | rfl | rfl | rfl : op = 5 ∨ op = 6 ∨ op = 7 ∨ op = 8 := by omega
   all_goals cases T <;> cases B <;> cases I
   all_goals go_enter Tryz.func149, Tryz.ntmps149
   all_goals go_wp2_with (go_at_call 141; refine (HI.out _).mono ?_; rintro e w' ⟨rfl, hw⟩; have hw2 := hw.symm; clear hw; subst hw2)
   all_goals go_ret
   all_goals exact ⟨by rw [HV.out]; rfl, rfl⟩
  ·have e5 : (op == 5) = false := by simp; omega
   have e6 : (op == 6) = false := by simp; omega
   have e7 : (op == 7) = false := by simp; omega
   have e8 : (op == 8) = false := by simp; omega
   by_cases h9 : op = 9
   ·subst h9
    have HV := H9
    clear h34 h58 H34 H58 HRR
    cases T <;> cases B <;> cases I
    all_goals go_enter Tryz.func149, Tryz.ntmps149
    all_goals go_wp2_with (go_at_call 141; refine (HI.out _).mono ?_; rintro e w' ⟨rfl, hw⟩; have hw2 := hw.symm; clear hw; subst hw2)
    all_goals go_ret
    all_goals exact ⟨by rw [HV.out]; rfl, rfl⟩
   ·have e9 : (op == 9) = false := by simp; omega
    have HV := hid (HRR.out (by omega))
    clear h34 h58 h9 hop H34 H58 H9 HRR
    cases B <;> cases I
    all_goals go_enter Tryz.func149, Tryz.ntmps149
    all_goals go_wp2_with (go_at_call 141; refine (HI.out _).mono ?_; rintro e w' ⟨rfl, hw⟩; have hw2 := hw.symm; clear hw; subst hw2)
    all_goals go_ret
    all_goals exact ⟨by rw [HV.out]; rfl, rfl⟩
def kRow (l : List Int) (i j : Nat) : Value := .int .i64 (if j < i then l.getD j 0 else 0)
structure KI (l : List Int) (w : World) (b j : Nat) (W : World) : Prop where
 lo : Below w.heap.size w W
 it : W.heap[b]? = some (.stringIter (kt l) j)
 gt : w.heap.size < b
 row : W.rowIs w.heap.size 3 l.length (kRow l j)
theorem made1 (x : Value) (n i : Nat) (h : i < n) : (madeCells #[x] n).toList[i]? = some x := by
 unfold madeCells
 simp [h, Nat.mod_one]
theorem KI.more {l : List Int} {w : World} {b j : Nat} {W : World} (h : KI l w b j W) (_hj : j < l.length) : KI l w b (j + 1) ((W.iterAt b (kt l) (j + 1)).setCell ⟨w.heap.size, j, none⟩ (.int .i64 (l.getD j 0))) := by
 have hgt := h.gt
 have h1 := Lib.iterAt_heap W b (kt l) j (j + 1) h.it
 have hr : (W.iterAt b (kt l) (j + 1)).rowIs w.heap.size 3 l.length (kRow l j) := h.row.of_block (by simp only [World.iterAt]; rw [Array.getElem?_setIfInBounds_ne (by omega)])
 refine ⟨set_lo (Lib.below_iterAt h.lo (by omega) (kt l) (j + 1)) _ _ (Nat.le_refl _) _, by rw [set_other _ _ _ _ _ (by omega)]; exact h1, hgt, (hr.set j _).congr fun q hq => ?_⟩
 unfold kRow
 by_cases e : q = j
 ·subst e; rw [if_pos rfl, if_pos (by omega)]
 ·rw [if_neg e]
  by_cases h9 : q < j
  ·rw [if_pos h9, if_pos (by omega)]
  ·rw [if_neg h9, if_neg (by omega)]
theorem KI.fin {l : List Int} {w : World} {b : Nat} {W : World} (h : KI l w b l.length W) (h600 : l.length ≤ 600) : IntRow W (.slice (some ⟨w.heap.size, 0, none⟩) l.length l.length) l := by
 obtain ⟨cur, e, hz, hc⟩ := h.row
 refine ⟨_, _, rfl, Nat.le_refl _, by unfold maxLen; omega, .inr ⟨_, cur, rfl, e, fun i hi => ?_⟩⟩
 rw [hc i hi]
 unfold kRow
 rw [if_pos hi]
set_option maxHeartbeats 4000000 in
theorem kindsOf_any {l : List Int} (hl : Ok10 l) (h600 : l.length ≤ 600) (w : World) : Calls Tryz.prog 129 #[.string (kt l)] w fun e w' => ∃ v, e = .returned v ∧ IntRow w' v l ∧ Below w.heap.size w w' := by
 have HL := hid hl
 have hsz := kt_size l
 obtain ⟨i0, hi, hz0, hz1, hz2⟩ := int_parts
 have HHI := hid (And.intro hi (And.intro hz0 (And.intro hz1 hz2)))
 have hb8 : i0.bytes = 8 := hz2
 clear hi hz0 hz1 hz2 hl
 go_enter Tryz.func129, Tryz.ntmps129
 go_upto_region 2 with (at_make; refine wpList_make_full _ rfl _ _ 54 rfl w.heap.size 3 i0 (.int .i64 0) 1 Tryz.underlying54 HHI.out.1 HHI.out.2.1 HHI.out.2.2.1 _ _ _ _ l.length rfl rfl (by first | rfl | (rw [hsz])) (by first | rfl | (rw [hsz])) (by rw [hb8]; omega) (by unfold maxLen; omega) (Nat.le_refl _) ?_; intro W1 o1 g1)
 have hrow : W1.rowIs w.heap.size 3 l.length (kRow l 0) := by
  obtain ⟨_, ⟨h2, _⟩ | ⟨k, c, cur, e, _, h4, _, _, h7, h8⟩⟩ := o1
  ·cases h2
  ·injection e with e1 _ e3
   injection e1 with e1
   injection e1 with e1
   subst e1 e3
   rw [Nat.mul_one] at h7 h8
   refine ⟨cur, h4, h7, fun i hi => ?_⟩
   have e2 : (cur.toList.take l.length)[i]? = (madeCells (Value.int .i64 0).cells l.length).toList[i]? := by rw [h8]
   rw [List.getElem?_take_of_lt hi] at e2
   rw [← Array.getElem?_toList, e2]
   have e5 : (Value.int .i64 0).cells = #[Value.int .i64 0] := rfl
   rw [e5, made1 _ _ _ hi]
   unfold kRow
   rw [if_neg (Nat.not_lt_zero _)]
 have HLO1 := hid ((Below.refl w.heap.size w).grown g1 (Nat.le_refl _) (fun q e => by cases e))
 have HK0 : Hid (KI l w W1.heap.size 0 (W1.iter (kt l) 0)) := hid ⟨HLO1.out.trans (((Below.refl W1.heap.size W1).alloc (Nat.le_refl _) _).mono HLO1.out.size), World.iter_heap _ _ _, hrow.lt, hrow.alloc _⟩
 clear o1 g1 hrow
 obtain ⟨b, hb⟩ : ∃ b, W1.heap.size = b := ⟨_, rfl⟩
 go_wp2_with fail
 rw [hb] at HK0
 obtain ⟨W2, hW2⟩ : ∃ W, W1.iter (kt l) 0 = W := ⟨_, rfl⟩
 rw [hW2] at HK0 ⊢
 clear hW2 hb
 go_loopw [4] (fun _ wr => ∃ j : Nat, j ≤ l.length ∧ KI l w b j wr) (fun _ wr => l.length - wr.iterPos b)
 case atStart => exact ⟨0, Nat.zero_le _, HK0.out⟩
 case round =>
  obtain ⟨j, hj, hk⟩ := hrel
  have HK := hid hk
  clear hk HK0
  by_cases hlt : j < l.length
  ·have hlt2 : j < (kt l).size := by omega
   have hyv := kt_get HL.out hlt2
   have HR10 := hid (getD_range0 HL.out j)
   have h128 : ((kt l)[j]'hlt2).toNat < 128 := by have := HR10.out; omega
   have hnext : ∀ ty, (Instr.next (.pointer (some ⟨b, 0, none⟩)) true ty).run Tryz.prog wr = _ := fun ty => Lib.run_next_ascii_at wr b (kt l) j ty HK.out.it hlt2 h128
   have HMU : Hid (wr.iterPos b = j) := hid (by simp [World.iterPos, HK.out.it])
   have HM := hid (HK.out.more hlt)
   have HM2 := hid HM.out.it
   have hlti : (j : Int) < (l.length : Int) := by omega
   have hlt3 : (j : Int) < ((kt l).size : Int) := by omega
   have HRW : Hid ((wr.iterAt b (kt l) (j + 1)).rowIs w.heap.size 3 l.length (kRow l j)) := hid (HK.out.row.of_block (by have := HK.out.gt; simp only [World.iterAt]; rw [Array.getElem?_setIfInBounds_ne (by omega)]))
   have kA := HRW.out.cell hlt
   have kF := HRW.out.frozen j
   obtain ⟨y, hy⟩ : ∃ y, l.getD j 0 = y := ⟨_, rfl⟩
   rw [hy] at hyv HM
   unfold kRow at kA
   rw [if_neg (Nat.lt_irrefl j)] at kA
   have hwy : IntKind.i64.wrap y = y := by have := HR10.out; rw [hy] at this; rw [IntKind.wrap_i64]; omega
   generalize hW3 : wr.iterAt b (kt l) (j + 1) = W3 at hnext kA kF HM
   clear hy h128 hW3 HRW
   go_wp2_with fail
   go_roundw
   case rel => exact ⟨j + 1, by omega, HM.out⟩
   case measure =>
    have e2 : (W3.setCell ⟨w.heap.size, j, none⟩ (.int .i64 y)).iterPos b = j + 1 := by simp [World.iterPos, HM.out.it]
    rw [HMU.out, e2]
    omega
  ·obtain rfl : j = l.length := by omega
   have hnext : ∀ ty, (Instr.next (.pointer (some ⟨b, 0, none⟩)) true ty).run Tryz.prog wr = _ := fun ty => Lib.run_next_end_at wr b (kt l) l.length ty HK.out.it (by omega)
   go_wp2_with fail
   go_ret
   exact ⟨_, rfl, HK.out.fin h600, HK.out.lo⟩
end Go.Proofs.YtcjgcipacfcjnaaGreatDoor.C
