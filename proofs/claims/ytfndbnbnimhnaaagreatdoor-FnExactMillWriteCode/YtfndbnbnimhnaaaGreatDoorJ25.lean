import Derived.Laws.AppendOwnNone
import Derived.Lib.OthersKept
import Derived.Deep.LoopGhost
import Derived.OwnWalk
import Derived.Test.YtfndbnbnimhnaaaGreatDoorJ24
import Derived.Test.YtfndbnbnimhnaaaGreatDoorJ14
/-! append of a row of numbers onto a row of one's own. -/
namespace Go.Proofs.YtfndbnbnimhnaaaGreatDoor.C
open Go.RowKit
set_option maxRecDepth 20000
theorem run_append_none (w : World) (base : Nat) (ty : TypeId) (i : TypeInfo) (hi : Tryz.prog.info? 3 = some i) (v : Value) (n c : Nat) (xs : List Value) (hown : w.ownsRow base 3 1 v n xs) :
    (Builtin.append_ #[54, 54] ty #[v, .slice none 0 c]).run Tryz.prog w = .ok v w := by
  rcases hown.2 with ⟨rfl, rfl⟩ | ⟨g, cap, cur, rfl, _, _, hnc, _⟩
  · simp [Builtin.append_, run_underlying Tryz.underlying54, sizeOf, typeInfo, hi, Builtin.lenOf, Builtin.firstCells]
  · simp [Builtin.append_, run_underlying Tryz.underlying54, sizeOf, typeInfo, hi, Builtin.lenOf, Builtin.firstCells, hnc, storeCells]
theorem wpList_append_row {w : World} {ops : Array Oper} {rest : List Oper} {o : Oper} {a : Act} {Q : Exit → Act → World → Prop} (hgd : o.guard = none) (s x : Operand)
    (ho : o.op = .call { callee := .builtin .append, args := #[s, x], argTypes := #[54, 54] })
    (base : Nat) (v : Value) (n : Nat) (xs : List Value) (hs : a.eval s = v) (hown : w.ownsRow base 3 1 v n xs) (xv : Value) (l : List Int) (hx : a.eval x = xv) (hrow : IntPart w xv l)
    (h63 : n + l.length ≤ 100000) (hbase : base ≤ w.heap.size)
    (h : ∀ v' w', w'.ownsRow base 3 1 v' (n + l.length) (xs ++ l.map fun x => Value.int .i64 x) → w.grownBy w' v.ownBlock → wpList Tryz.prog ops Q rest (a.put o.dst v') w') :
    wpList Tryz.prog ops Q (o :: rest) a w := by
  obtain ⟨i0, hi, hz0, hz1, hz2⟩ := int_parts
  obtain ⟨ad, c, rfl, hl⟩ := hrow
  cases ad with
  | none =>
    have e : l = [] := by
      rcases hl with e | ⟨g, o9, e, _⟩
      · exact e
      · cases e
    subst e
    refine wpList_plain hgd fun K hK => ?_
    have hrun := run_append_none w base o.type i0 hi v n c xs hown
    unfold Oper.wp
    simp [execOp, ho, resolve, invoke, builtin, hs, hx, hrun, Result.andThen]
    exact hK _ _ (h v w (by simpa using hown) ⟨rfl, rfl, rfl, Nat.le_refl _, fun _ _ _ => rfl⟩)
  | some ad =>
    refine wpList_append_own_at _ hgd s x 54 ho base 3 i0 (.int .i64 0) 1 8 Tryz.underlying54 hi hz0 hz1 hz2 rfl (by decide) v n xs hs hown ad l.length c (l.map fun x => Value.int .i64 x) hx (by simp) ?_ ?_ (by unfold maxLen; omega) (by omega) hbase (fun v' w' h1 h2 _ _ => h v' w' h1 h2)
    · intro j u hj
      rcases hl with e | ⟨g, o9, e, _, hc⟩
      · subst e; simp at hj
      · injection e with e
        subst e
        have hlt : j < l.length := by
          have := (List.getElem?_eq_some_iff.1 hj).1
          simpa using this
        have hv := hc j hlt
        have : u = .int .i64 (l.getD j 0) := by
          rw [List.getElem?_map, List.getElem?_eq_getElem hlt] at hj
          simp at hj
          rw [← hj, List.getD_eq_getElem?_getD, List.getElem?_eq_getElem hlt]
          rfl
        have ea : (⟨g, o9, none⟩ : Addr).add j = ⟨g, o9 + j, none⟩ := by
          by_cases hj0 : j = 0
          · subst hj0; simp [Addr.add]
          · simp [Addr.add, hj0]
        rw [this, ea]
        exact hv
    · intro u hu
      simp at hu
      obtain ⟨z, _, rfl⟩ := hu
      rfl
theorem part_head {W : World} {ad : Option Addr} {c q : Nat} {l : List Int} (h : IntRow W (.slice ad l.length c) l) (hq : q ≤ l.length) : IntPart W (.slice ad q c) (l.take q) := by
  have hl : (l.take q).length = q := by simp; omega
  obtain ⟨ad', c', e, _, _, h3⟩ := h
  injection e with ea _ ec
  subst ea ec
  refine ⟨_, _, by rw [hl], ?_⟩
  rcases h3 with h3 | ⟨g, cur, e1, e2, e3⟩
  · exact .inl (by rw [h3]; simp)
  · refine .inr ⟨g, 0, e1, lt_hp e2, fun i hi => ?_⟩
    rw [hl] at hi
    rw [Nat.zero_add, cell_hp e2 i, e3 i (by omega)]
    simp [List.getD_eq_getElem?_getD, List.getElem?_take_of_lt hi]
theorem grown_lo {w A V : World} {B n : Nat} {v : Value} {xs : List Value} (lo : Below w.heap.size w A) (ho : A.ownsRow B 3 1 v n xs) (hB : w.heap.size ≤ B) (hg : A.grownBy V v.ownBlock) : Below w.heap.size w V :=
  ⟨hg.os.trans lo.os, hg.tape.trans lo.tape, hg.output.trans lo.output, Nat.le_trans lo.size hg.size, fun i hi => (hg.block i (Nat.lt_of_lt_of_le hi lo.size) (own_ne ho (by omega))).trans (lo.block i hi)⟩
theorem set2_box {W : World} {g : Nat} {st : Int} {x y : Value} (e : W.heap[g]? = some (sbox st x y)) (v : Value) : (W.setCell ⟨g, 2, none⟩ v).heap[g]? = some (sbox st x v) := by
  unfold World.setCell
  simp only [Array.getElem?_modify, e]
  simp [sbox]
theorem own_setS {W : World} {B g j n : Nat} {v u : Value} {xs : List Value} (h : W.ownsRow B 3 1 v n xs) {st : Int} {x y : Value} (e : W.heap[g]? = some (sbox st x y)) : (W.setCell ⟨g, j, none⟩ u).ownsRow B 3 1 v n xs := by
  obtain ⟨h1, h2 | ⟨k, cap, cur, ev, hb, hc, r⟩⟩ := h
  · exact ⟨h1, .inl h2⟩
  · exact ⟨h1, .inr ⟨k, cap, cur, ev, hb, by rw [set_other _ _ _ _ _ (fun ek => by subst ek; rw [e] at hc; simp [sbox] at hc)]; exact hc, r⟩⟩
theorem lit_own (W : World) : (W.alloc (.cells #[] 3)).ownsRow W.heap.size 3 1 (.slice (some ⟨W.heap.size, 0, none⟩) 0 0) 0 [] := World.ownsRow_lit W #[] 0 (Nat.le_refl _) (by unfold maxLen; omega) rfl
end Go.Proofs.YtfndbnbnimhnaaaGreatDoor.C
/-! The program's small functions on types. -/
namespace Go.Proofs.YtfndbnbnimhnaaaGreatDoor.C
open Go.RowKit
set_option maxRecDepth 20000
set_option maxHeartbeats 1000000 in
theorem kindFits_any (a k : Int) (w : World) : Calls Tryz.prog 147 #[.int .i64 a, .int .i64 k] w fun e w' => e = .returned (.bool (fitK a k)) ∧ w' = w := by
  by_cases h : a = k
  · subst h
    go_enter Tryz.func147, Tryz.ntmps147
    go_wp2_with fail
    go_ret
    exact ⟨ret_bool (by simp [fitK]), rfl⟩
  · have hf : (a == k) = false := by simpa using h
    by_cases h1 : a = -1
    · subst h1
      have HF : Hid (fitK (-1) k = isI k) := hid (by simp [fitK, h])
      clear h
      go_enter Tryz.func147, Tryz.ntmps147
      go_wp2_with (go_at_call 141; refine (Q.millIsInteger_int _ _).mono ?_; rintro e w' ⟨rfl, hw⟩; have hw2 := hw.symm; clear hw; subst hw2)
      go_ret
      exact ⟨ret_bool (by rw [HF.out]; rfl), rfl⟩
    · have hf1 : (a == -1) = false := by simpa using h1
      have HF : Hid (fitK a k = false) := hid (by simp [fitK, h, h1])
      clear h h1
      go_enter Tryz.func147, Tryz.ntmps147
      go_wp2_with fail
      go_ret
      exact ⟨ret_bool (by rw [HF.out]), rfl⟩
set_option maxHeartbeats 1000000 in
theorem unGives_any (op k : Int) (w : World) : Calls Tryz.prog 148 #[.int .i64 op, .int .i64 k] w fun e w' => e = .returned (.int .i64 (unG op k)) ∧ w' = w := by
  by_cases h : op = 2
  · subst h
    by_cases hk : k = 1
    · subst hk
      go_enter Tryz.func148, Tryz.ntmps148
      go_wp2_with fail
      go_ret
      exact ⟨rfl, rfl⟩
    · have hkf : (k == 1) = false := by simpa using hk
      have HV : Hid (unG 2 k = 0) := hid (by simp [unG, hk])
      clear hk
      go_enter Tryz.func148, Tryz.ntmps148
      go_wp2_with fail
      go_ret
      exact ⟨by rw [HV.out]; rfl, rfl⟩
  · have hf : (op == 2) = false := by simpa using h
    have hn : (op != 2) = true := by simpa using h
    cases hi : isI k with
    | true =>
      have HV : Hid (unG op k = k) := hid (by simp [unG, h, hi])
      have hi2 : (decide (3 ≤ k) && decide (k ≤ 10)) = true := hi
      clear h
      go_enter Tryz.func148, Tryz.ntmps148
      go_wp2_with (go_at_call 141; refine (Q.millIsInteger_int _ _).mono ?_; rw [hi2]; rintro e w' ⟨rfl, hw⟩; have hw2 := hw.symm; clear hw; subst hw2)
      go_ret
      exact ⟨by rw [HV.out]; rfl, rfl⟩
    | false =>
      have HV : Hid (unG op k = 0) := hid (by simp [unG, h, hi])
      have hi2 : (decide (3 ≤ k) && decide (k ≤ 10)) = false := hi
      clear h
      go_enter Tryz.func148, Tryz.ntmps148
      go_wp2_with (go_at_call 141; refine (Q.millIsInteger_int _ _).mono ?_; rw [hi2]; rintro e w' ⟨rfl, hw⟩; have hw2 := hw.symm; clear hw; subst hw2)
      go_ret
      exact ⟨by rw [HV.out]; rfl, rfl⟩
set_option maxHeartbeats 1000000 in
theorem kindText_any (k : Int) (h : 0 ≤ k ∧ k ≤ 10) (w : World) : Calls Tryz.prog 132 #[.int .i64 k] w fun e w' => e = .returned (.string (kt [k])) ∧ Below w.heap.size w w' := by
  have hw : IntKind.u8.wrap k = k := by rw [IntKind.wrap_u8]; omega
  have hcv : (convert 39 9 (.slice (some ⟨w.heap.size, 0, none⟩) 1 1)).run Tryz.prog (w.alloc (.cells #[.int .u8 k] 5)) = .ok (.string (kt [k])) (w.alloc (.cells #[.int .u8 k] 5)) := by
    have := run_convert_bytes_back (P := Tryz.prog) (w.alloc (.cells #[.int .u8 k] 5)) 39 9 5 ⟨w.heap.size, 0, none⟩ 1 [kb k] Tryz.underlying39 Tryz.underlying5 Tryz.underlying9 (fun j hj => by
      obtain rfl : j = 0 := by simpa using hj
      have ea : (⟨w.heap.size, 0, none⟩ : Addr).add 0 = ⟨w.heap.size, 0, none⟩ := by simp [Addr.add]
      rw [ea, cell_hp (heap_alloc_new w _) 0]
      simp [kb_nat h])
    exact this
  clear h
  go_enter Tryz.func132, Tryz.ntmps132
  go_wp2_with fail
  go_ret
  exact ⟨rfl, (Below.refl _ _).alloc (Nat.le_refl _) _⟩
set_option maxHeartbeats 2000000 in
theorem contains_any {v : Value} {l : List Int} {x : Int} {w : World} (h : IntRow w v l) (hl : l.length ≤ 1000) : Calls Tryz.prog 128 #[v, .int .i64 x] w fun e w' => e = .returned (.bool (decide (x ∈ l))) ∧ Below w.heap.size w w' := by
  have H := hid h
  obtain ⟨ad, c, rfl⟩ := h.sl
  clear h
  have HIX : Hid (Calls Tryz.prog 146 #[.slice ad l.length c, .int .i64 x] w fun e w' => ∃ r : Int, e = .returned (.int .i64 r) ∧ (0 ≤ r ↔ x ∈ l) ∧ Below w.heap.size w w') := hid (by
    go_enter Tryz.func146, Tryz.ntmps146
    go_wp2_with fail
    go_loop [8] (fun i => ∃ j : Nat, j ≤ l.length ∧ i = .int .i64 j ∧ ∀ p, p < j → ¬ l.getD p 0 = x) (fun i => l.length - (intOf i).toNat)
    case atStart => exact ⟨0, Nat.zero_le _, rfl, fun p hp => absurd hp (Nat.not_lt_zero _)⟩
    case round =>
      obtain ⟨j, hj, rfl, hall⟩ := hrel
      have HALL := hid hall
      clear hall
      by_cases hlt : j < l.length
      · have hlti : (j : Int) < (l.length : Int) := by omega
        obtain ⟨gA, cA2, e9, _, _, _, hcA⟩ := H.out.at hlt
        injection e9 with ea en ec
        clear en
        subst ea ec
        have kA := hcA j hlt
        obtain ⟨y, hy⟩ : ∃ y, l.getD j 0 = y := ⟨_, rfl⟩
        rw [hy] at kA
        have HY := hid hy
        clear hy hcA
        by_cases hxy : x = y
        · have hxf : (x == y) = true := by simpa using hxy
          have HIN : Hid (x ∈ l) := hid (by rw [hxy, ← HY.out, List.getD_eq_getElem?_getD, List.getElem?_eq_getElem hlt]; exact List.getElem_mem hlt)
          clear hxy
          go_wp2_with fail
          go_ret
          exact ⟨_, rfl, ⟨fun _ => HIN.out, fun _ => by omega⟩, Below.refl _ _⟩
        · have hxf : (x == y) = false := by simpa using hxy
          have HNE := hid hxy
          clear hxy
          go_wp2_with fail
          go_round
          case rel =>
            refine ⟨j + 1, by omega, by go_num, fun p hp => ?_⟩
            by_cases e : p = j
            · subst e; rw [HY.out]; exact fun h => HNE.out h.symm
            · exact HALL.out p (by omega)
          case measure => simp [intOf]; omega
      · obtain rfl : j = l.length := by omega
        have hge : ¬ ((l.length : Int) < (l.length : Int)) := by omega
        go_wp2_with fail
        go_ret
        refine ⟨_, rfl, ⟨fun h => by omega, fun h => ?_⟩, Below.refl _ _⟩
        obtain ⟨p, hp, e⟩ := List.getElem_of_mem h
        exact absurd (by rw [List.getD_eq_getElem?_getD, List.getElem?_eq_getElem hp]; exact e) (HALL.out p hp))
  go_enter Tryz.func128, Tryz.ntmps128
  go_wp2_with (go_at_call 146; refine HIX.out.mono ?_; rintro e w1 ⟨r, rfl, hr, hb1⟩; have HR := hid hr; have HB := hid hb1; clear hr hb1)
  go_ret
  exact ⟨ret_bool (by rw [Bool.eq_iff_iff, decide_eq_true_iff, decide_eq_true_iff]; exact HR.out), HB.out⟩
end Go.Proofs.YtfndbnbnimhnaaaGreatDoor.C
