import Derived.Test.YtfndbnbnimhnaaaGreatDoorJ41
import Derived.Test.YtfndbnbnimhnaaaGreatDoorJ28
import Derived.Test.YtfndbnbnimhnaaaGreatDoorJ36
import Derived.Test.YtfndbnbnimhnaaaGreatDoorJ40
/-! An instruction of a form, by the program's writer. -/
namespace Go.Proofs.YtfndbnbnimhnaaaGreatDoor.C
open Go.RowKit
set_option maxRecDepth 20000
/-- The table of instructions, below B. -/
structure TabU (B : Nat) (W : World) : Prop where
  lt : 3 < B
  rows : ∀ o : Nat, 1 ≤ o → o ≤ 16 → W.cell? ⟨3, o * 3, none⟩ = some (.int .i64 (useT o))
theorem TabU.wk {B b : Nat} {l : List UInt8} {W V : World} (h : TabU B W) (hw : WrAt B b l W) (hk : Wk B b W V) : TabU B V := by
  have h1 := h.lt
  have h2 := hw.le
  have h3 := hw.lt
  exact ⟨h.lt, fun o o1 o2 => (hk.cell (p := ⟨3, _, none⟩) (by show 3 < _; omega) (by show 3 ≠ _; omega) (.inl h1)).trans (h.rows o o1 o2)⟩
/-- The writer, while a box of another kind lies at xb. -/
structure II (B b xb : Nat) (o : Obj) (l : List UInt8) (W V : World) : Prop where
  wr : WrAt B b l V
  bx : V.heap[xb]? = some o
  ne : xb ≠ b
  nb : NotB V xb
  wk : Wk B b W V
  tab : TabU B V
theorem II.step {B b xb : Nat} {o : Obj} {l l' : List UInt8} {W V U : World} (h : II B b xb o l W V) (hw : WrAt B b l' U) (hk : Wk B b V U) : II B b xb o l' W U :=
  ⟨hw, (hk.block xb (lt_hp h.bx) h.ne (.inr h.nb)).trans h.bx, h.ne, hk.notB (lt_hp h.bx) h.ne h.nb, h.wk.trans hk, h.tab.wk h.wr hk⟩
theorem useT_hasA {o : Nat} (h1 : 1 ≤ o) (h2 : o ≤ 16) : (useT o == 0) = !hasA (o : Int) := by
  obtain rfl | rfl | rfl | rfl | rfl | rfl | rfl | rfl | rfl | rfl | rfl | rfl | rfl | rfl | rfl | rfl : o = 1 ∨ o = 2 ∨ o = 3 ∨ o = 4 ∨ o = 5 ∨ o = 6 ∨ o = 7 ∨ o = 8 ∨ o = 9 ∨ o = 10 ∨ o = 11 ∨ o = 12 ∨ o = 13 ∨ o = 14 ∨ o = 15 ∨ o = 16 := by omega
  all_goals decide
set_option maxHeartbeats 4000000 in
theorem ins_any (B b : Nat) (l : List UInt8) (i : In) (w : World) (h : WrAt B b l w) (hT : TabU B w) (hop : 1 ≤ i.op ∧ i.op ≤ 16) (hl : l.length ≤ 900000000) (ht : i.text.size ≤ 1048576) :
    Calls Tryz.prog 42 #[.pointer (some ⟨b, 0, none⟩), inV i] w fun e w' => e = .returned (.tuple #[]) ∧ WrAt B b (l ++ insF i) w' ∧ Wk B b w w' := by
  have HLO : Hid (Below w.heap.size w (w.alloc (ibox i))) := hid ((Below.refl _ _).alloc (Nat.le_refl _) _)
  have HI1 : Hid (II B b w.heap.size (ibox i) l w (w.alloc (ibox i))) := hid ⟨h.next HLO.out, ibox_new w i, by have := h.lt; omega, NotB.of (ibox_new w i) (by decide), Wk.of_below HLO.out, hT.wk h (Wk.of_below HLO.out)⟩
  obtain ⟨op, a, n, tx⟩ := i
  dsimp only at hop ht
  obtain ⟨o, rfl⟩ : ∃ o : Nat, op = o := ⟨op.toNat, by omega⟩
  have ho1 : 1 ≤ o := by omega
  have ho2 : o ≤ 16 := by omega
  clear h hT hop HLO
  unfold inV
  dsimp only
  go_enter Tryz.func42, Tryz.ntmps42
  go_upto_region 1 with fail
  obtain ⟨W1, hW1⟩ : ∃ W, w.alloc (ibox ⟨(o : Int), a, n, tx⟩) = W := ⟨_, rfl⟩
  obtain ⟨xb, hxb⟩ : ∃ x, w.heap.size = x := ⟨_, rfl⟩
  rw [hW1, hxb] at HI1
  rw [hxb]
  unfold ibox at hW1
  rw [hW1]
  clear hW1 hxb
  obtain ⟨j0, j1, j2, j3⟩ := ix HI1.out.bx
  dsimp only at j0 j1 j2 j3
  go_wp2_with fail
  refine (size_any B b l (o : Int) _ HI1.out.wr (by omega)).mono ?_
  rintro e w2 ⟨rfl, hw2, hk2⟩
  have HI2 := hid (HI1.out.step hw2 hk2)
  have HL2 : Hid ((l ++ nb (uOf (o : Int))).length ≤ 900000010) := hid (by
    have := nb_10 (u64_lt (o : Int))
    rw [List.length_append]
    omega)
  obtain ⟨L2, hL2⟩ : ∃ L, l ++ nb (uOf (o : Int)) = L := ⟨_, rfl⟩
  have HE2 := hid hL2
  rw [hL2] at HI2 HL2
  clear hw2 hk2 hL2 j0 j1 j2 j3 HI1
  obtain ⟨j0, j1, j2, j3⟩ := ix HI2.out.bx
  dsimp only at j0 j1 j2 j3
  have r0 := HI2.out.tab.rows o ho1 ho2
  have hoi : (o : Int) < 17 := by omega
  have hon : o < 17 := by omega
  have hu := useT_hasA ho1 ho2
  obtain ⟨y, hy⟩ : ∃ y, useT o = y := ⟨_, rfl⟩
  rw [hy] at r0 hu
  clear hy
  by_cases hA : hasA (o : Int) = true
  · rw [hA] at hu
    have hu0 : (y == 0) = false := hu
    clear hu
    go_wp2_with fail
    refine (size_any B b L2 a _ HI2.out.wr (by have := HL2.out; omega)).mono ?_
    rintro e w3 ⟨rfl, hw3, hk3⟩
    have HI3 := hid (HI2.out.step hw3 hk3)
    have HL3 : Hid ((L2 ++ nb (uOf a)).length ≤ 900000020) := hid (by
      have := nb_10 (u64_lt a)
      have := HL2.out
      rw [List.length_append]
      omega)
    obtain ⟨L3, hL3⟩ : ∃ L, L2 ++ nb (uOf a) = L := ⟨_, rfl⟩
    have HE3 := hid hL3
    rw [hL3] at HI3 HL3
    clear hw3 hk3 hL3 j0 j1 j2 j3 HI2 HL2 r0 hu0
    obtain ⟨j0, j1, j2, j3⟩ := ix HI3.out.bx
    dsimp only at j0 j1 j2 j3
    by_cases ho : (o : Int) = 1
    · obtain rfl : o = 1 := by omega
      have hA1 : hasA 1 = true := by decide
      by_cases ha : a = 2
      · subst ha
        have HF : Hid (l ++ insF ⟨((1 : Nat) : Int), 2, n, tx⟩ = L3 ++ tb tx) := hid (by rw [← HE3.out, ← HE2.out]; simp [insF, hA1, List.append_assoc])
        clear hA ho hA1
        go_wp2_with fail
        refine (textW_any B b L3 tx _ HI3.out.wr (by have := HL3.out; omega) ht).mono ?_
        rintro e w4 ⟨rfl, hw4, hk4⟩
        have HI4 := hid (HI3.out.step hw4 hk4)
        clear hw4 hk4
        go_wp2
        go_end0
        exact ⟨rfl, by rw [HF.out]; exact HI4.out.wr, HI4.out.wk⟩
      · have hab : (a == 2) = false := by simpa using ha
        have HF : Hid (l ++ insF ⟨((1 : Nat) : Int), a, n, tx⟩ = L3 ++ nb (uOf n)) := hid (by rw [← HE3.out, ← HE2.out]; simp [insF, hA1, ha, List.append_assoc])
        clear hA ho ha hA1
        go_wp2_with fail
        refine (number_int B b L3 (uOf n) _ ?cx _ (u64_lt n) HI3.out.wr (by have := HL3.out; omega)).mono ?_
        case cx => exact (u64_cast n).symm
        rintro e w4 ⟨rfl, hw4, hk4⟩
        have HI4 := hid (HI3.out.step hw4 hk4)
        clear hw4 hk4
        go_wp2
        go_end0
        exact ⟨rfl, by rw [HF.out]; exact HI4.out.wr, HI4.out.wk⟩
    · have hob : ((o : Int) == 1) = false := by simpa using ho
      have HF : Hid (l ++ insF ⟨(o : Int), a, n, tx⟩ = L3) := hid (by rw [← HE3.out, ← HE2.out]; simp [insF, hA, ho, List.append_assoc])
      clear hA ho
      go_wp2
      go_end0
      exact ⟨rfl, by rw [HF.out]; exact HI3.out.wr, HI3.out.wk⟩
  · have hA0 : hasA (o : Int) = false := by simpa using hA
    rw [hA0] at hu
    have hu0 : y = 0 := by simpa using hu
    subst hu0
    have ho : ¬ (o : Int) = 1 := fun e => by rw [e] at hA; exact hA (by decide)
    have hob : ((o : Int) == 1) = false := by simpa using ho
    have HF : Hid (l ++ insF ⟨(o : Int), a, n, tx⟩ = L2) := hid (by rw [← HE2.out]; simp [insF, hA0, ho])
    clear hu hA hA0 ho
    go_wp2
    go_end0
    exact ⟨rfl, by rw [HF.out]; exact HI2.out.wr, HI2.out.wk⟩
end Go.Proofs.YtfndbnbnimhnaaaGreatDoor.C
/-! Which functions are right but for their names and instructions, in the program. -/
namespace Go.Proofs.YtfndbnbnimhnaaaGreatDoor.C
open Go.RowKit
set_option maxRecDepth 20000
structure FnOkR (f : Fn) : Prop where
  few : f.params.length ≤ 8
  result : 0 ≤ f.result ∧ f.result ≤ 10
  slots : (f.params.length : Int) ≤ f.slots ∧ f.slots ≤ 200
  some_ : 1 ≤ f.ins.length ∧ f.ins.length ≤ 50000
  params : ∀ i, i < f.params.length → 1 ≤ f.params.getD i 0 ∧ f.params.getD i 0 ≤ 10
theorem fnOk_iff {fns : List Fn} {k : Nat} : FnOk fns k ↔ Q.NameOk (fns.getD k fn0).name ∧ FnOkR (fns.getD k fn0) ∧ ∀ i, i < k → ¬ (fns.getD i fn0).name = (fns.getD k fn0).name :=
  ⟨fun h => ⟨h.name, ⟨h.few, h.result, h.slots, h.some_, h.params⟩, h.once⟩, fun h => ⟨h.1, h.2.1.few, h.2.1.result, h.2.1.slots, h.2.1.some_, h.2.1.params, h.2.2⟩⟩
set_option maxHeartbeats 8000000 in
theorem fnRight_any {f : Fn} {pv iv : Value} {w : World} (h1 : IntRow w pv f.params) (h2 : InsRow w iv f.ins) :
    Calls Tryz.prog 96 #[.agg #[.string f.name, pv, .int .i64 f.result, .int .i64 f.slots, iv]] w fun e w' => Q.Says e (FnOkR f) ∧ Below w.heap.size w w' := by
  have HP := hid h1
  obtain ⟨aP, cP, rfl⟩ := h1.sl
  obtain ⟨aI, cI, rfl⟩ := h2.sl
  have HLO : Hid (Below w.heap.size w (w.alloc (fbox f (.slice aP f.params.length cP) (.slice aI f.ins.length cI)))) := hid ((Below.refl _ _).alloc (Nat.le_refl _) _)
  obtain ⟨q0, q1, q2, q3, q4⟩ := fx (heap_alloc_new w (fbox f (.slice aP f.params.length cP) (.slice aI f.ins.length cI)))
  clear h1 h2
  go_enter Tryz.func96, Tryz.ntmps96
  go_upto_region 1 with fail
  obtain ⟨W1, hW1⟩ : ∃ W, w.alloc (fbox f (.slice aP f.params.length cP) (.slice aI f.ins.length cI)) = W := ⟨_, rfl⟩
  rw [hW1] at HLO q0 q1 q2 q3 q4
  unfold fbox at hW1
  rw [hW1]
  clear hW1
  by_cases hfew : f.params.length ≤ 8
  · have hfi : ¬ (8 : Int) < (f.params.length : Int) := by omega
    go_wp2_with fail
    go_loop [12] (fun i => ∃ j : Nat, j ≤ f.params.length ∧ i = .int .i64 j ∧ ∀ p, p < j → 1 ≤ f.params.getD p 0 ∧ f.params.getD p 0 ≤ 10) (fun i => f.params.length - (intOf i).toNat)
    case atStart => exact ⟨0, Nat.zero_le _, rfl, fun p hp => absurd hp (Nat.not_lt_zero _)⟩
    case round =>
      obtain ⟨j, hj, rfl, hall⟩ := hrel
      have HALL := hid hall
      clear hall
      by_cases hlt : j < f.params.length
      · have hlti : (j : Int) < (f.params.length : Int) := by omega
        obtain ⟨gg, gc2, e9, _, _, hggl, hgc⟩ := (HP.out.next HLO.out).at (i := j) hlt
        injection e9 with e9 en ec
        clear en
        subst e9 ec
        have n0 := hgc j hlt
        clear hgc
        obtain ⟨y, hy⟩ : ∃ y, f.params.getD j 0 = y := ⟨_, rfl⟩
        rw [hy] at n0
        have HY := hid hy
        clear hy
        by_cases hr : 1 ≤ y ∧ y ≤ 10
        · have hb : (decide (1 ≤ y) && decide (y ≤ 10)) = true := by simp [hr.1, hr.2]
          have HNX : Hid (∀ p, p < j + 1 → 1 ≤ f.params.getD p 0 ∧ f.params.getD p 0 ≤ 10) := hid fun p hp => by
            by_cases e : p = j
            · subst e; rw [HY.out]; exact hr
            · exact HALL.out p (by omega)
          clear hr
          go_wp2_with (go_at_call 118; refine (Q.millIsType_int _ _).mono ?_; rw [hb]; rintro e w' ⟨rfl, hw⟩; have hw2 := hw.symm; clear hw; subst hw2)
          go_round
          case rel => exact ⟨j + 1, by omega, by go_num, HNX.out⟩
          case measure => simp [intOf]; omega
        · have hb : (decide (1 ≤ y) && decide (y ≤ 10)) = false := by
            cases h : (decide (1 ≤ y) && decide (y ≤ 10)) with
            | false => rfl
            | true => simp at h; exact absurd h hr
          have HNR := hid hr
          clear hr
          go_wp2_with (go_at_call 118; refine (Q.millIsType_int _ _).mono ?_; rw [hb]; rintro e w' ⟨rfl, hw⟩; have hw2 := hw.symm; clear hw; subst hw2)
          go_ret
          exact ⟨Q.says_f fun h => HNR.out (by have := h.params j hlt; rw [HY.out] at this; exact this), HLO.out⟩
      · obtain rfl : j = f.params.length := by omega
        have hge : ¬ ((f.params.length : Int) < (f.params.length : Int)) := by omega
        go_upto_region 9 with fail
        obtain ⟨R, hR⟩ : ∃ R, f.result = R := ⟨_, rfl⟩
        have HRE := hid hR
        rw [hR] at q2
        clear hR hge
        by_cases hr : R = 0 ∨ (1 ≤ R ∧ R ≤ 10)
        · have HRR : Hid (0 ≤ R ∧ R ≤ 10) := hid (by omega)
          have hs0 : f.slots = f.slots := rfl
          rcases hr with rfl | hr
          · have hb : (decide (1 ≤ (0 : Int)) && decide ((0 : Int) ≤ 10)) = false := rfl
            by_cases hs1 : (f.params.length : Int) ≤ f.slots
            · by_cases hs2 : f.slots ≤ 200
              · by_cases hi1 : (0 : Int) < (f.ins.length : Int)
                · by_cases hi2 : (f.ins.length : Int) ≤ 50000
                  · go_wp2_with (go_at_call 118; refine (Q.millIsType_int _ _).mono ?_; rw [hb]; rintro e w' ⟨rfl, hw⟩; have hw2 := hw.symm; clear hw; subst hw2)
                    go_ret
                    exact ⟨Q.says_t ⟨hfew, (by rw [HRE.out]; exact HRR.out), ⟨hs1, hs2⟩, ⟨by omega, by omega⟩, HALL.out⟩, HLO.out⟩
                  · go_wp2_with (go_at_call 118; refine (Q.millIsType_int _ _).mono ?_; rw [hb]; rintro e w' ⟨rfl, hw⟩; have hw2 := hw.symm; clear hw; subst hw2)
                    go_ret
                    exact ⟨Q.says_f (fun h => by have h8 := h.slots; have h9 := h.some_; omega), HLO.out⟩
                · go_wp2_with (go_at_call 118; refine (Q.millIsType_int _ _).mono ?_; rw [hb]; rintro e w' ⟨rfl, hw⟩; have hw2 := hw.symm; clear hw; subst hw2)
                  go_ret
                  exact ⟨Q.says_f (fun h => by have h8 := h.slots; have h9 := h.some_; omega), HLO.out⟩
              · go_wp2_with (go_at_call 118; refine (Q.millIsType_int _ _).mono ?_; rw [hb]; rintro e w' ⟨rfl, hw⟩; have hw2 := hw.symm; clear hw; subst hw2)
                go_ret
                exact ⟨Q.says_f (fun h => by have h8 := h.slots; have h9 := h.some_; omega), HLO.out⟩
            · go_wp2_with (go_at_call 118; refine (Q.millIsType_int _ _).mono ?_; rw [hb]; rintro e w' ⟨rfl, hw⟩; have hw2 := hw.symm; clear hw; subst hw2)
              go_ret
              exact ⟨Q.says_f (fun h => by have h8 := h.slots; have h9 := h.some_; omega), HLO.out⟩
          · have hb : (decide (1 ≤ R) && decide (R ≤ 10)) = true := by simp [hr.1, hr.2]
            have hr0 : (R == 0) = false := by simp; omega
            clear hr
            by_cases hs1 : (f.params.length : Int) ≤ f.slots
            · by_cases hs2 : f.slots ≤ 200
              · by_cases hi1 : (0 : Int) < (f.ins.length : Int)
                · by_cases hi2 : (f.ins.length : Int) ≤ 50000
                  · go_wp2_with (go_at_call 118; refine (Q.millIsType_int _ _).mono ?_; rw [hb]; rintro e w' ⟨rfl, hw⟩; have hw2 := hw.symm; clear hw; subst hw2)
                    go_ret
                    exact ⟨Q.says_t ⟨hfew, (by rw [HRE.out]; exact HRR.out), ⟨hs1, hs2⟩, ⟨by omega, by omega⟩, HALL.out⟩, HLO.out⟩
                  · go_wp2_with (go_at_call 118; refine (Q.millIsType_int _ _).mono ?_; rw [hb]; rintro e w' ⟨rfl, hw⟩; have hw2 := hw.symm; clear hw; subst hw2)
                    go_ret
                    exact ⟨⟨decide ((f.ins.length : Int) ≤ 50000), rfl, by rw [decide_eq_true_iff]; exact ⟨fun h => by omega, fun h => by have h9 := h.some_; omega⟩⟩, HLO.out⟩
                · go_wp2_with (go_at_call 118; refine (Q.millIsType_int _ _).mono ?_; rw [hb]; rintro e w' ⟨rfl, hw⟩; have hw2 := hw.symm; clear hw; subst hw2)
                  go_ret
                  exact ⟨Q.says_f (fun h => by have h8 := h.slots; have h9 := h.some_; omega), HLO.out⟩
              · go_wp2_with (go_at_call 118; refine (Q.millIsType_int _ _).mono ?_; rw [hb]; rintro e w' ⟨rfl, hw⟩; have hw2 := hw.symm; clear hw; subst hw2)
                go_ret
                exact ⟨Q.says_f (fun h => by have h8 := h.slots; have h9 := h.some_; omega), HLO.out⟩
            · go_wp2_with (go_at_call 118; refine (Q.millIsType_int _ _).mono ?_; rw [hb]; rintro e w' ⟨rfl, hw⟩; have hw2 := hw.symm; clear hw; subst hw2)
              go_ret
              exact ⟨Q.says_f (fun h => by have h8 := h.slots; have h9 := h.some_; omega), HLO.out⟩
        · have hr0 : (R == 0) = false := by simp; intro h; exact hr (.inl h)
          have hb : (decide (1 ≤ R) && decide (R ≤ 10)) = false := by
            cases h : (decide (1 ≤ R) && decide (R ≤ 10)) with
            | false => rfl
            | true => simp at h; exact absurd (.inr h) hr
          have HNR := hid hr
          clear hr
          go_wp2_with (go_at_call 118; refine (Q.millIsType_int _ _).mono ?_; rw [hb]; rintro e w' ⟨rfl, hw⟩; have hw2 := hw.symm; clear hw; subst hw2)
          go_ret
          exact ⟨Q.says_f fun h => HNR.out (by have := h.result; rw [HRE.out] at this; omega), HLO.out⟩
  · have hfi : (8 : Int) < (f.params.length : Int) := by omega
    go_wp2_with fail
    go_ret
    exact ⟨Q.says_f fun h => hfew h.few, HLO.out⟩
end Go.Proofs.YtfndbnbnimhnaaaGreatDoor.C
/-! Which functions are there, in the program. -/
namespace Go.Proofs.YtfndbnbnimhnaaaGreatDoor.C
open Go.RowKit
set_option maxRecDepth 20000
theorem FnsRow.part {W : World} {ad : Option Addr} {c : Nat} {fns : List Fn} (h : FnsRow W (.slice ad fns.length c) fns) {k : Nat} (hk : k ≤ fns.length) : FnsRow W (.slice ad k c) (fns.take k) := by
  obtain ⟨ad', c', e, h1, h2, h3⟩ := h
  injection e with ea _ ec
  subst ea ec
  have hl : (fns.take k).length = k := by simp; omega
  refine ⟨ad, c, by rw [hl], by omega, h2, ?_⟩
  rcases h3 with h3 | ⟨g, e1, e2, e3⟩
  · left; rw [h3]; simp
  · refine .inr ⟨g, e1, e2, fun i hi => ?_⟩
    have hi2 : i < k := by omega
    have eg : (fns.take k).getD i fn0 = fns.getD i fn0 := by
      rw [List.getD_eq_getElem?_getD, List.getD_eq_getElem?_getD, List.getElem?_take_of_lt hi2]
    rw [eg]
    exact e3 i (by omega)
set_option maxHeartbeats 1000000 in
theorem isMain_any {f : Fn} {aP : Option Addr} {cP : Nat} {iv : Value} (w : World) :
    Calls Tryz.prog 99 #[.agg #[.string f.name, .slice aP f.params.length cP, .int .i64 f.result, .int .i64 f.slots, iv]] w fun e w' => Q.Says e (isMain f) ∧ Below w.heap.size w w' := by
  have HLO : Hid (∀ o, Below w.heap.size w (w.alloc o)) := hid fun o => (Below.refl _ _).alloc (Nat.le_refl _) _
  by_cases hnm : f.name = ⟨#[109, 97, 105, 110]⟩
  · have hnf : (f.name.toList == (⟨#[109, 97, 105, 110]⟩ : ByteArray).toList) = true := str_eq.2 hnm
    have HNM := hid hnm
    rw [hnm]
    clear hnm hnf
    by_cases hp0 : f.params.length = 0
    · have HP0 := hid hp0
      rw [hp0]
      clear hp0
      by_cases hr : f.result = 2
      · rw [hr]
        have HR := hid hr
        clear hr
        go_enter Tryz.func99, Tryz.ntmps99
        go_wp2_with fail
        go_ret
        exact ⟨Q.says_t ⟨HNM.out, HP0.out, HR.out⟩, HLO.out _⟩
      · have HR := hid hr
        have hrf : (f.result == 2) = false := by simpa using hr
        clear hr
        go_enter Tryz.func99, Tryz.ntmps99
        go_wp2_with fail
        go_ret
        exact ⟨Q.says_f fun h => HR.out h.2.2, HLO.out _⟩
    · have HP0 := hid hp0
      have hpf : ((f.params.length : Int) == 0) = false := by simp; intro h; rw [h] at hp0; exact hp0 rfl
      clear hp0
      go_enter Tryz.func99, Tryz.ntmps99
      go_wp2_with fail
      go_ret
      exact ⟨Q.says_f fun h => HP0.out h.2.1, HLO.out _⟩
  · have HNM := hid hnm
    have hnf : ¬ f.name.toList = [109, 97, 105, 110] := fun h => hnm (str_eq.1 (by rw [beq_iff_eq, h, Lib.toList_data]))
    clear hnm
    go_enter Tryz.func99, Tryz.ntmps99
    go_wp2_with fail
    go_ret
    exact ⟨Q.says_f fun h => HNM.out h.1, HLO.out _⟩
def IxEnd (n : Nat) (P : Nat → Prop) (w : World) (e : Ending) (w' : World) : Prop := ∃ r : Int, e = .returned (.int .i64 r) ∧ (0 ≤ r ↔ ∃ j, j < n ∧ P j) ∧ Below w.heap.size w w'
set_option maxHeartbeats 2000000 in
theorem idxMain_any {fns : List Fn} {w : World} {cv : Value} (h1 : FnsRow w cv fns) (hl : fns.length ≤ 60) :
    Calls Tryz.prog 121 #[cv, .func (.func 99) #[] #[]] w (IxEnd fns.length (fun j => isMain (fns.getD j fn0)) w) := by
  have H1 := hid h1
  obtain ⟨aF, cF, rfl⟩ := h1.sl
  clear h1
  go_enter Tryz.func121, Tryz.ntmps121
  go_wp2_with fail
  go_loopw [8] (fun i wr => ∃ j : Nat, j ≤ fns.length ∧ i = .int .i64 j ∧ Below w.heap.size w wr ∧ ∀ p, p < j → ¬ isMain (fns.getD p fn0)) (fun i _ => fns.length - (intOf i).toNat)
  case atStart => exact ⟨0, Nat.zero_le _, rfl, Below.refl _ _, fun p hp => absurd hp (Nat.not_lt_zero _)⟩
  case round =>
    obtain ⟨j, hj, rfl, hlo, hall⟩ := hrel
    have HLO := hid hlo
    have HALL := hid hall
    clear hlo hall
    by_cases hlt : j < fns.length
    · have hlti : (j : Int) < (fns.length : Int) := by omega
      obtain ⟨gF2, cF2, e9, _, pv, iv, n0, n1, n2, n3, n4, hpv, _⟩ := (H1.out.next HLO.out).at hlt
      injection e9 with ea en ec
      clear en
      subst ea ec
      obtain ⟨aP, cP, rfl⟩ := hpv.sl
      obtain ⟨f, hf⟩ : ∃ f, fns.getD j fn0 = f := ⟨_, rfl⟩
      rw [hf] at n0 n1 n2 n3
      have HFE := hid hf
      clear hf hpv
      have HIM := hid (isMain_any (f := f) (aP := aP) (cP := cP) (iv := iv) wr)
      have HNO : Hid (¬ isMain f → ∀ p, p < j + 1 → ¬ isMain (fns.getD p fn0)) := hid fun h p hp => by
        by_cases e : p = j
        · subst e; rw [HFE.out]; exact h
        · exact HALL.out p (by omega)
      by_cases hm : isMain f
      · have HT : Hid (Calls Tryz.prog 99 #[.agg #[.string f.name, .slice aP f.params.length cP, .int .i64 f.result, .int .i64 f.slots, iv]] wr fun e w' => e = .returned (.bool true) ∧ Below wr.heap.size wr w') := hid (HIM.out.mono fun e w' h => ⟨by obtain ⟨⟨x, e1, hx⟩, _⟩ := h; rw [e1, hx.2 hm], h.2⟩)
        have HX := hid hm
        clear hm
        go_wp2_with (go_at_call 99; refine HT.out.mono ?_; rintro e w2 ⟨rfl, hb2⟩; have HB := hid (HLO.out.trans (hb2.mono HLO.out.size)); clear hb2)
        go_ret
        exact ⟨j, rfl, ⟨fun _ => ⟨j, hlt, by show isMain (fns.getD j fn0); rw [HFE.out]; exact HX.out⟩, fun _ => by omega⟩, HB.out⟩
      · have HT : Hid (Calls Tryz.prog 99 #[.agg #[.string f.name, .slice aP f.params.length cP, .int .i64 f.result, .int .i64 f.slots, iv]] wr fun e w' => e = .returned (.bool false) ∧ Below wr.heap.size wr w') := hid (HIM.out.mono fun e w' h => ⟨by obtain ⟨⟨x, e1, hx⟩, _⟩ := h; rw [e1]; cases x with | false => rfl | true => exact absurd (hx.1 rfl) hm, h.2⟩)
        have HX := hid hm
        clear hm
        go_wp2_with (go_at_call 99; refine HT.out.mono ?_; rintro e w2 ⟨rfl, hb2⟩; have HB := hid (HLO.out.trans (hb2.mono HLO.out.size)); clear hb2)
        go_roundw
        case rel => exact ⟨j + 1, by omega, by go_num, HB.out, HNO.out HX.out⟩
        case measure => simp [intOf]; omega
    · obtain rfl : j = fns.length := by omega
      have hge : ¬ ((fns.length : Int) < (fns.length : Int)) := by omega
      go_wp2_with fail
      go_ret
      exact ⟨-1, rfl, ⟨fun h => absurd h (by omega), fun ⟨j, h1, h2⟩ => absurd h2 (HALL.out j h1)⟩, HLO.out⟩
set_option maxHeartbeats 2000000 in
theorem hasMain_any {fns : List Fn} {w : World} {cv : Value} (h1 : FnsRow w cv fns) (hl : fns.length ≤ 60) :
    Calls Tryz.prog 98 #[cv, .func (.func 99) #[] #[]] w fun e w' => Q.Says e (∃ j, j < fns.length ∧ isMain (fns.getD j fn0)) ∧ Below w.heap.size w w' := by
  have H := hid (idxMain_any h1 hl)
  obtain ⟨aF, cF, rfl⟩ := h1.sl
  clear h1
  go_enter Tryz.func98, Tryz.ntmps98
  go_wp2_with (go_at_call 121; refine H.out.mono ?_; rintro e w' ⟨r, rfl, hr, hb⟩; have HR := hid hr; clear hr)
  go_ret
  exact ⟨⟨_, rfl, by rw [← HR.out]; simp⟩, hb⟩
set_option maxHeartbeats 2000000 in
theorem idxName_any {fns : List Fn} {w : World} {cv : Value} {tb : Nat} {s : ByteArray} (h1 : FnsRow w cv fns) (hl : fns.length ≤ 60) (ht : w.cell? ⟨tb, 0, none⟩ = some (.string s)) :
    Calls Tryz.prog 121 #[cv, .func (.func 117) #[] #[.pointer (some ⟨tb, 0, none⟩)]] w (IxEnd fns.length (fun j => (fns.getD j fn0).name = s) w) := by
  have lt := World.block_lt_of_cell? w _ ht
  have HT := hid ht
  have H1 := hid h1
  obtain ⟨aF, cF, rfl⟩ := h1.sl
  clear h1 ht
  go_enter Tryz.func121, Tryz.ntmps121
  go_wp2_with fail
  go_loopw [8] (fun i wr => ∃ j : Nat, j ≤ fns.length ∧ i = .int .i64 j ∧ Below w.heap.size w wr ∧ ∀ p, p < j → ¬ (fns.getD p fn0).name = s) (fun i _ => fns.length - (intOf i).toNat)
  case atStart => exact ⟨0, Nat.zero_le _, rfl, Below.refl _ _, fun p hp => absurd hp (Nat.not_lt_zero _)⟩
  case round =>
    obtain ⟨j, hj, rfl, hlo, hall⟩ := hrel
    have HLO := hid hlo
    have HALL := hid hall
    clear hlo hall
    by_cases hlt : j < fns.length
    · have hlti : (j : Int) < (fns.length : Int) := by omega
      obtain ⟨gF2, cF2, e9, _, pv, iv, n0, n1, n2, n3, n4, hpv, hiv⟩ := (H1.out.next HLO.out).at hlt
      injection e9 with ea en ec
      clear en
      subst ea ec
      obtain ⟨aP, cP, rfl⟩ := hpv.sl
      obtain ⟨aI, cI, rfl⟩ := hiv.sl
      obtain ⟨f, hf⟩ : ∃ f, fns.getD j fn0 = f := ⟨_, rfl⟩
      rw [hf] at n0 n1 n2 n3 n4
      have HFE := hid hf
      clear hf hpv hiv
      have HN := hid (HLO.out.alloc HLO.out.size (.cells #[.string f.name, .slice aP f.params.length cP, .int .i64 f.result, .int .i64 f.slots, .slice aI f.ins.length cI] 57))
      have ht' := (HN.out.cell (p := ⟨tb, 0, none⟩) lt).trans HT.out
      by_cases c1 : f.name = s
      · have HC := hid c1
        have hq : (f.name.toList == s.toList) = true := str_eq.2 c1
        clear c1
        go_wp2
        go_ret
        exact ⟨j, rfl, ⟨fun _ => ⟨j, hlt, by show (fns.getD j fn0).name = s; rw [HFE.out]; exact HC.out⟩, fun _ => by omega⟩, HN.out⟩
      · have HNO : Hid (∀ p, p < j + 1 → ¬ (fns.getD p fn0).name = s) := hid fun p hp => by
          by_cases e : p = j
          · subst e; rw [HFE.out]; exact c1
          · exact HALL.out p (by omega)
        have hq : (f.name.toList == s.toList) = false := by
          cases h : (f.name.toList == s.toList) with
          | false => rfl
          | true => exact absurd (str_eq.1 h) c1
        clear c1
        go_wp2
        go_roundw
        case rel => exact ⟨j + 1, by omega, by go_num, HN.out, HNO.out⟩
        case measure => simp [intOf]; omega
    · obtain rfl : j = fns.length := by omega
      have hge : ¬ ((fns.length : Int) < (fns.length : Int)) := by omega
      go_wp2_with fail
      go_ret
      exact ⟨-1, rfl, ⟨fun h => absurd h (by omega), fun ⟨j, h1, h2⟩ => absurd h2 (HALL.out j h1)⟩, HLO.out⟩
set_option maxHeartbeats 2000000 in
theorem hasName_any {fns : List Fn} {w : World} {cv : Value} {s : ByteArray} (h1 : FnsRow w cv fns) (hl : fns.length ≤ 60) :
    Calls Tryz.prog 95 #[cv, .string s] w fun e w' => Q.Says e (∃ j, j < fns.length ∧ (fns.getD j fn0).name = s) ∧ Below w.heap.size w w' := by
  have HLO : Hid (Below w.heap.size w (w.alloc (.cells #[.string s] 9))) := hid ((Below.refl _ _).alloc (Nat.le_refl _) _)
  have H := hid (idxName_any (h1.next HLO.out) hl (tb := w.heap.size) (s := s) (cell_hp (heap_alloc_new _ _) 0))
  have HC : Hid (Calls Tryz.prog 98 #[cv, .func (.func 117) #[] #[.pointer (some ⟨w.heap.size, 0, none⟩)]] (w.alloc (.cells #[.string s] 9)) fun e w' => Q.Says e (∃ j, j < fns.length ∧ (fns.getD j fn0).name = s) ∧ Below (w.alloc (.cells #[.string s] 9)).heap.size (w.alloc (.cells #[.string s] 9)) w') := hid (by
    obtain ⟨aF, cF, rfl⟩ := h1.sl
    clear h1
    go_enter Tryz.func98, Tryz.ntmps98
    go_wp2_with (go_at_call 121; refine H.out.mono ?_; rintro e w' ⟨r, rfl, hr, hb⟩; have HR := hid hr; clear hr)
    go_ret
    exact ⟨⟨_, rfl, by rw [← HR.out]; simp⟩, hb⟩)
  obtain ⟨aF, cF, rfl⟩ := h1.sl
  clear h1
  go_enter Tryz.func95, Tryz.ntmps95
  go_wp2_with (go_at_call 98; refine HC.out.mono ?_; rintro e w' ⟨⟨x, rfl, hx⟩, hb⟩; have HX := hid hx; clear hx)
  go_ret
  exact ⟨⟨_, rfl, HX.out⟩, HLO.out.trans (hb.mono HLO.out.size)⟩
end Go.Proofs.YtfndbnbnimhnaaaGreatDoor.C
/-! The program's shaper: made, and at work until nothing waits. -/
namespace Go.Proofs.YtfndbnbnimhnaaaGreatDoor.C
open Go.RowKit
set_option maxRecDepth 20000
set_option maxHeartbeats 8000000 in
theorem new_any {fns : List Fn} {q : Nat} {w : World} {cv : Value} (h1 : FnsRow w cv fns) (hE : EnvI w) (hq : q < fns.length) (hF : ∀ g ∈ fns, FnR fns g) :
    Calls Tryz.prog 70 #[.agg #[cv], .int .i64 q] w (NewEnd fns (fns.getD q fn0) w) := by
  have hf : FnR fns (fns.getD q fn0) := hF _ (by rw [List.getD_eq_getElem?_getD, List.getElem?_eq_getElem hq]; exact List.getElem_mem hq)
  have H1 := hid h1
  have HEN := hid hE
  have HF := hid hF
  obtain ⟨gF, cF, rfl, hgF, pv, iv, v0, v1, v2, v3, v4, hpv, hiv⟩ := h1.at hq
  obtain ⟨f, hfe⟩ : ∃ f, fns.getD q fn0 = f := ⟨_, rfl⟩
  rw [hfe] at hf v0 v2 v3 hpv hiv ⊢
  have HR := hid hf
  have HPV := hid hpv
  have HIV := hid hiv
  have hIL : f.ins.length ≤ 50000 := hf.some_.2
  have hI1 : 1 ≤ f.ins.length := hf.some_.1
  obtain ⟨S, hS⟩ : ∃ S : Nat, f.slots = S := ⟨f.slots.toNat, by have := hf.slots; omega⟩
  have HS : Hid (f.S = S) := hid (by unfold Fn.S; omega)
  have hSL : f.params.length ≤ S := by have := hf.slots; omega
  have hS2 : S ≤ 200 := by have := hf.slots; omega
  have HSL := hid hS
  obtain ⟨aP, cP, rfl⟩ := hpv.sl
  obtain ⟨aI, cI, rfl⟩ := hiv.sl
  obtain ⟨i3, hi3, hy0, hy1, hy2⟩ := info_parts lying_info
  have HH3 := hid (And.intro hi3 (And.intro hy0 (And.intro hy1 hy2)))
  have hqi : (q : Int) < (fns.length : Int) := by omega
  clear hi3 hy0 hy1 hF hf hfe hpv hiv h1 hS hE
  go_enter Tryz.func70, Tryz.ntmps70
  go_upto_region 2 with fail
  obtain ⟨t0, t1, hlo, hz⟩ := two w (.cells #[.slice (some ⟨gF, 0, none⟩) fns.length cF] 29) (fbox f (.slice aP f.params.length cP) (.slice aI f.ins.length cI))
  obtain ⟨W2, hW2⟩ : ∃ W, ((w.alloc (.cells #[.slice (some ⟨gF, 0, none⟩) fns.length cF] 29)).alloc (fbox f (.slice aP f.params.length cP) (.slice aI f.ins.length cI))) = W := ⟨_, rfl⟩
  rw [hW2] at t0 t1 hlo hz
  unfold fbox at hW2
  rw [hW2]
  clear hW2
  have T0 := hid t0
  have T1 := hid t1
  have HLO := hid hlo
  have HSG : Hid (SG fns f W2 (.slice (some ⟨gF, 0, none⟩) fns.length cF) (.slice aP f.params.length cP) (.slice aI f.ins.length cI)) := hid ⟨H1.out.next hlo, HPV.out.next hlo, HIV.out.next hlo, HEN.out.next hlo⟩
  obtain ⟨W3, hmk, own3, grw3⟩ := run_make_full (P := Tryz.prog) W2.drew W2.heap.size 182 187 i3 (.agg #[.int .i64 0, .string ⟨#[]⟩, .string ⟨#[]⟩]) 3 Tryz.underlying182 HH3.out.1 HH3.out.2.1 HH3.out.2.2.1 .i64 .i64 f.ins.length (by rw [hy2]; omega) (by unfold maxLen; omega) (Nat.le_refl _)
  have b3 : Below W2.heap.size W2 W3 := (Below.refl W2.heap.size W2).drew.grown grw3 (Nat.le_refl _) (fun q e => by cases e)
  have HB3 := hid b3
  have HLY := hid (LyRow.made own3)
  have HC : Hid (∀ V, Below W2.heap.size W2 V → V.cell? ⟨w.heap.size, 0, none⟩ = some (.slice (some ⟨gF, 0, none⟩) fns.length cF) ∧ V.cell? ⟨w.heap.size + 1, 0, none⟩ = some (.string f.name) ∧ V.cell? ⟨w.heap.size + 1, 1, none⟩ = some (.slice aP f.params.length cP) ∧ V.cell? ⟨w.heap.size + 1, 2, none⟩ = some (.int .i64 f.result) ∧ V.cell? ⟨w.heap.size + 1, 3, none⟩ = some (.int .i64 f.slots) ∧ V.cell? ⟨w.heap.size + 1, 4, none⟩ = some (.slice aI f.ins.length cI)) := hid fun V hV => by
    obtain ⟨a0, a1, a2, a3, a4⟩ := fx (hp_next T1.out hV)
    exact ⟨cx (hp_next T0.out hV), a0, a1, a2, a3, a4⟩
  clear t0 t1 hlo own3 grw3 b3 v0 v1 v2 v3 v4
  go_region_held3 (fun V => V.cell? ⟨w.heap.size, 0, none⟩ = some (.slice (some ⟨gF, 0, none⟩) fns.length cF) ∧ V.cell? ⟨w.heap.size + 1, 0, none⟩ = some (.string f.name) ∧ V.cell? ⟨w.heap.size + 1, 1, none⟩ = some (.slice aP f.params.length cP) ∧ V.cell? ⟨w.heap.size + 1, 2, none⟩ = some (.int .i64 f.result) ∧ V.cell? ⟨w.heap.size + 1, 3, none⟩ = some (.int .i64 f.slots) ∧ V.cell? ⟨w.heap.size + 1, 4, none⟩ = some (.slice aI f.ins.length cI)) (first | (exact HC.out _ (Below.refl _ _).drew) | (exact HC.out _ HB3.out) | (exact HC.out _ (HB3.out.alloc HB3.out.size _)) | go_keep) (first | fail)
  rename_i hHeld
  clear hHeld hmk
  have HLY2 : Hid (LyRow W3 (w.heap.size + 1 + 1) f.ins.length fun _ => bot) := hid (by rw [← hz]; exact HLY.out)
  obtain ⟨ob, hob⟩ : ∃ o, (Obj.cells #[.slice (some ⟨gF, 0, none⟩) fns.length cF, .string f.name, .slice aP f.params.length cP, .int .i64 f.result, .int .i64 f.slots, .slice aI f.ins.length cI, .slice (some ⟨w.heap.size + 1 + 1, 0, none⟩) f.ins.length f.ins.length, .slice none 0 0] 184) = o := ⟨_, rfl⟩
  have HP4 : Hid (SP fns f W2 W3.heap.size (w.heap.size + 1 + 1) (.slice (some ⟨gF, 0, none⟩) fns.length cF) (.slice aP f.params.length cP) (.slice aI f.ins.length cI) (fun _ => bot) [] (.slice none 0 0) (W3.alloc ob)) := hid ⟨HB3.out.alloc HB3.out.size _, by rw [heap_alloc_new, ← hob], HLY2.out.next ((Below.refl _ _).alloc (Nat.le_refl _) _), ⟨rfl, .inl ⟨rfl, rfl⟩⟩, HB3.out.size, by omega, by have := HLY2.out.lt; omega⟩
  have c3 := (HC.out (W3.alloc ob) (HB3.out.alloc HB3.out.size _)).2.2.2.2.1
  rw [HSL.out] at c3
  rw [hob]
  obtain ⟨W4, hW4⟩ : ∃ W, W3.alloc ob = W := ⟨_, rfl⟩
  obtain ⟨b, hb⟩ : ∃ b, W3.heap.size = b := ⟨_, rfl⟩
  rw [hW4, hb] at HP4
  rw [hW4] at c3
  rw [hW4, hb]
  clear hob hW4 hb HLY HLY2 HB3 T0 T1 HH3 hy2
  obtain ⟨i5, hi5, hu0, hu1, hu2⟩ := info_parts u8_info
  have HH5 := hid (And.intro hi5 (And.intro hu0 (And.intro hu1 hu2)))
  have hb5 : i5.bytes = 1 := hu2
  clear hi5 hu0 hu1 hu2
  go_upto_region 4 with (at_make; refine wpList_make_full _ rfl _ _ 39 rfl W4.heap.size 5 i5 (.int .u8 0) 1 Tryz.underlying39 HH5.out.1 HH5.out.2.1 HH5.out.2.2.1 _ _ _ _ S rfl rfl rfl rfl (by rw [hb5]; omega) (by unfold maxLen; omega) (Nat.le_refl _) ?_; intro W5 o5 g5)
  have HN0 := hid (NI.made (l := f.params) o5 g5)
  have c1 := (HC.out W5 (HP4.out.next HN0.out.lo).lo).2.2.1
  clear o5 g5 c3 HH5 hb5
  go_wp2_with fail
  clear c1
  go_loopw [31] (fun ix wr => ∃ j : Nat, j ≤ f.params.length ∧ ix = .int .i64 j ∧ NI f.params S W4 j wr) (fun ix _ => f.params.length - (intOf ix).toNat)
  case atStart => exact ⟨0, Nat.zero_le _, rfl, HN0.out⟩
  case round =>
    clear HN0
    obtain ⟨j, hj, rfl, hni⟩ := hrel
    have HN := hid hni
    clear hni
    by_cases hlt : j < f.params.length
    · have hlti : (j : Int) < (f.params.length : Int) := by omega
      have hltS : (j : Int) < (S : Int) := by omega
      obtain ⟨gg, gc2, e9, _, _, hggl, hgc⟩ := (HSG.out.pr.next (HP4.out.next HN.out.lo).lo).at (i := j) hlt
      injection e9 with e9 en ec
      clear en
      subst e9 ec
      have n0 := hgc j hlt
      clear hgc
      have kA := HN.out.row.cell (show j < S by omega)
      have kF := HN.out.row.frozen j
      have HM := hid HN.out.more
      have hr := HR.out.params (f.params.getD j 0) (by rw [List.getD_eq_getElem?_getD, List.getElem?_eq_getElem hlt]; exact List.getElem_mem hlt)
      obtain ⟨y, hy⟩ : ∃ y, f.params.getD j 0 = y := ⟨_, rfl⟩
      rw [hy] at n0 HM hr
      have hwy : IntKind.u8.wrap y = y := by rw [IntKind.wrap_u8]; omega
      unfold bRow at kA
      rw [if_neg (Nat.lt_irrefl j)] at kA
      clear hy hr
      go_wp2_with fail
      go_roundw
      case rel => exact ⟨j + 1, by omega, by go_num, HM.out⟩
      case measure => simp [intOf]; omega
    · obtain rfl : j = f.params.length := by omega
      have hge : ¬ ((f.params.length : Int) < (f.params.length : Int)) := by omega
      have hcv := HN.out.text HR.out HS.out hSL
      have HP5 := hid (HP4.out.next HN.out.lo)
      have HCM : Hid (Calls Tryz.prog 100 #[.pointer (some ⟨b, 0, none⟩), .int .i64 0, .agg #[.int .i64 1, .string (kt (first f).sl), .string ⟨#[]⟩]] wr (ComeEnd fns f W2 b (w.heap.size + 1 + 1) (.slice (some ⟨gF, 0, none⟩) fns.length cF) (.slice aP f.params.length cP) (.slice aI f.ins.length cI) (fun _ => bot) [] (.slice none 0 0) wr 0 (first f))) := hid (come_any HP5.out (p := 0) (by omega) hIL (.inl rfl) (first_ok HR.out) (by simp [first]) (by rw [HS.out]; exact hS2) List.Pairwise.nil (fun q hq => (nomatch hq)) (Nat.zero_le _))
      obtain ⟨tx, htx⟩ : ∃ t, kt (first f).sl = t := ⟨_, rfl⟩
      rw [htx] at hcv HCM
      clear htx
      go_wp2_with (go_at_call 100; refine HCM.out.mono ?_; rintro e W6 ⟨rfl, _, wv6, _, hcase⟩; have HP6 := hid (come_first hcase); clear hcase)
      clear HCM hcv HP5 HN HP4
      obtain ⟨A1, hA1⟩ : ∃ A, upd (fun _ => bot) 0 (first f) = A := ⟨_, rfl⟩
      have HW1 : Hid (WInv fns f A1 [0]) := hid (by rw [← hA1]; exact WInv.start HR.out)
      rw [hA1] at HP6
      clear hA1
      obtain ⟨T, hT⟩ : ∃ T, tot f.S A1 f.ins.length * (f.ins.length + 1) + 1 = T := ⟨_, rfl⟩
      go_loopg [] T (fun k wr => ∃ (A : Nat → Sh) (wk : List Nat) (wv : Value), SP fns f W2 b (w.heap.size + 1 + 1) (.slice (some ⟨gF, 0, none⟩) fns.length cF) (.slice aP f.params.length cP) (.slice aI f.ins.length cI) A wk wv wr ∧ WInv fns f A wk ∧ tot f.S A f.ins.length * (f.ins.length + 1) + wk.length ≤ k)
      case atStart => exact ⟨A1, [0], wv6, HP6.out, HW1.out, by rw [← hT]; simp⟩
      case round =>
        clear HP6 HW1 hT
        obtain ⟨A, wk, wv, hsp, hwi, hk⟩ := hrel
        have HP := hid hsp
        have HW := hid hwi
        clear hsp hwi
        rcases List.eq_nil_or_concat wk with rfl | ⟨l, x, rfl⟩
        · obtain ⟨adw, cw, hwv⟩ := own_form HP.out.own
          subst hwv
          have m7 : wr.cell? ⟨b, 7, none⟩ = some (.slice adw 0 cw) := (cell_hp HP.out.e 7).trans rfl
          go_wp2_with fail
          go_ret
          exact ⟨W2, b, _, _, _, _, A, _, rfl, HLO.out, HSG.out, HP.out, HW.out.closed, HW.out.low⟩
        · rw [List.concat_eq_append] at HP HW hk
          obtain ⟨g, c, hwv, hx, hc1, hc2, hnx⟩ := HP.out.last
          subst hwv
          have HNX := hid hnx
          obtain ⟨hgi, hxn, hx0⟩ := HW.out.pop HR.out HF.out
          have HGI := hid hgi
          have HX0 := hid hx0
          clear hnx hgi hx0
          have m7 : wr.cell? ⟨b, 7, none⟩ = some (.slice (some ⟨g, 0, none⟩) (l.length + 1) c) := (cell_hp HP.out.e 7).trans rfl
          have f7 := frozen_hp HP.out.e 7
          have hll := desc_len HGI.out.desc (fun q hq => (HGI.out.good q hq).1)
          obtain ⟨m, hm⟩ : ∃ m, l.length = m := ⟨_, rfl⟩
          rw [hm] at hx hc1 m7 hll HNX
          have hpos : (0 : Int) < ((m + 1 : Nat) : Int) := by omega
          have hsub : IntKind.i64.wrap (((m + 1 : Nat) : Int) - 1) = (m : Int) := by rw [IntKind.wrap_i64]; omega
          have hml : (m : Int) < ((m + 1 : Nat) : Int) := by omega
          go_upto_region 11 with fail
          go_quiet (fail)
          go_wp2_with fail
          go_region
          have HP8 := hid (HNX.out (wr.drewN (nq + 1)) (below_drewN (Below.refl _ _) _))
          obtain ⟨W8, hW8⟩ : ∃ W', (wr.drewN (nq + 1)).setCell ⟨b, 7, none⟩ (.slice (some ⟨g, 0, none⟩) m c) = W' := ⟨_, rfl⟩
          rw [hW8] at HP8 ⊢
          have HGO : Hid (Calls Tryz.prog 101 #[.pointer (some ⟨b, 0, none⟩), .int .i64 x] W8 (GoEnd fns f W2 b (w.heap.size + 1 + 1) (.slice (some ⟨gF, 0, none⟩) fns.length cF) (.slice aP f.params.length cP) (.slice aI f.ins.length cI) A l)) := hid (goOn_any HP8.out HSG.out hxn HF.out HR.out HX0.out HGI.out)
          clear hW8 m7 f7 hx hsub hml hpos HNX HP8 HP
          go_wp2_with (go_at_call 101; refine HGO.out.mono ?_; rintro e W9 ⟨rfl, A9, wk9, wv9, hsp9, hwi9, hor9⟩; have HP9 := hid hsp9; have HW9 := hid hwi9; have HOR := hid hor9; clear hsp9 hwi9 hor9)
          go_roundg (tot f.S A9 f.ins.length * (f.ins.length + 1) + wk9.length)
          case measure =>
            have hl9 := desc_len HW9.out.desc (fun q hq => (HW9.out.good q hq).1)
            rw [List.length_append, List.length_singleton] at hk
            rcases HOR.out with ⟨h1, h2⟩ | h1
            · rw [h1, h2]; omega
            · have h3 := Nat.mul_le_mul_right (f.ins.length + 1) (show tot f.S A9 f.ins.length + 1 ≤ tot f.S A f.ins.length from h1)
              rw [Nat.add_mul] at h3
              omega
          case rel => exact ⟨A9, wk9, wv9, HP9.out, HW9.out, Nat.le_refl _⟩
end Go.Proofs.YtfndbnbnimhnaaaGreatDoor.C
