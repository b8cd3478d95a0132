import Derived.Test.YteeiblhjjeognaaGreatDoorJ28
import Derived.Test.YteeiblhjjeognaaGreatDoorJ27
/-! Whether there is a main, in the model. -/
namespace Go.Proofs.YteeiblhjjeognaaGreatDoor.C
open Go.RowKit
set_option maxRecDepth 20000
def MainEnd (fns : List Fn) (w : World) (e : Ending) (w' : World) : Prop := ∃ r : Int, e = .returned (.int .i64 r) ∧ ((r = -1 ∧ ∀ j, j < fns.length → ¬ isMain (fns.getD j fn0)) ∨ ∃ j : Nat, j < fns.length ∧ r = j ∧ isMain (fns.getD j fn0)) ∧ Below w.heap.size w w'
set_option maxHeartbeats 4000000 in
theorem main_any {fns : List Fn} {w : World} {cv : Value} (h1 : FnsRow w cv fns) (hl : fns.length ≤ 60) :
    Calls Tryz.prog 35 #[.agg #[cv]] w (MainEnd fns w) := by
  have H1 := hid h1
  obtain ⟨aF, cF, rfl⟩ := h1.sl
  clear h1
  go_enter Tryz.func35, Tryz.ntmps35
  go_wp2_with fail
  have HLO := hid ((Below.refl w.heap.size w).alloc (Nat.le_refl _) (.cells #[.slice aF fns.length cF] 30))
  have k0 := cx (heap_alloc_new w (.cells #[.slice aF fns.length cF] 30))
  obtain ⟨W1, hW1⟩ : ∃ W, w.alloc (.cells #[.slice aF fns.length cF] 30) = W := ⟨_, rfl⟩
  rw [hW1] at HLO k0 ⊢
  clear hW1
  go_loop [3] (fun i => ∃ j : Nat, j ≤ fns.length ∧ i = .int .i64 j ∧ ∀ p, p < j → ¬ isMain (fns.getD p fn0)) (fun i => fns.length - (intOf i).toNat)
  case atStart => exact ⟨0, Nat.zero_le _, rfl, fun p hp => absurd hp (Nat.not_lt_zero _)⟩
  case round =>
    obtain ⟨j, hj, rfl, hall⟩ := hrel
    have HALL := hid hall
    clear hall
    by_cases hlt : j < fns.length
    · have hlti : (j : Int) < (fns.length : Int) := by omega
      obtain ⟨gF2, cF2, e9, _, pv, iv, n0, n1, n2, n3, n4, hpv, _⟩ := (H1.out.next HLO.out).at hlt
      injection e9 with ea en ec
      clear en
      subst ea ec
      obtain ⟨aP, cP, rfl⟩ := hpv.sl
      obtain ⟨f, hf⟩ : ∃ f, fns.getD j fn0 = f := ⟨_, rfl⟩
      rw [hf] at n0 n1 n2 n3
      have HFE := hid hf
      clear hf hpv
      have HNO : Hid (¬ isMain f → ∀ p, p < j + 1 → ¬ isMain (fns.getD p fn0)) := hid fun h p hp => by
        by_cases e : p = j
        · subst e; rw [HFE.out]; exact h
        · exact HALL.out p (by omega)
      by_cases hnm : f.name = ⟨#[109, 97, 105, 110]⟩
      · have hnf : (f.name.toList == (⟨#[109, 97, 105, 110]⟩ : ByteArray).toList) = true := str_eq.2 hnm
        have HNM := hid hnm
        rw [hnm] at n0
        clear hnm hnf
        by_cases hp0 : f.params.length = 0
        · have HP0 := hid hp0
          rw [hp0] at n1
          clear hp0
          by_cases hr : f.result = 2
          · rw [hr] at n2
            have HR := hid hr
            clear hr
            go_wp2_with fail
            go_ret
            exact ⟨_, rfl, .inr ⟨j, hlt, rfl, by rw [HFE.out]; exact ⟨HNM.out, HP0.out, HR.out⟩⟩, HLO.out⟩
          · have HR := hid hr
            have hrf : (f.result == 2) = false := by simpa using hr
            clear hr
            go_wp2_with fail
            go_round
            case rel => exact ⟨j + 1, by omega, by go_num, HNO.out fun h => HR.out h.2.2⟩
            case measure => simp [intOf]; omega
        · have HP0 := hid hp0
          have hpf : ((f.params.length : Int) == 0) = false := by simp; intro h; rw [h] at hp0; exact hp0 rfl
          clear hp0
          go_wp2_with fail
          go_round
          case rel => exact ⟨j + 1, by omega, by go_num, HNO.out fun h => HP0.out h.2.1⟩
          case measure => simp [intOf]; omega
      · have HNM := hid hnm
        have hnf : ¬ f.name.toList = [109, 97, 105, 110] := fun h => hnm (str_eq.1 (by rw [beq_iff_eq, h, Lib.toList_data]))
        clear hnm
        go_wp2_with fail
        go_round
        case rel => exact ⟨j + 1, by omega, by go_num, HNO.out fun h => HNM.out h.1⟩
        case measure => simp [intOf]; omega
    · obtain rfl : j = fns.length := by omega
      have hge : ¬ ((fns.length : Int) < (fns.length : Int)) := by omega
      go_wp2
      go_ret
      exact ⟨_, rfl, .inl ⟨rfl, HALL.out⟩, HLO.out⟩
end Go.Proofs.YteeiblhjjeognaaGreatDoor.C
/-! Which instructions are right, in the program. -/
namespace Go.Proofs.YteeiblhjjeognaaGreatDoor.C
open Go.RowKit
set_option maxRecDepth 20000
theorem isIns_any (t : Int) (w : World) :
    Calls Tryz.prog 81 #[.int .i64 t] w fun e w' => e = .returned (.bool (decide (1 ≤ t) && decide (t ≤ 16))) ∧ w' = w := by
  go_enter Tryz.func81, Tryz.ntmps81
  go_wp2
  all_goals go_ret
  all_goals exact ⟨ret_bool (by rw [Bool.eq_iff_iff]; simp; try omega), rfl⟩
structure IRX (f : Fn) (i : In) (w : World) (pv iv : Value) (W : World) : Prop where
  lo : Below w.heap.size w W
  e0 : W.heap[w.heap.size]? = some (ibox i)
  e1 : W.heap[w.heap.size + 1]? = some (fbox f pv iv)
theorem IRX.next {f : Fn} {i : In} {w : World} {pv iv : Value} {W V : World} (h : IRX f i w pv iv W) (hb : Below W.heap.size W V) : IRX f i w pv iv V := ⟨h.lo.trans (hb.mono h.lo.size), hp_next h.e0 hb, hp_next h.e1 hb⟩
theorem empty_iff (s : ByteArray) : s.toList.isEmpty = decide (s.size = 0) := by
  by_cases h : s.size = 0
  · rw [Lib.toList_data, V.size_zero h]; rfl
  · rw [V.notEmpty s (by omega)]; simp [h]
set_option maxHeartbeats 8000000 in
theorem insRight_any {fns : List Fn} {f : Fn} {i : In} {aP aI : Option Addr} {cP cI : Nat} {w : World} (hE : EnvI w) (hsl : 0 ≤ f.slots ∧ f.slots ≤ 200) (hl : fns.length ≤ 60) (hil : f.ins.length ≤ 50000) (hn : -9223372036854775808 ≤ i.n ∧ i.n ≤ 9223372036854775807) :
    Calls Tryz.prog 51 #[inV i, .agg #[.string f.name, .slice aP f.params.length cP, .int .i64 f.result, .int .i64 f.slots, .slice aI f.ins.length cI], .int .i64 fns.length] w fun e w' => e = .returned (.bool (insB fns f i)) ∧ Below w.heap.size w w' := by
  have HE := hid hE
  obtain ⟨op, a, n, tx⟩ := i
  dsimp only at hn
  unfold inV
  dsimp only
  obtain ⟨t0, t1, hlo, hz⟩ := two w (ibox ⟨op, a, n, tx⟩) (fbox f (.slice aP f.params.length cP) (.slice aI f.ins.length cI))
  have HX : Hid (IRX f ⟨op, a, n, tx⟩ w (.slice aP f.params.length cP) (.slice aI f.ins.length cI) ((w.alloc (ibox ⟨op, a, n, tx⟩)).alloc (fbox f (.slice aP f.params.length cP) (.slice aI f.ins.length cI)))) := hid ⟨hlo, t0, t1⟩
  clear t0 t1 hlo hz hE
  go_enter Tryz.func51, Tryz.ntmps51
  go_upto_region 1 with fail
  obtain ⟨W1, hW1⟩ : ∃ W, ((w.alloc (ibox ⟨op, a, n, tx⟩)).alloc (fbox f (.slice aP f.params.length cP) (.slice aI f.ins.length cI))) = W := ⟨_, rfl⟩
  rw [hW1] at HX
  unfold ibox fbox at hW1
  rw [hW1]
  clear hW1
  obtain ⟨j0, j1, j2, j3⟩ := ix HX.out.e0
  dsimp only at j0 j1 j2 j3
  by_cases hop : 1 ≤ op ∧ op ≤ 16
  · have hb : (decide (1 ≤ op) && decide (op ≤ 16)) = true := by simp [hop.1, hop.2]
    have HIB : Hid (insB fns f ⟨op, a, n, tx⟩ = (aB fns f op a && (if op = 1 then V.validB a n tx else decide (n = 0) && decide (tx.size = 0)))) := hid (by simp [insB, inB, hop.1, hop.2])
    obtain ⟨o, rfl⟩ : ∃ o : Nat, op = o := ⟨op.toNat, by omega⟩
    obtain ⟨q0, q1, q2, q3, q4⟩ := fx HX.out.e1
    have HEN := hid (fun V (hV : Below W1.heap.size W1 V) => ends_any (fns := fns) (f := f) (aP := aP) (aI := aI) (cP := cP) (cI := cI) (o := o) (HE.out.next (HX.out.next hV).lo) (by omega) (by omega) hsl hl hil)
    clear hop
    go_upto_region 3 with (go_at_call 81; refine (isIns_any _ _).mono ?_; rw [hb]; rintro e w' ⟨rfl, hw⟩; have hw2 := hw.symm; clear hw; subst hw2)
    clear hb
    go_upto_region 4 with (go_at_call 82; refine (HEN.out _ (Below.refl _ _)).mono ?_; rintro e W2 ⟨lo, hi, rfl, hab, hb2⟩; have HAB := hid hab; have HX2 := hid (HX.out.next hb2); clear hab hb2)
    clear j0 j1 j2 j3 q0 q1 q2 q3 q4 HEN HX
    obtain ⟨j0, j1, j2, j3⟩ := ix HX2.out.e0
    dsimp only at j0 j1 j2 j3
    by_cases hlo : a < lo
    · have HF : Hid (insB fns f ⟨(o : Nat), a, n, tx⟩ = false) := hid (by rw [HIB.out, HAB.out]; simp [inB]; intro h; omega)
      go_wp2_with fail
      go_ret
      exact ⟨by rw [HF.out]; rfl, HX2.out.lo⟩
    · by_cases hhi : a > hi
      · have HF : Hid (insB fns f ⟨(o : Nat), a, n, tx⟩ = false) := hid (by rw [HIB.out, HAB.out]; simp [inB]; intro _ h; omega)
        have hhi2 : hi < a := hhi
        go_wp2_with fail
        go_ret
        exact ⟨by rw [HF.out]; rfl, HX2.out.lo⟩
      · have hhi2 : ¬ hi < a := hhi
        have HT : Hid (insB fns f ⟨(o : Nat), a, n, tx⟩ = (if (o : Int) = 1 then V.validB a n tx else decide (n = 0) && decide (tx.size = 0))) := hid (by
          have e : inB a lo hi = true := by simp [inB]; omega
          rw [HIB.out, HAB.out, e, Bool.true_and])
        by_cases h1 : (o : Int) = 1
        · rw [if_pos h1] at HT
          rw [h1] at j0
          have HVV := hid (V.implVV a n tx hn.1 hn.2 W2)
          unfold V.val at HVV
          clear h1
          go_wp2_with (go_at_call 83; refine HVV.out.mono ?_; rintro e W3 ⟨rfl, hb3⟩; have HB3 := hid (HX2.out.next hb3).lo; clear hb3)
          go_ret
          exact ⟨by rw [HT.out]; rfl, HB3.out⟩
        · rw [if_neg h1] at HT
          have h1b : ((o : Int) == 1) = false := by simpa using h1
          clear h1
          by_cases hn0 : n = 0
          · subst hn0
            have HT2 : Hid (insB fns f ⟨(o : Nat), a, 0, tx⟩ = tx.toList.isEmpty) := hid (by rw [HT.out, empty_iff]; simp)
            go_wp2_with fail
            go_ret
            exact ⟨by rw [HT2.out]; rfl, HX2.out.lo⟩
          · have hnb : (n == 0) = false := by simpa using hn0
            have HF : Hid (decide (n = 0) = false) := hid (by simpa using hn0)
            clear hn0
            go_wp2_with fail
            go_ret
            exact ⟨by rw [HT.out, HF.out]; rfl, HX2.out.lo⟩
  · have hb : (decide (1 ≤ op) && decide (op ≤ 16)) = false := by
      cases h : (decide (1 ≤ op) && decide (op ≤ 16)) with
      | false => rfl
      | true => simp at h; exact absurd h hop
    have HF : Hid (insB fns f ⟨op, a, n, tx⟩ = false) := hid (by simp [insB, inB, hb])
    clear hop
    go_wp2_with (go_at_call 81; refine (isIns_any _ _).mono ?_; rw [hb]; rintro e w' ⟨rfl, hw⟩; have hw2 := hw.symm; clear hw; subst hw2)
    go_ret
    exact ⟨by rw [HF.out]; rfl, HX.out.lo⟩
end Go.Proofs.YteeiblhjjeognaaGreatDoor.C
