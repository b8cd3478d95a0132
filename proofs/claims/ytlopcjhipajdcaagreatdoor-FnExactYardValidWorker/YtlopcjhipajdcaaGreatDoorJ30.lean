import Derived.Deep.DeepCutAuto
import Derived.Test.YtlopcjhipajdcaaGreatDoorJ10
import Derived.Test.YtlopcjhipajdcaaGreatDoorJ06
/-! What could be one of orders, by the model. -/
namespace Go.Proofs.YtlopcjhipajdcaaGreatDoor.Y
open Go.RowKit R
open Go.Proofs.YtlopcjhipajdcaaGreatDoor.J (FileOk BegOk RepOk ltB Says says_t says_f l15Path_any l15Prefix_any all_step)
set_option maxRecDepth 20000
set_option maxHeartbeats 1000000 in
theorem l19At_none (s : ByteArray) (w : World) : Calls Tryz.prog 97 #[.slice none 0 0, .string s] w fun e w' => e = .returned (.int .i64 (-1)) ∧ w' = w := by
  go_enter Tryz.func97, Tryz.ntmps97
  go_wp2
  go_loopw [5] (fun i wr => i = .int .i64 0 ∧ wr = w) (fun _ _ => 0)
  case atStart => exact ⟨rfl, rfl⟩
  case round =>
    obtain ⟨rfl, rfl⟩ := hrel
    go_wp2
    go_ret
    exact ⟨rfl, rfl⟩
/-- What the model asks of a target with an empty place. -/
def FitsOk (t : Tg) : Prop := (FileOk t.name ∧ FileOk t.tool ∧ t.arg.size ≤ 3000 ∧ t.outs.length ≤ 20) ∧ FilesT t.ins ∧ FilesT t.outs
set_option maxHeartbeats 8000000 in
theorem l20Fits_any (t : Tg) {v0 v1 : Value} (w : World) (ht : SmTg t) (k0 : SStrA w v0 t.ins) (k1 : SStrA w v1 t.outs) :
    Calls Tryz.prog 78 #[.agg #[.slice none 0 0], .agg #[.string t.name, .string t.tool, .string t.arg, v0, v1]] w fun e w' => Says e (FitsOk t) ∧ Below w.heap.size w w' := by
  obtain ⟨s0, s1, s2, ⟨hi, hi2⟩, ho, ho2⟩ := ht
  have HI := hid hi2
  have HO := hid ho2
  have K0 := hid k0
  have K1 := hid k1
  obtain ⟨ad0, cp0, rfl⟩ := k0.sl
  obtain ⟨ad1, cp1, rfl⟩ := k1.sl
  clear k0 k1 hi2 ho2
  have HM : Hid (∀ n : Nat, n ≤ 1048576 → n ≤ maxLen) := fun n h => by unfold maxLen; omega
  have HB0 := hid (B2.start w (.cells #[.slice none 0 0] 110) (.cells #[.string t.name, .string t.tool, .string t.arg, .slice ad0 t.ins.length cp0, .slice ad1 t.outs.length cp1] 35))
  obtain ⟨W0, hW0⟩ : ∃ W, (w.alloc (.cells #[.slice none 0 0] 110)).alloc (.cells #[.string t.name, .string t.tool, .string t.arg, .slice ad0 t.ins.length cp0, .slice ad1 t.outs.length cp1] 35) = W := ⟨_, rfl⟩
  rw [hW0] at HB0
  have z0 : W0.cell? ⟨w.heap.size, 0, none⟩ = some (.slice none 0 0) := row_cell HB0.out.e 0
  have a0 : W0.cell? ⟨w.heap.size + 1, 0, none⟩ = some (.string t.name) := row_cell HB0.out.f 0
  have a1 : W0.cell? ⟨w.heap.size + 1, 1, none⟩ = some (.string t.tool) := row_cell HB0.out.f 1
  have a2 : W0.cell? ⟨w.heap.size + 1, 2, none⟩ = some (.string t.arg) := row_cell HB0.out.f 2
  have a3 : W0.cell? ⟨w.heap.size + 1, 3, none⟩ = some (.slice ad0 t.ins.length cp0) := row_cell HB0.out.f 3
  have a4 : W0.cell? ⟨w.heap.size + 1, 4, none⟩ = some (.slice ad1 t.outs.length cp1) := row_cell HB0.out.f 4
  by_cases c0 : ¬ FileOk t.name
  · have C0 := hid c0
    clear c0
    go_enter Tryz.func78, Tryz.ntmps78
    go_upto_region 1 with fail
    clear hW0
    go_wp2_with fail
    refine (l15Path_any t.name _ (HM.out _ s0)).mono ?_
    rintro e W1 ⟨hs, rfl⟩
    have hq := hs.neg C0.out
    obtain rfl := hq
    clear hs
    go_wp2
    go_ret
    exact ⟨says_f fun h => C0.out h.1.1, HB0.out.lo⟩
  have C0 := hid (Classical.not_not.1 c0)
  clear c0
  by_cases c1 : ¬ FileOk t.tool
  · have C1 := hid c1
    clear c1
    go_enter Tryz.func78, Tryz.ntmps78
    go_upto_region 1 with fail
    clear hW0
    go_wp2_with fail
    refine (l15Path_any t.name _ (HM.out _ s0)).mono ?_
    rintro e W1 ⟨hs, rfl⟩
    have hq := hs.pos C0.out
    obtain rfl := hq
    clear hs
    go_wp2_with fail
    refine (l15Path_any t.tool _ (HM.out _ s1)).mono ?_
    rintro e W2 ⟨hs, rfl⟩
    have hq := hs.neg C1.out
    obtain rfl := hq
    clear hs
    go_wp2
    go_ret
    exact ⟨says_f fun h => C1.out h.1.2.1, HB0.out.lo⟩
  have C1 := hid (Classical.not_not.1 c1)
  clear c1
  go_enter Tryz.func78, Tryz.ntmps78
  go_upto_region 1 with fail
  clear hW0
  go_wp2_with fail
  refine (l15Path_any t.name _ (HM.out _ s0)).mono ?_
  rintro e W1 ⟨hs, rfl⟩
  have hq := hs.pos C0.out
  obtain rfl := hq
  clear hs
  go_wp2_with fail
  refine (l15Path_any t.tool _ (HM.out _ s1)).mono ?_
  rintro e W2 ⟨hs, rfl⟩
  have hq := hs.pos C1.out
  obtain rfl := hq
  clear hs
  by_cases c2 : ¬ t.arg.size ≤ 3000
  · go_wp2
    go_ret
    exact ⟨says_f fun h => by have := h.1.2.2.1; omega, HB0.out.lo⟩
  have c2 := Classical.not_not.1 c2
  by_cases c3 : ¬ t.outs.length ≤ 20
  · go_wp2
    go_ret
    exact ⟨says_f fun h => by have := h.1.2.2.2; omega, HB0.out.lo⟩
  have c3 := Classical.not_not.1 c3
  go_wp2
  go_loopw [5] (fun i wr => ∃ j : Nat, j ≤ t.ins.length ∧ i = .int .i64 j ∧ (∀ i, i < j → FileOk (t.ins.getD i ⟨#[]⟩)) ∧ wr = W2) (fun i _ => t.ins.length - (intOf i).toNat)
  case atStart => exact ⟨0, Nat.zero_le _, rfl, fun i h => absurd h (Nat.not_lt_zero _), rfl⟩
  case round =>
    obtain ⟨j, hj, rfl, hr, rfl⟩ := hrel
    have HR := hid hr
    clear hr
    by_cases hlt : j < t.ins.length
    · obtain ⟨a, c, e9, hal, c0⟩ := (K0.out.next HB0.out.lo).at hlt
      injection e9 with ea en ec
      subst ea ec
      clear en
      have hsz := HI.out j hlt
      have NX : Hid (FileOk (t.ins.getD j ⟨#[]⟩) → ∀ i, i < j + 1 → FileOk (t.ins.getD i ⟨#[]⟩)) := fun h => all_step HR.out h
      have NO : Hid (¬ FileOk (t.ins.getD j ⟨#[]⟩) → ¬ FitsOk t) := fun h h2 => h (h2.2.1 j hlt)
      obtain ⟨x, hx⟩ : ∃ x, t.ins.getD j ⟨#[]⟩ = x := ⟨_, rfl⟩
      rw [hx] at c0 hsz NX NO
      clear hx
      unfold StrA at c0
      go_wp2_with fail
      refine (l15Path_any x _ (HM.out _ hsz)).mono ?_
      rintro e W3 ⟨hs, rfl⟩
      by_cases hP : FileOk x
      · have hq := hs.pos hP
        obtain rfl := hq
        clear hs
        have N2 := hid (NX.out hP)
        go_wp2
        go_roundw
        case rel => exact ⟨j + 1, by omega, by go_num, N2.out, by trivial⟩
        case measure => simp [intOf]; omega
      · have hq := hs.neg hP
        obtain rfl := hq
        clear hs
        have N2 := hid (NO.out hP)
        go_wp2
        go_ret
        exact ⟨says_f N2.out, HB0.out.lo⟩
    · obtain rfl : j = t.ins.length := by omega
      have HI2 : Hid (FilesT t.ins) := HR.out
      go_wp2
      clear a0 a1 a2 a3
      go_loopw [6] (fun i wr => ∃ k : Nat, k ≤ t.outs.length ∧ i = .int .i64 k ∧ (∀ i, i < k → FileOk (t.outs.getD i ⟨#[]⟩)) ∧ B2 w (.cells #[.slice none 0 0] 110) (.cells #[.string t.name, .string t.tool, .string t.arg, .slice ad0 t.ins.length cp0, .slice ad1 t.outs.length cp1] 35) wr) (fun i _ => t.outs.length - (intOf i).toNat)
      case atStart => exact ⟨0, Nat.zero_le _, rfl, fun i h => absurd h (Nat.not_lt_zero _), HB0.out⟩
      case round =>
        clear a4 z0
        obtain ⟨k, hk, rfl, hr, hbw⟩ := hrel
        have HBW := hid hbw
        have HR2 := hid hr
        clear hr hbw
        have a4 : wr.cell? ⟨w.heap.size + 1, 4, none⟩ = some (.slice ad1 t.outs.length cp1) := row_cell HBW.out.f 4
        have z0 : wr.cell? ⟨w.heap.size, 0, none⟩ = some (.slice none 0 0) := row_cell HBW.out.e 0
        by_cases hlt : k < t.outs.length
        · obtain ⟨a, c, e9, hal, c0⟩ := (K1.out.next HBW.out.lo).at hlt
          injection e9 with ea en ec
          subst ea ec
          clear en
          have hsz := HO.out k hlt
          have NX : Hid (FileOk (t.outs.getD k ⟨#[]⟩) → ∀ i, i < k + 1 → FileOk (t.outs.getD i ⟨#[]⟩)) := fun h => all_step HR2.out h
          have NO : Hid (¬ FileOk (t.outs.getD k ⟨#[]⟩) → ¬ FitsOk t) := fun h h2 => h (h2.2.2 k hlt)
          obtain ⟨x, hx⟩ : ∃ x, t.outs.getD k ⟨#[]⟩ = x := ⟨_, rfl⟩
          rw [hx] at c0 hsz NX NO
          clear hx
          unfold StrA at c0
          by_cases hP : FileOk x
          · have N2 := hid (NX.out hP)
            have HP := hid hP
            clear hP
            go_wp2_with fail
            go_quiet (first | (go_at_call 49; refine Calls.quiet_of_same (v := .bool true) ?_; refine (l15Path_any x _ (HM.out _ hsz)).mono ?_; rintro e w3 ⟨hs3, hb3⟩; exact ⟨hs3.pos HP.out, hb3⟩) | (go_at_call 97; exact Calls.quiet_of_same (l19At_none x _)))
            go_wp2
            go_roundw
            case rel => exact ⟨k + 1, by omega, by go_num, N2.out, HBW.out.next (below_drewN (Below.refl _ _) nq)⟩
            case measure => simp [intOf]; omega
          · have N2 := hid (NO.out hP)
            have HP := hid hP
            clear hP
            go_wp2_with fail
            go_quiet (first | (go_at_call 49; refine Calls.quiet_of_same (v := .bool false) ?_; refine (l15Path_any x _ (HM.out _ hsz)).mono ?_; rintro e w3 ⟨hs3, hb3⟩; exact ⟨hs3.neg HP.out, hb3⟩) | (go_at_call 97; exact Calls.quiet_of_same (l19At_none x _)))
            go_wp2
            go_ret
            exact ⟨says_f N2.out, (HBW.out.next (below_drewN (Below.refl _ _) nq)).lo⟩
        · obtain rfl : k = t.outs.length := by omega
          go_wp2
          go_ret
          exact ⟨says_t ⟨⟨C0.out, C1.out, c2, c3⟩, HI2.out, HR2.out⟩, HBW.out.lo⟩
end Go.Proofs.YtlopcjhipajdcaaGreatDoor.Y
