import Derived.Laws.StructEq
import Derived.Deep.DeepCutAuto
import Derived.Test.YtlopcjhipajdcaaGreatDoorJ12
import Derived.Test.YtlopcjhipajdcaaGreatDoorJ09
import Derived.Test.YtlopcjhipajdcaaGreatDoorJ10
/-! Sameness. -/
namespace Go.Proofs.YtlopcjhipajdcaaGreatDoor.R
open Go.RowKit
set_option maxRecDepth 20000
set_option maxHeartbeats 4000000 in
theorem eqFl_same (x : Fl) (w : World) :
    Calls Tryz.prog 94 #[.agg #[.string x.name, .string x.text], .agg #[.string x.name, .string x.text]] w fun e w' => e = .returned (.bool true) ∧ Below w.heap.size w w' := by
  have e0 : (x.name.toList != x.name.toList) = false := by simp
  have e1 : (x.text.toList != x.text.toList) = false := by simp
  have HB0 := hid (B2.start w (.cells #[.string x.name, .string x.text] 114) (.cells #[.string x.name, .string x.text] 114))
  go_enter Tryz.func94, Tryz.ntmps94
  go_wp2
  go_ret
  exact ⟨rfl, HB0.out.lo⟩
end Go.Proofs.YtlopcjhipajdcaaGreatDoor.R
/-! slices.Equal, where one is nothing, or both are one. -/
namespace Go.Proofs.YtlopcjhipajdcaaGreatDoor.Y
open Go.RowKit R
open Go.Proofs.YtlopcjhipajdcaaGreatDoor.J (Says says_t says_f)
set_option maxRecDepth 20000
set_option maxHeartbeats 2000000 in
theorem equalStr_r (l : List ByteArray) {u : Value} (w : World) (hl : l.length ≤ 1048576) (k0 : SStrA w u l) :
    Calls Tryz.prog 82 #[u, .slice none 0 0] w fun e w' => Says e (l = []) ∧ w' = w := by
  obtain ⟨ad, cp, rfl⟩ := k0.sl
  clear k0
  by_cases h0 : l = []
  · subst h0
    go_enter Tryz.func82, Tryz.ntmps82
    go_wp2
    go_loopw [5, 13] (fun _ i wr => i = .int .i64 0 ∧ wr = w) (fun _ _ _ => 0)
    case atStart => exact ⟨rfl, rfl⟩
    case round =>
      obtain ⟨rfl, rfl⟩ := hrel
      go_wp2
      go_ret
      exact ⟨says_t trivial, rfl⟩
  · have hn : l.length ≠ 0 := fun h => h0 (List.eq_nil_of_length_eq_zero h)
    have hne : ((l.length : Int) != 0) = true := by simp; omega
    have hne2 : ((0 : Int) != (l.length : Int)) = true := by simp; omega
    go_enter Tryz.func82, Tryz.ntmps82
    go_wp2
    go_ret
    exact ⟨says_f h0, rfl⟩
set_option maxHeartbeats 2000000 in
theorem equalStr_l (l : List ByteArray) {u : Value} (w : World) (hl : l.length ≤ 1048576) (k0 : SStrA w u l) :
    Calls Tryz.prog 82 #[.slice none 0 0, u] w fun e w' => Says e (l = []) ∧ w' = w := by
  obtain ⟨ad, cp, rfl⟩ := k0.sl
  clear k0
  by_cases h0 : l = []
  · subst h0
    go_enter Tryz.func82, Tryz.ntmps82
    go_wp2
    go_loopw [5, 13] (fun _ i wr => i = .int .i64 0 ∧ wr = w) (fun _ _ _ => 0)
    case atStart => exact ⟨rfl, rfl⟩
    case round =>
      obtain ⟨rfl, rfl⟩ := hrel
      go_wp2
      go_ret
      exact ⟨says_t trivial, rfl⟩
  · have hn : l.length ≠ 0 := fun h => h0 (List.eq_nil_of_length_eq_zero h)
    have hne : ((l.length : Int) != 0) = true := by simp; omega
    have hne2 : ((0 : Int) != (l.length : Int)) = true := by simp; omega
    go_enter Tryz.func82, Tryz.ntmps82
    go_wp2
    go_ret
    exact ⟨says_f h0, rfl⟩
set_option maxHeartbeats 2000000 in
theorem equalFl_r (l : List Fl) {u : Value} (w : World) (hl : l.length ≤ 1048576) (k0 : SFlA w u l) :
    Calls Tryz.prog 83 #[u, .slice none 0 0] w fun e w' => Says e (l = []) ∧ w' = w := by
  obtain ⟨ad, cp, rfl⟩ := k0.sl
  clear k0
  by_cases h0 : l = []
  · subst h0
    go_enter Tryz.func83, Tryz.ntmps83
    go_wp2
    go_loopw [5, 13] (fun _ i wr => i = .int .i64 0 ∧ wr = w) (fun _ _ _ => 0)
    case atStart => exact ⟨rfl, rfl⟩
    case round =>
      obtain ⟨rfl, rfl⟩ := hrel
      go_wp2
      go_ret
      exact ⟨says_t trivial, rfl⟩
  · have hn : l.length ≠ 0 := fun h => h0 (List.eq_nil_of_length_eq_zero h)
    have hne : ((l.length : Int) != 0) = true := by simp; omega
    have hne2 : ((0 : Int) != (l.length : Int)) = true := by simp; omega
    go_enter Tryz.func83, Tryz.ntmps83
    go_wp2
    go_ret
    exact ⟨says_f h0, rfl⟩
set_option maxHeartbeats 2000000 in
theorem equalFl_l (l : List Fl) {u : Value} (w : World) (hl : l.length ≤ 1048576) (k0 : SFlA w u l) :
    Calls Tryz.prog 83 #[.slice none 0 0, u] w fun e w' => Says e (l = []) ∧ w' = w := by
  obtain ⟨ad, cp, rfl⟩ := k0.sl
  clear k0
  by_cases h0 : l = []
  · subst h0
    go_enter Tryz.func83, Tryz.ntmps83
    go_wp2
    go_loopw [5, 13] (fun _ i wr => i = .int .i64 0 ∧ wr = w) (fun _ _ _ => 0)
    case atStart => exact ⟨rfl, rfl⟩
    case round =>
      obtain ⟨rfl, rfl⟩ := hrel
      go_wp2
      go_ret
      exact ⟨says_t trivial, rfl⟩
  · have hn : l.length ≠ 0 := fun h => h0 (List.eq_nil_of_length_eq_zero h)
    have hne : ((l.length : Int) != 0) = true := by simp; omega
    have hne2 : ((0 : Int) != (l.length : Int)) = true := by simp; omega
    go_enter Tryz.func83, Tryz.ntmps83
    go_wp2
    go_ret
    exact ⟨says_f h0, rfl⟩
set_option maxHeartbeats 2000000 in
theorem equalSn_r (l : List Sn) {u : Value} (w : World) (hl : l.length ≤ 1048576) (k0 : SSnA w u l) :
    Calls Tryz.prog 55 #[u, .slice none 0 0] w fun e w' => Says e (l = []) ∧ w' = w := by
  obtain ⟨ad, cp, rfl⟩ := k0.sl
  clear k0
  by_cases h0 : l = []
  · subst h0
    go_enter Tryz.func55, Tryz.ntmps55
    go_wp2
    go_loopw [5, 13] (fun _ i wr => i = .int .i64 0 ∧ wr = w) (fun _ _ _ => 0)
    case atStart => exact ⟨rfl, rfl⟩
    case round =>
      obtain ⟨rfl, rfl⟩ := hrel
      go_wp2
      go_ret
      exact ⟨says_t trivial, rfl⟩
  · have hn : l.length ≠ 0 := fun h => h0 (List.eq_nil_of_length_eq_zero h)
    have hne : ((l.length : Int) != 0) = true := by simp; omega
    have hne2 : ((0 : Int) != (l.length : Int)) = true := by simp; omega
    go_enter Tryz.func55, Tryz.ntmps55
    go_wp2
    go_ret
    exact ⟨says_f h0, rfl⟩
/-- A reply is what it is. -/
theorem eqR1 (d : Nat) (c : Int) (t : ByteArray) (w : World) : (Op.equalIn (d + 2) 86 (.agg #[.int .i64 c, .string t]) (.agg #[.int .i64 c, .string t])).run Tryz.prog w = .ok true w := by
  have u3 := Tryz.underlying3
  have u9 := Tryz.underlying9
  rw [run_equalIn_agg w (d + 1) 86 _ _ (by kernel_rfl) (by kernel_rfl)]
  simp only [Program.fieldsOf, Tryz.underlying86]
  go_simp
/-- A look is what it is. -/
theorem eqS1 (k c : Int) (n t : ByteArray) (w : World) : (Op.equalIn 10000 88 (.agg #[.int .i64 k, .string n, .int .i64 c, .string t]) (.agg #[.int .i64 k, .string n, .int .i64 c, .string t])).run Tryz.prog w = .ok true w := by
  have u3 := Tryz.underlying3
  have u9 := Tryz.underlying9
  have hr := fun w => eqR1 9997 c t w
  rw [show (10000 : Nat) = 9999 + 1 from rfl, run_equalIn_agg w 9999 88 _ _ (by kernel_rfl) (by kernel_rfl)]
  simp only [Program.fieldsOf, Tryz.underlying88]
  go_simp
theorem neqS1 (k c : Int) (n t : ByteArray) (w : World) : (binOp .neq 88 (.agg #[.int .i64 k, .string n, .int .i64 c, .string t]) (.agg #[.int .i64 k, .string n, .int .i64 c, .string t])).run Tryz.prog w = .ok (.bool false) w := by
  rw [run_neq_struct, eqS1]; rfl
set_option maxHeartbeats 2000000 in
/-- Looks are what they are. -/
theorem equalSn_same (l : List Sn) {u v : Value} (w : World) (hl : l.length ≤ 1048576) (k0 : SSnA w u l) (k1 : SSnA w v l) :
    Calls Tryz.prog 55 #[u, v] w fun e w' => e = .returned (.bool true) ∧ Below w.heap.size w w' := by
  have H1 := hid k0
  have H2 := hid k1
  obtain ⟨ad, cp, rfl⟩ := k0.sl
  obtain ⟨ae, cq, rfl⟩ := k1.sl
  clear k0 k1
  have hne : ((l.length : Int) != (l.length : Int)) = false := by simp
  go_enter Tryz.func55, Tryz.ntmps55
  go_wp2
  go_loopw [5, 13] (fun _ i wr => ∃ j : Nat, j ≤ l.length ∧ i = .int .i64 j ∧ Below w.heap.size w wr) (fun _ i _ => l.length - (intOf i).toNat)
  case atStart => exact ⟨0, Nat.zero_le _, rfl, Below.refl _ _⟩
  case round =>
    obtain ⟨j, hj, rfl, hbw⟩ := hrel
    have HBW := hid hbw
    clear hbw
    by_cases hlt : j < l.length
    · obtain ⟨a, c, e9, hal, c0, c1, c2, c3⟩ := (H1.out.next HBW.out).at hlt
      injection e9 with ea en ec
      subst ea ec
      obtain ⟨b, d, e8, hbl, d0, d1, d2, d3⟩ := (H2.out.next HBW.out).at hlt
      injection e8 with eb en2 ed
      subst eb ed
      clear en en2
      obtain ⟨x, hx⟩ : ∃ x, l.getD j sn0 = x := ⟨_, rfl⟩
      rw [hx] at c0 c1 c2 c3 d0 d1 d2 d3
      clear hx
      have h5 := fun w => neqS1 x.kind x.reply.code x.name x.reply.text w
      go_wp2_with fail
      go_quiet (fail)
      go_wp2
      go_roundw
      case rel => exact ⟨j + 1, by omega, by go_num, below_drewN HBW.out nq⟩
      case measure => simp [intOf]; omega
    · obtain rfl : j = l.length := by omega
      go_wp2
      go_ret
      exact ⟨rfl, HBW.out⟩
end Go.Proofs.YtlopcjhipajdcaaGreatDoor.Y
/-! What could be one of orders, by the model. -/
namespace Go.Proofs.YtlopcjhipajdcaaGreatDoor.Y
open Go.RowKit R
open Go.Proofs.YtlopcjhipajdcaaGreatDoor.J (FileOk BegOk RepOk ltB Says says_t says_f l15Path_any l15Prefix_any all_step)
set_option maxRecDepth 20000
set_option maxHeartbeats 1000000 in
theorem l19At_none (s : ByteArray) (w : World) : Calls Tryz.prog 97 #[.slice none 0 0, .string s] w fun e w' => e = .returned (.int .i64 (-1)) ∧ w' = w := by
  go_enter Tryz.func97, Tryz.ntmps97
  go_wp2
  go_loopw [5] (fun i wr => i = .int .i64 0 ∧ wr = w) (fun _ _ => 0)
  case atStart => exact ⟨rfl, rfl⟩
  case round =>
    obtain ⟨rfl, rfl⟩ := hrel
    go_wp2
    go_ret
    exact ⟨rfl, rfl⟩
/-- What the model asks of a target with an empty place. -/
def FitsOk (t : Tg) : Prop := (FileOk t.name ∧ FileOk t.tool ∧ t.arg.size ≤ 3000 ∧ t.outs.length ≤ 20) ∧ FilesT t.ins ∧ FilesT t.outs
set_option maxHeartbeats 8000000 in
theorem l20Fits_any (t : Tg) {v0 v1 : Value} (w : World) (ht : SmTg t) (k0 : SStrA w v0 t.ins) (k1 : SStrA w v1 t.outs) :
    Calls Tryz.prog 78 #[.agg #[.slice none 0 0], .agg #[.string t.name, .string t.tool, .string t.arg, v0, v1]] w fun e w' => Says e (FitsOk t) ∧ Below w.heap.size w w' := by
  obtain ⟨s0, s1, s2, ⟨hi, hi2⟩, ho, ho2⟩ := ht
  have HI := hid hi2
  have HO := hid ho2
  have K0 := hid k0
  have K1 := hid k1
  obtain ⟨ad0, cp0, rfl⟩ := k0.sl
  obtain ⟨ad1, cp1, rfl⟩ := k1.sl
  clear k0 k1 hi2 ho2
  have HM : Hid (∀ n : Nat, n ≤ 1048576 → n ≤ maxLen) := fun n h => by unfold maxLen; omega
  have HB0 := hid (B2.start w (.cells #[.slice none 0 0] 110) (.cells #[.string t.name, .string t.tool, .string t.arg, .slice ad0 t.ins.length cp0, .slice ad1 t.outs.length cp1] 35))
  obtain ⟨W0, hW0⟩ : ∃ W, (w.alloc (.cells #[.slice none 0 0] 110)).alloc (.cells #[.string t.name, .string t.tool, .string t.arg, .slice ad0 t.ins.length cp0, .slice ad1 t.outs.length cp1] 35) = W := ⟨_, rfl⟩
  rw [hW0] at HB0
  have z0 : W0.cell? ⟨w.heap.size, 0, none⟩ = some (.slice none 0 0) := row_cell HB0.out.e 0
  have a0 : W0.cell? ⟨w.heap.size + 1, 0, none⟩ = some (.string t.name) := row_cell HB0.out.f 0
  have a1 : W0.cell? ⟨w.heap.size + 1, 1, none⟩ = some (.string t.tool) := row_cell HB0.out.f 1
  have a2 : W0.cell? ⟨w.heap.size + 1, 2, none⟩ = some (.string t.arg) := row_cell HB0.out.f 2
  have a3 : W0.cell? ⟨w.heap.size + 1, 3, none⟩ = some (.slice ad0 t.ins.length cp0) := row_cell HB0.out.f 3
  have a4 : W0.cell? ⟨w.heap.size + 1, 4, none⟩ = some (.slice ad1 t.outs.length cp1) := row_cell HB0.out.f 4
  by_cases c0 : ¬ FileOk t.name
  · have C0 := hid c0
    clear c0
    go_enter Tryz.func78, Tryz.ntmps78
    go_upto_region 1 with fail
    clear hW0
    go_wp2_with fail
    refine (l15Path_any t.name _ (HM.out _ s0)).mono ?_
    rintro e W1 ⟨hs, rfl⟩
    have hq := hs.neg C0.out
    obtain rfl := hq
    clear hs
    go_wp2
    go_ret
    exact ⟨says_f fun h => C0.out h.1.1, HB0.out.lo⟩
  have C0 := hid (Classical.not_not.1 c0)
  clear c0
  by_cases c1 : ¬ FileOk t.tool
  · have C1 := hid c1
    clear c1
    go_enter Tryz.func78, Tryz.ntmps78
    go_upto_region 1 with fail
    clear hW0
    go_wp2_with fail
    refine (l15Path_any t.name _ (HM.out _ s0)).mono ?_
    rintro e W1 ⟨hs, rfl⟩
    have hq := hs.pos C0.out
    obtain rfl := hq
    clear hs
    go_wp2_with fail
    refine (l15Path_any t.tool _ (HM.out _ s1)).mono ?_
    rintro e W2 ⟨hs, rfl⟩
    have hq := hs.neg C1.out
    obtain rfl := hq
    clear hs
    go_wp2
    go_ret
    exact ⟨says_f fun h => C1.out h.1.2.1, HB0.out.lo⟩
  have C1 := hid (Classical.not_not.1 c1)
  clear c1
  go_enter Tryz.func78, Tryz.ntmps78
  go_upto_region 1 with fail
  clear hW0
  go_wp2_with fail
  refine (l15Path_any t.name _ (HM.out _ s0)).mono ?_
  rintro e W1 ⟨hs, rfl⟩
  have hq := hs.pos C0.out
  obtain rfl := hq
  clear hs
  go_wp2_with fail
  refine (l15Path_any t.tool _ (HM.out _ s1)).mono ?_
  rintro e W2 ⟨hs, rfl⟩
  have hq := hs.pos C1.out
  obtain rfl := hq
  clear hs
  by_cases c2 : ¬ t.arg.size ≤ 3000
  · go_wp2
    go_ret
    exact ⟨says_f fun h => by have := h.1.2.2.1; omega, HB0.out.lo⟩
  have c2 := Classical.not_not.1 c2
  by_cases c3 : ¬ t.outs.length ≤ 20
  · go_wp2
    go_ret
    exact ⟨says_f fun h => by have := h.1.2.2.2; omega, HB0.out.lo⟩
  have c3 := Classical.not_not.1 c3
  go_wp2
  go_loopw [5] (fun i wr => ∃ j : Nat, j ≤ t.ins.length ∧ i = .int .i64 j ∧ (∀ i, i < j → FileOk (t.ins.getD i ⟨#[]⟩)) ∧ wr = W2) (fun i _ => t.ins.length - (intOf i).toNat)
  case atStart => exact ⟨0, Nat.zero_le _, rfl, fun i h => absurd h (Nat.not_lt_zero _), rfl⟩
  case round =>
    obtain ⟨j, hj, rfl, hr, rfl⟩ := hrel
    have HR := hid hr
    clear hr
    by_cases hlt : j < t.ins.length
    · obtain ⟨a, c, e9, hal, c0⟩ := (K0.out.next HB0.out.lo).at hlt
      injection e9 with ea en ec
      subst ea ec
      clear en
      have hsz := HI.out j hlt
      have NX : Hid (FileOk (t.ins.getD j ⟨#[]⟩) → ∀ i, i < j + 1 → FileOk (t.ins.getD i ⟨#[]⟩)) := fun h => all_step HR.out h
      have NO : Hid (¬ FileOk (t.ins.getD j ⟨#[]⟩) → ¬ FitsOk t) := fun h h2 => h (h2.2.1 j hlt)
      obtain ⟨x, hx⟩ : ∃ x, t.ins.getD j ⟨#[]⟩ = x := ⟨_, rfl⟩
      rw [hx] at c0 hsz NX NO
      clear hx
      unfold StrA at c0
      go_wp2_with fail
      refine (l15Path_any x _ (HM.out _ hsz)).mono ?_
      rintro e W3 ⟨hs, rfl⟩
      by_cases hP : FileOk x
      · have hq := hs.pos hP
        obtain rfl := hq
        clear hs
        have N2 := hid (NX.out hP)
        go_wp2
        go_roundw
        case rel => exact ⟨j + 1, by omega, by go_num, N2.out, by trivial⟩
        case measure => simp [intOf]; omega
      · have hq := hs.neg hP
        obtain rfl := hq
        clear hs
        have N2 := hid (NO.out hP)
        go_wp2
        go_ret
        exact ⟨says_f N2.out, HB0.out.lo⟩
    · obtain rfl : j = t.ins.length := by omega
      have HI2 : Hid (FilesT t.ins) := HR.out
      go_wp2
      clear a0 a1 a2 a3
      go_loopw [6] (fun i wr => ∃ k : Nat, k ≤ t.outs.length ∧ i = .int .i64 k ∧ (∀ i, i < k → FileOk (t.outs.getD i ⟨#[]⟩)) ∧ B2 w (.cells #[.slice none 0 0] 110) (.cells #[.string t.name, .string t.tool, .string t.arg, .slice ad0 t.ins.length cp0, .slice ad1 t.outs.length cp1] 35) wr) (fun i _ => t.outs.length - (intOf i).toNat)
      case atStart => exact ⟨0, Nat.zero_le _, rfl, fun i h => absurd h (Nat.not_lt_zero _), HB0.out⟩
      case round =>
        clear a4 z0
        obtain ⟨k, hk, rfl, hr, hbw⟩ := hrel
        have HBW := hid hbw
        have HR2 := hid hr
        clear hr hbw
        have a4 : wr.cell? ⟨w.heap.size + 1, 4, none⟩ = some (.slice ad1 t.outs.length cp1) := row_cell HBW.out.f 4
        have z0 : wr.cell? ⟨w.heap.size, 0, none⟩ = some (.slice none 0 0) := row_cell HBW.out.e 0
        by_cases hlt : k < t.outs.length
        · obtain ⟨a, c, e9, hal, c0⟩ := (K1.out.next HBW.out.lo).at hlt
          injection e9 with ea en ec
          subst ea ec
          clear en
          have hsz := HO.out k hlt
          have NX : Hid (FileOk (t.outs.getD k ⟨#[]⟩) → ∀ i, i < k + 1 → FileOk (t.outs.getD i ⟨#[]⟩)) := fun h => all_step HR2.out h
          have NO : Hid (¬ FileOk (t.outs.getD k ⟨#[]⟩) → ¬ FitsOk t) := fun h h2 => h (h2.2.2 k hlt)
          obtain ⟨x, hx⟩ : ∃ x, t.outs.getD k ⟨#[]⟩ = x := ⟨_, rfl⟩
          rw [hx] at c0 hsz NX NO
          clear hx
          unfold StrA at c0
          by_cases hP : FileOk x
          · have N2 := hid (NX.out hP)
            have HP := hid hP
            clear hP
            go_wp2_with fail
            go_quiet (first | (go_at_call 49; refine Calls.quiet_of_same (v := .bool true) ?_; refine (l15Path_any x _ (HM.out _ hsz)).mono ?_; rintro e w3 ⟨hs3, hb3⟩; exact ⟨hs3.pos HP.out, hb3⟩) | (go_at_call 97; exact Calls.quiet_of_same (l19At_none x _)))
            go_wp2
            go_roundw
            case rel => exact ⟨k + 1, by omega, by go_num, N2.out, HBW.out.next (below_drewN (Below.refl _ _) nq)⟩
            case measure => simp [intOf]; omega
          · have N2 := hid (NO.out hP)
            have HP := hid hP
            clear hP
            go_wp2_with fail
            go_quiet (first | (go_at_call 49; refine Calls.quiet_of_same (v := .bool false) ?_; refine (l15Path_any x _ (HM.out _ hsz)).mono ?_; rintro e w3 ⟨hs3, hb3⟩; exact ⟨hs3.neg HP.out, hb3⟩) | (go_at_call 97; exact Calls.quiet_of_same (l19At_none x _)))
            go_wp2
            go_ret
            exact ⟨says_f N2.out, (HBW.out.next (below_drewN (Below.refl _ _) nq)).lo⟩
        · obtain rfl : k = t.outs.length := by omega
          go_wp2
          go_ret
          exact ⟨says_t ⟨⟨C0.out, C1.out, c2, c3⟩, HI2.out, HR2.out⟩, HBW.out.lo⟩
end Go.Proofs.YtlopcjhipajdcaaGreatDoor.Y
/-! When, by the model. Printed by gen_ybody.py. -/
namespace Go.Proofs.YtlopcjhipajdcaaGreatDoor.Y
open Go.RowKit R
open Go.Proofs.YtlopcjhipajdcaaGreatDoor.J (FileOk BegOk RepOk ltB Says says_t says_f)
set_option maxRecDepth 20000
set_option maxHeartbeats 4000000 in
theorem when_any (m : Ms) {v0 v1 v2 v3 v4 : Value} (w : World) :
    Calls Tryz.prog 44 #[.agg #[.int .i64 m.kind, .int .i64 m.to, .int .i64 m.sender, .int .i64 m.epoch, .int .i64 m.edit, .string m.target.name, .string m.target.tool, .string m.target.arg, v0, v1, v2, .int .i64 m.count, .bool m.turn.over, .int .i64 m.turn.code, .string m.turn.text, .int .i64 m.turn.kind, .string m.turn.name, .int .i64 m.turn.steps, v3, v4]] w fun e w' => Says e ((1 ≤ m.epoch ∧ m.epoch ≤ 200) ∧ 0 ≤ m.edit ∧ m.edit ≤ 1000) ∧ Below w.heap.size w w' := by
  have HB0 := hid (B1.start w (.cells #[.int .i64 m.kind, .int .i64 m.to, .int .i64 m.sender, .int .i64 m.epoch, .int .i64 m.edit, .string m.target.name, .string m.target.tool, .string m.target.arg, v0, v1, v2, .int .i64 m.count, .bool m.turn.over, .int .i64 m.turn.code, .string m.turn.text, .int .i64 m.turn.kind, .string m.turn.name, .int .i64 m.turn.steps, v3, v4] 41))
  obtain ⟨W0, hW0⟩ : ∃ W, w.alloc (.cells #[.int .i64 m.kind, .int .i64 m.to, .int .i64 m.sender, .int .i64 m.epoch, .int .i64 m.edit, .string m.target.name, .string m.target.tool, .string m.target.arg, v0, v1, v2, .int .i64 m.count, .bool m.turn.over, .int .i64 m.turn.code, .string m.turn.text, .int .i64 m.turn.kind, .string m.turn.name, .int .i64 m.turn.steps, v3, v4] 41) = W := ⟨_, rfl⟩
  rw [hW0] at HB0
  have a3 : W0.cell? ⟨w.heap.size, 3, none⟩ = some (.int .i64 m.epoch) := row_cell HB0.out.e 3
  have a4 : W0.cell? ⟨w.heap.size, 4, none⟩ = some (.int .i64 m.edit) := row_cell HB0.out.e 4
  go_enter Tryz.func44, Tryz.ntmps44
  go_upto_region 1 with fail
  clear hW0
  go_wp2_with fail
  refine (l26In_any m.epoch 1 200 _).mono ?_
  rintro e W1 ⟨hs, rfl⟩
  by_cases h1 : 1 ≤ m.epoch ∧ m.epoch ≤ 200
  · have hq := hs.pos h1
    obtain rfl := hq
    have H1 := hid h1
    clear hs h1
    go_wp2_with fail
    refine (l26In_any m.edit 0 1000 _).mono ?_
    rintro e W2 ⟨⟨b, rfl, hb⟩, rfl⟩
    have HS := hid hb
    clear hb
    go_wp2
    go_ret
    exact ⟨⟨b, rfl, HS.out.trans ⟨fun h => ⟨H1.out, h⟩, fun h => h.2⟩⟩, HB0.out.lo⟩
  · have hq := hs.neg h1
    obtain rfl := hq
    have H1 := hid h1
    clear hs h1
    go_wp2
    go_ret
    exact ⟨says_f fun h => H1.out h.1, HB0.out.lo⟩
end Go.Proofs.YtlopcjhipajdcaaGreatDoor.Y
/-! Nothing, by the model: a message. -/
namespace Go.Proofs.YtlopcjhipajdcaaGreatDoor.Y
open Go.RowKit R
open Go.Proofs.YtlopcjhipajdcaaGreatDoor.J (FileOk BegOk RepOk ltB Says says_t says_f)
set_option maxRecDepth 20000
set_option maxHeartbeats 8000000 in
theorem msNone_any (m : Ms) {v0 v1 v2 v3 v4 : Value} (w : World) (hm : SmMs m) (k0 : SStrA w v0 m.target.ins) (k1 : SStrA w v1 m.target.outs) (k2 : SSnA w v2 m.seen) (k3 : SFlA w v3 m.turn.files) (k4 : SStrA w v4 m.turn.said) :
    Calls Tryz.prog 19 #[.agg #[.int .i64 m.kind, .int .i64 m.to, .int .i64 m.sender, .int .i64 m.epoch, .int .i64 m.edit, .string m.target.name, .string m.target.tool, .string m.target.arg, v0, v1, v2, .int .i64 m.count, .bool m.turn.over, .int .i64 m.turn.code, .string m.turn.text, .int .i64 m.turn.kind, .string m.turn.name, .int .i64 m.turn.steps, v3, v4]] w fun e w' => Says e (MsNone m) ∧ Below w.heap.size w w' := by
  obtain ⟨ht, hs, hu⟩ := hm
  have K0 := hid k0
  obtain ⟨ad0, cp0, rfl⟩ := k0.sl
  have K1 := hid k1
  obtain ⟨ad1, cp1, rfl⟩ := k1.sl
  have K2 := hid k2
  obtain ⟨ad2, cp2, rfl⟩ := k2.sl
  have K3 := hid k3
  obtain ⟨ad3, cp3, rfl⟩ := k3.sl
  have K4 := hid k4
  obtain ⟨ad4, cp4, rfl⟩ := k4.sl
  clear k0 k1 k2 k3 k4
  have HB0 := hid (B1.start w (.cells #[.int .i64 m.kind, .int .i64 m.to, .int .i64 m.sender, .int .i64 m.epoch, .int .i64 m.edit, .string m.target.name, .string m.target.tool, .string m.target.arg, .slice ad0 m.target.ins.length cp0, .slice ad1 m.target.outs.length cp1, .slice ad2 m.seen.length cp2, .int .i64 m.count, .bool m.turn.over, .int .i64 m.turn.code, .string m.turn.text, .int .i64 m.turn.kind, .string m.turn.name, .int .i64 m.turn.steps, .slice ad3 m.turn.files.length cp3, .slice ad4 m.turn.said.length cp4] 41))
  obtain ⟨W0, hW0⟩ : ∃ W, w.alloc (.cells #[.int .i64 m.kind, .int .i64 m.to, .int .i64 m.sender, .int .i64 m.epoch, .int .i64 m.edit, .string m.target.name, .string m.target.tool, .string m.target.arg, .slice ad0 m.target.ins.length cp0, .slice ad1 m.target.outs.length cp1, .slice ad2 m.seen.length cp2, .int .i64 m.count, .bool m.turn.over, .int .i64 m.turn.code, .string m.turn.text, .int .i64 m.turn.kind, .string m.turn.name, .int .i64 m.turn.steps, .slice ad3 m.turn.files.length cp3, .slice ad4 m.turn.said.length cp4] 41) = W := ⟨_, rfl⟩
  rw [hW0] at HB0
  by_cases c0 : m.kind = 0
  · have q0 : (m.kind == 0) = true := by simp [c0]
    have C0 := hid c0
    clear c0
    by_cases c1 : m.to = 0
    · have q1 : (m.to == 0) = true := by simp [c1]
      have C1 := hid c1
      clear c1
      by_cases c2 : m.sender = 0
      · have q2 : (m.sender == 0) = true := by simp [c2]
        have C2 := hid c2
        clear c2
        by_cases c3 : m.epoch = 0
        · have q3 : (m.epoch == 0) = true := by simp [c3]
          have C3 := hid c3
          clear c3
          by_cases c4 : m.edit = 0
          · have q4 : (m.edit == 0) = true := by simp [c4]
            have C4 := hid c4
            clear c4
            by_cases c5 : TgNone m.target
            · have C5 := hid c5
              clear c5
              by_cases c6 : m.seen = []
              · have q6 : ((m.seen.length : Int) == 0) = true := by rw [c6]; rfl
                have C6 := hid c6
                clear c6
                by_cases c7 : m.count = 0
                · have q7 : (m.count == 0) = true := by simp [c7]
                  have C7 := hid c7
                  clear c7
                  by_cases c8 : TuNone m.turn
                  · have C8 := hid c8
                    clear c8
                    go_enter Tryz.func19, Tryz.ntmps19
                    go_upto_region 1 with fail
                    clear hW0
                    have x0_0_0 : W0.cell? ⟨w.heap.size, 0, none⟩ = some (.int .i64 m.kind) := row_cell HB0.out.e 0
                    have x0_0_1 : W0.cell? ⟨w.heap.size, 1, none⟩ = some (.int .i64 m.to) := row_cell HB0.out.e 1
                    have x0_0_2 : W0.cell? ⟨w.heap.size, 2, none⟩ = some (.int .i64 m.sender) := row_cell HB0.out.e 2
                    have x0_0_3 : W0.cell? ⟨w.heap.size, 3, none⟩ = some (.int .i64 m.epoch) := row_cell HB0.out.e 3
                    have x0_0_4 : W0.cell? ⟨w.heap.size, 4, none⟩ = some (.int .i64 m.edit) := row_cell HB0.out.e 4
                    have x0_0_5 : W0.cell? ⟨w.heap.size, 5, none⟩ = some (.string m.target.name) := row_cell HB0.out.e 5
                    have x0_0_6 : W0.cell? ⟨w.heap.size, 6, none⟩ = some (.string m.target.tool) := row_cell HB0.out.e 6
                    have x0_0_7 : W0.cell? ⟨w.heap.size, 7, none⟩ = some (.string m.target.arg) := row_cell HB0.out.e 7
                    have x0_0_8 : W0.cell? ⟨w.heap.size, 8, none⟩ = some (.slice ad0 m.target.ins.length cp0) := row_cell HB0.out.e 8
                    have x0_0_9 : W0.cell? ⟨w.heap.size, 9, none⟩ = some (.slice ad1 m.target.outs.length cp1) := row_cell HB0.out.e 9
                    have x0_0_10 : W0.cell? ⟨w.heap.size, 10, none⟩ = some (.slice ad2 m.seen.length cp2) := row_cell HB0.out.e 10
                    have x0_0_11 : W0.cell? ⟨w.heap.size, 11, none⟩ = some (.int .i64 m.count) := row_cell HB0.out.e 11
                    have x0_0_12 : W0.cell? ⟨w.heap.size, 12, none⟩ = some (.bool m.turn.over) := row_cell HB0.out.e 12
                    have x0_0_13 : W0.cell? ⟨w.heap.size, 13, none⟩ = some (.int .i64 m.turn.code) := row_cell HB0.out.e 13
                    have x0_0_14 : W0.cell? ⟨w.heap.size, 14, none⟩ = some (.string m.turn.text) := row_cell HB0.out.e 14
                    have x0_0_15 : W0.cell? ⟨w.heap.size, 15, none⟩ = some (.int .i64 m.turn.kind) := row_cell HB0.out.e 15
                    have x0_0_16 : W0.cell? ⟨w.heap.size, 16, none⟩ = some (.string m.turn.name) := row_cell HB0.out.e 16
                    have x0_0_17 : W0.cell? ⟨w.heap.size, 17, none⟩ = some (.int .i64 m.turn.steps) := row_cell HB0.out.e 17
                    have x0_0_18 : W0.cell? ⟨w.heap.size, 18, none⟩ = some (.slice ad3 m.turn.files.length cp3) := row_cell HB0.out.e 18
                    have x0_0_19 : W0.cell? ⟨w.heap.size, 19, none⟩ = some (.slice ad4 m.turn.said.length cp4) := row_cell HB0.out.e 19
                    go_wp2_with fail
                    refine (sameTarget_none m.target _ ht (K0.out.next HB0.out.lo) (K1.out.next HB0.out.lo)).mono ?_
                    rintro e W1 ⟨hs, hb⟩
                    have hq := hs.pos C5.out
                    obtain rfl := hq
                    have HB1 := hid (HB0.out.next hb)
                    clear hs hb x0_0_0 x0_0_1 x0_0_2 x0_0_3 x0_0_4 x0_0_5 x0_0_6 x0_0_7 x0_0_8 x0_0_9 x0_0_10 x0_0_11 x0_0_12 x0_0_13 x0_0_14 x0_0_15 x0_0_16 x0_0_17 x0_0_18 x0_0_19
                    have x1_0_10 : W1.cell? ⟨w.heap.size, 10, none⟩ = some (.slice ad2 m.seen.length cp2) := row_cell HB1.out.e 10
                    have x1_0_11 : W1.cell? ⟨w.heap.size, 11, none⟩ = some (.int .i64 m.count) := row_cell HB1.out.e 11
                    have x1_0_12 : W1.cell? ⟨w.heap.size, 12, none⟩ = some (.bool m.turn.over) := row_cell HB1.out.e 12
                    have x1_0_13 : W1.cell? ⟨w.heap.size, 13, none⟩ = some (.int .i64 m.turn.code) := row_cell HB1.out.e 13
                    have x1_0_14 : W1.cell? ⟨w.heap.size, 14, none⟩ = some (.string m.turn.text) := row_cell HB1.out.e 14
                    have x1_0_15 : W1.cell? ⟨w.heap.size, 15, none⟩ = some (.int .i64 m.turn.kind) := row_cell HB1.out.e 15
                    have x1_0_16 : W1.cell? ⟨w.heap.size, 16, none⟩ = some (.string m.turn.name) := row_cell HB1.out.e 16
                    have x1_0_17 : W1.cell? ⟨w.heap.size, 17, none⟩ = some (.int .i64 m.turn.steps) := row_cell HB1.out.e 17
                    have x1_0_18 : W1.cell? ⟨w.heap.size, 18, none⟩ = some (.slice ad3 m.turn.files.length cp3) := row_cell HB1.out.e 18
                    have x1_0_19 : W1.cell? ⟨w.heap.size, 19, none⟩ = some (.slice ad4 m.turn.said.length cp4) := row_cell HB1.out.e 19
                    go_wp2_with fail
                    refine (noTurn_any m.turn _ hu (K3.out.next HB1.out.lo) (K4.out.next HB1.out.lo)).mono ?_
                    rintro e W2 ⟨hs, hb⟩
                    have hq := hs.pos C8.out
                    obtain rfl := hq
                    have HB2 := hid (HB1.out.next hb)
                    clear hs hb x1_0_10 x1_0_11 x1_0_12 x1_0_13 x1_0_14 x1_0_15 x1_0_16 x1_0_17 x1_0_18 x1_0_19
                    go_wp2
                    go_ret
                    exact ⟨says_t ⟨C0.out, C1.out, C2.out, C3.out, C4.out, C5.out, C6.out, C7.out, C8.out⟩, HB2.out.lo⟩
                  · have C8 := hid c8
                    clear c8
                    go_enter Tryz.func19, Tryz.ntmps19
                    go_upto_region 1 with fail
                    clear hW0
                    have x0_0_0 : W0.cell? ⟨w.heap.size, 0, none⟩ = some (.int .i64 m.kind) := row_cell HB0.out.e 0
                    have x0_0_1 : W0.cell? ⟨w.heap.size, 1, none⟩ = some (.int .i64 m.to) := row_cell HB0.out.e 1
                    have x0_0_2 : W0.cell? ⟨w.heap.size, 2, none⟩ = some (.int .i64 m.sender) := row_cell HB0.out.e 2
                    have x0_0_3 : W0.cell? ⟨w.heap.size, 3, none⟩ = some (.int .i64 m.epoch) := row_cell HB0.out.e 3
                    have x0_0_4 : W0.cell? ⟨w.heap.size, 4, none⟩ = some (.int .i64 m.edit) := row_cell HB0.out.e 4
                    have x0_0_5 : W0.cell? ⟨w.heap.size, 5, none⟩ = some (.string m.target.name) := row_cell HB0.out.e 5
                    have x0_0_6 : W0.cell? ⟨w.heap.size, 6, none⟩ = some (.string m.target.tool) := row_cell HB0.out.e 6
                    have x0_0_7 : W0.cell? ⟨w.heap.size, 7, none⟩ = some (.string m.target.arg) := row_cell HB0.out.e 7
                    have x0_0_8 : W0.cell? ⟨w.heap.size, 8, none⟩ = some (.slice ad0 m.target.ins.length cp0) := row_cell HB0.out.e 8
                    have x0_0_9 : W0.cell? ⟨w.heap.size, 9, none⟩ = some (.slice ad1 m.target.outs.length cp1) := row_cell HB0.out.e 9
                    have x0_0_10 : W0.cell? ⟨w.heap.size, 10, none⟩ = some (.slice ad2 m.seen.length cp2) := row_cell HB0.out.e 10
                    have x0_0_11 : W0.cell? ⟨w.heap.size, 11, none⟩ = some (.int .i64 m.count) := row_cell HB0.out.e 11
                    have x0_0_12 : W0.cell? ⟨w.heap.size, 12, none⟩ = some (.bool m.turn.over) := row_cell HB0.out.e 12
                    have x0_0_13 : W0.cell? ⟨w.heap.size, 13, none⟩ = some (.int .i64 m.turn.code) := row_cell HB0.out.e 13
                    have x0_0_14 : W0.cell? ⟨w.heap.size, 14, none⟩ = some (.string m.turn.text) := row_cell HB0.out.e 14
                    have x0_0_15 : W0.cell? ⟨w.heap.size, 15, none⟩ = some (.int .i64 m.turn.kind) := row_cell HB0.out.e 15
                    have x0_0_16 : W0.cell? ⟨w.heap.size, 16, none⟩ = some (.string m.turn.name) := row_cell HB0.out.e 16
                    have x0_0_17 : W0.cell? ⟨w.heap.size, 17, none⟩ = some (.int .i64 m.turn.steps) := row_cell HB0.out.e 17
                    have x0_0_18 : W0.cell? ⟨w.heap.size, 18, none⟩ = some (.slice ad3 m.turn.files.length cp3) := row_cell HB0.out.e 18
                    have x0_0_19 : W0.cell? ⟨w.heap.size, 19, none⟩ = some (.slice ad4 m.turn.said.length cp4) := row_cell HB0.out.e 19
                    go_wp2_with fail
                    refine (sameTarget_none m.target _ ht (K0.out.next HB0.out.lo) (K1.out.next HB0.out.lo)).mono ?_
                    rintro e W1 ⟨hs, hb⟩
                    have hq := hs.pos C5.out
                    obtain rfl := hq
                    have HB1 := hid (HB0.out.next hb)
                    clear hs hb x0_0_0 x0_0_1 x0_0_2 x0_0_3 x0_0_4 x0_0_5 x0_0_6 x0_0_7 x0_0_8 x0_0_9 x0_0_10 x0_0_11 x0_0_12 x0_0_13 x0_0_14 x0_0_15 x0_0_16 x0_0_17 x0_0_18 x0_0_19
                    have x1_0_10 : W1.cell? ⟨w.heap.size, 10, none⟩ = some (.slice ad2 m.seen.length cp2) := row_cell HB1.out.e 10
                    have x1_0_11 : W1.cell? ⟨w.heap.size, 11, none⟩ = some (.int .i64 m.count) := row_cell HB1.out.e 11
                    have x1_0_12 : W1.cell? ⟨w.heap.size, 12, none⟩ = some (.bool m.turn.over) := row_cell HB1.out.e 12
                    have x1_0_13 : W1.cell? ⟨w.heap.size, 13, none⟩ = some (.int .i64 m.turn.code) := row_cell HB1.out.e 13
                    have x1_0_14 : W1.cell? ⟨w.heap.size, 14, none⟩ = some (.string m.turn.text) := row_cell HB1.out.e 14
                    have x1_0_15 : W1.cell? ⟨w.heap.size, 15, none⟩ = some (.int .i64 m.turn.kind) := row_cell HB1.out.e 15
                    have x1_0_16 : W1.cell? ⟨w.heap.size, 16, none⟩ = some (.string m.turn.name) := row_cell HB1.out.e 16
                    have x1_0_17 : W1.cell? ⟨w.heap.size, 17, none⟩ = some (.int .i64 m.turn.steps) := row_cell HB1.out.e 17
                    have x1_0_18 : W1.cell? ⟨w.heap.size, 18, none⟩ = some (.slice ad3 m.turn.files.length cp3) := row_cell HB1.out.e 18
                    have x1_0_19 : W1.cell? ⟨w.heap.size, 19, none⟩ = some (.slice ad4 m.turn.said.length cp4) := row_cell HB1.out.e 19
                    go_wp2_with fail
                    refine (noTurn_any m.turn _ hu (K3.out.next HB1.out.lo) (K4.out.next HB1.out.lo)).mono ?_
                    rintro e W2 ⟨hs, hb⟩
                    have hq := hs.neg C8.out
                    obtain rfl := hq
                    have HB2 := hid (HB1.out.next hb)
                    clear hs hb x1_0_10 x1_0_11 x1_0_12 x1_0_13 x1_0_14 x1_0_15 x1_0_16 x1_0_17 x1_0_18 x1_0_19
                    go_wp2
                    go_ret
                    exact ⟨says_f fun h => C8.out h.2.2.2.2.2.2.2.2, HB2.out.lo⟩
                · have q7 : (m.count == 0) = false := by simp [c7]
                  have C7 := hid c7
                  clear c7
                  go_enter Tryz.func19, Tryz.ntmps19
                  go_upto_region 1 with fail
                  clear hW0
                  have x0_0_0 : W0.cell? ⟨w.heap.size, 0, none⟩ = some (.int .i64 m.kind) := row_cell HB0.out.e 0
                  have x0_0_1 : W0.cell? ⟨w.heap.size, 1, none⟩ = some (.int .i64 m.to) := row_cell HB0.out.e 1
                  have x0_0_2 : W0.cell? ⟨w.heap.size, 2, none⟩ = some (.int .i64 m.sender) := row_cell HB0.out.e 2
                  have x0_0_3 : W0.cell? ⟨w.heap.size, 3, none⟩ = some (.int .i64 m.epoch) := row_cell HB0.out.e 3
                  have x0_0_4 : W0.cell? ⟨w.heap.size, 4, none⟩ = some (.int .i64 m.edit) := row_cell HB0.out.e 4
                  have x0_0_5 : W0.cell? ⟨w.heap.size, 5, none⟩ = some (.string m.target.name) := row_cell HB0.out.e 5
                  have x0_0_6 : W0.cell? ⟨w.heap.size, 6, none⟩ = some (.string m.target.tool) := row_cell HB0.out.e 6
                  have x0_0_7 : W0.cell? ⟨w.heap.size, 7, none⟩ = some (.string m.target.arg) := row_cell HB0.out.e 7
                  have x0_0_8 : W0.cell? ⟨w.heap.size, 8, none⟩ = some (.slice ad0 m.target.ins.length cp0) := row_cell HB0.out.e 8
                  have x0_0_9 : W0.cell? ⟨w.heap.size, 9, none⟩ = some (.slice ad1 m.target.outs.length cp1) := row_cell HB0.out.e 9
                  have x0_0_10 : W0.cell? ⟨w.heap.size, 10, none⟩ = some (.slice ad2 m.seen.length cp2) := row_cell HB0.out.e 10
                  have x0_0_11 : W0.cell? ⟨w.heap.size, 11, none⟩ = some (.int .i64 m.count) := row_cell HB0.out.e 11
                  have x0_0_12 : W0.cell? ⟨w.heap.size, 12, none⟩ = some (.bool m.turn.over) := row_cell HB0.out.e 12
                  have x0_0_13 : W0.cell? ⟨w.heap.size, 13, none⟩ = some (.int .i64 m.turn.code) := row_cell HB0.out.e 13
                  have x0_0_14 : W0.cell? ⟨w.heap.size, 14, none⟩ = some (.string m.turn.text) := row_cell HB0.out.e 14
                  have x0_0_15 : W0.cell? ⟨w.heap.size, 15, none⟩ = some (.int .i64 m.turn.kind) := row_cell HB0.out.e 15
                  have x0_0_16 : W0.cell? ⟨w.heap.size, 16, none⟩ = some (.string m.turn.name) := row_cell HB0.out.e 16
                  have x0_0_17 : W0.cell? ⟨w.heap.size, 17, none⟩ = some (.int .i64 m.turn.steps) := row_cell HB0.out.e 17
                  have x0_0_18 : W0.cell? ⟨w.heap.size, 18, none⟩ = some (.slice ad3 m.turn.files.length cp3) := row_cell HB0.out.e 18
                  have x0_0_19 : W0.cell? ⟨w.heap.size, 19, none⟩ = some (.slice ad4 m.turn.said.length cp4) := row_cell HB0.out.e 19
                  go_wp2_with fail
                  refine (sameTarget_none m.target _ ht (K0.out.next HB0.out.lo) (K1.out.next HB0.out.lo)).mono ?_
                  rintro e W1 ⟨hs, hb⟩
                  have hq := hs.pos C5.out
                  obtain rfl := hq
                  have HB1 := hid (HB0.out.next hb)
                  clear hs hb x0_0_0 x0_0_1 x0_0_2 x0_0_3 x0_0_4 x0_0_5 x0_0_6 x0_0_7 x0_0_8 x0_0_9 x0_0_10 x0_0_11 x0_0_12 x0_0_13 x0_0_14 x0_0_15 x0_0_16 x0_0_17 x0_0_18 x0_0_19
                  have x1_0_10 : W1.cell? ⟨w.heap.size, 10, none⟩ = some (.slice ad2 m.seen.length cp2) := row_cell HB1.out.e 10
                  have x1_0_11 : W1.cell? ⟨w.heap.size, 11, none⟩ = some (.int .i64 m.count) := row_cell HB1.out.e 11
                  have x1_0_12 : W1.cell? ⟨w.heap.size, 12, none⟩ = some (.bool m.turn.over) := row_cell HB1.out.e 12
                  have x1_0_13 : W1.cell? ⟨w.heap.size, 13, none⟩ = some (.int .i64 m.turn.code) := row_cell HB1.out.e 13
                  have x1_0_14 : W1.cell? ⟨w.heap.size, 14, none⟩ = some (.string m.turn.text) := row_cell HB1.out.e 14
                  have x1_0_15 : W1.cell? ⟨w.heap.size, 15, none⟩ = some (.int .i64 m.turn.kind) := row_cell HB1.out.e 15
                  have x1_0_16 : W1.cell? ⟨w.heap.size, 16, none⟩ = some (.string m.turn.name) := row_cell HB1.out.e 16
                  have x1_0_17 : W1.cell? ⟨w.heap.size, 17, none⟩ = some (.int .i64 m.turn.steps) := row_cell HB1.out.e 17
                  have x1_0_18 : W1.cell? ⟨w.heap.size, 18, none⟩ = some (.slice ad3 m.turn.files.length cp3) := row_cell HB1.out.e 18
                  have x1_0_19 : W1.cell? ⟨w.heap.size, 19, none⟩ = some (.slice ad4 m.turn.said.length cp4) := row_cell HB1.out.e 19
                  go_wp2
                  go_ret
                  exact ⟨says_f fun h => C7.out h.2.2.2.2.2.2.2.1, HB1.out.lo⟩
              · have q6 : ((m.seen.length : Int) == 0) = false := by rw [beq_eq_false_iff_ne]; intro h; exact c6 (List.eq_nil_of_length_eq_zero (by omega))
                have C6 := hid c6
                clear c6
                go_enter Tryz.func19, Tryz.ntmps19
                go_upto_region 1 with fail
                clear hW0
                have x0_0_0 : W0.cell? ⟨w.heap.size, 0, none⟩ = some (.int .i64 m.kind) := row_cell HB0.out.e 0
                have x0_0_1 : W0.cell? ⟨w.heap.size, 1, none⟩ = some (.int .i64 m.to) := row_cell HB0.out.e 1
                have x0_0_2 : W0.cell? ⟨w.heap.size, 2, none⟩ = some (.int .i64 m.sender) := row_cell HB0.out.e 2
                have x0_0_3 : W0.cell? ⟨w.heap.size, 3, none⟩ = some (.int .i64 m.epoch) := row_cell HB0.out.e 3
                have x0_0_4 : W0.cell? ⟨w.heap.size, 4, none⟩ = some (.int .i64 m.edit) := row_cell HB0.out.e 4
                have x0_0_5 : W0.cell? ⟨w.heap.size, 5, none⟩ = some (.string m.target.name) := row_cell HB0.out.e 5
                have x0_0_6 : W0.cell? ⟨w.heap.size, 6, none⟩ = some (.string m.target.tool) := row_cell HB0.out.e 6
                have x0_0_7 : W0.cell? ⟨w.heap.size, 7, none⟩ = some (.string m.target.arg) := row_cell HB0.out.e 7
                have x0_0_8 : W0.cell? ⟨w.heap.size, 8, none⟩ = some (.slice ad0 m.target.ins.length cp0) := row_cell HB0.out.e 8
                have x0_0_9 : W0.cell? ⟨w.heap.size, 9, none⟩ = some (.slice ad1 m.target.outs.length cp1) := row_cell HB0.out.e 9
                have x0_0_10 : W0.cell? ⟨w.heap.size, 10, none⟩ = some (.slice ad2 m.seen.length cp2) := row_cell HB0.out.e 10
                have x0_0_11 : W0.cell? ⟨w.heap.size, 11, none⟩ = some (.int .i64 m.count) := row_cell HB0.out.e 11
                have x0_0_12 : W0.cell? ⟨w.heap.size, 12, none⟩ = some (.bool m.turn.over) := row_cell HB0.out.e 12
                have x0_0_13 : W0.cell? ⟨w.heap.size, 13, none⟩ = some (.int .i64 m.turn.code) := row_cell HB0.out.e 13
                have x0_0_14 : W0.cell? ⟨w.heap.size, 14, none⟩ = some (.string m.turn.text) := row_cell HB0.out.e 14
                have x0_0_15 : W0.cell? ⟨w.heap.size, 15, none⟩ = some (.int .i64 m.turn.kind) := row_cell HB0.out.e 15
                have x0_0_16 : W0.cell? ⟨w.heap.size, 16, none⟩ = some (.string m.turn.name) := row_cell HB0.out.e 16
                have x0_0_17 : W0.cell? ⟨w.heap.size, 17, none⟩ = some (.int .i64 m.turn.steps) := row_cell HB0.out.e 17
                have x0_0_18 : W0.cell? ⟨w.heap.size, 18, none⟩ = some (.slice ad3 m.turn.files.length cp3) := row_cell HB0.out.e 18
                have x0_0_19 : W0.cell? ⟨w.heap.size, 19, none⟩ = some (.slice ad4 m.turn.said.length cp4) := row_cell HB0.out.e 19
                go_wp2_with fail
                refine (sameTarget_none m.target _ ht (K0.out.next HB0.out.lo) (K1.out.next HB0.out.lo)).mono ?_
                rintro e W1 ⟨hs, hb⟩
                have hq := hs.pos C5.out
                obtain rfl := hq
                have HB1 := hid (HB0.out.next hb)
                clear hs hb x0_0_0 x0_0_1 x0_0_2 x0_0_3 x0_0_4 x0_0_5 x0_0_6 x0_0_7 x0_0_8 x0_0_9 x0_0_10 x0_0_11 x0_0_12 x0_0_13 x0_0_14 x0_0_15 x0_0_16 x0_0_17 x0_0_18 x0_0_19
                have x1_0_10 : W1.cell? ⟨w.heap.size, 10, none⟩ = some (.slice ad2 m.seen.length cp2) := row_cell HB1.out.e 10
                have x1_0_11 : W1.cell? ⟨w.heap.size, 11, none⟩ = some (.int .i64 m.count) := row_cell HB1.out.e 11
                have x1_0_12 : W1.cell? ⟨w.heap.size, 12, none⟩ = some (.bool m.turn.over) := row_cell HB1.out.e 12
                have x1_0_13 : W1.cell? ⟨w.heap.size, 13, none⟩ = some (.int .i64 m.turn.code) := row_cell HB1.out.e 13
                have x1_0_14 : W1.cell? ⟨w.heap.size, 14, none⟩ = some (.string m.turn.text) := row_cell HB1.out.e 14
                have x1_0_15 : W1.cell? ⟨w.heap.size, 15, none⟩ = some (.int .i64 m.turn.kind) := row_cell HB1.out.e 15
                have x1_0_16 : W1.cell? ⟨w.heap.size, 16, none⟩ = some (.string m.turn.name) := row_cell HB1.out.e 16
                have x1_0_17 : W1.cell? ⟨w.heap.size, 17, none⟩ = some (.int .i64 m.turn.steps) := row_cell HB1.out.e 17
                have x1_0_18 : W1.cell? ⟨w.heap.size, 18, none⟩ = some (.slice ad3 m.turn.files.length cp3) := row_cell HB1.out.e 18
                have x1_0_19 : W1.cell? ⟨w.heap.size, 19, none⟩ = some (.slice ad4 m.turn.said.length cp4) := row_cell HB1.out.e 19
                go_wp2
                go_ret
                exact ⟨says_f fun h => C6.out h.2.2.2.2.2.2.1, HB1.out.lo⟩
            · have C5 := hid c5
              clear c5
              go_enter Tryz.func19, Tryz.ntmps19
              go_upto_region 1 with fail
              clear hW0
              have x0_0_0 : W0.cell? ⟨w.heap.size, 0, none⟩ = some (.int .i64 m.kind) := row_cell HB0.out.e 0
              have x0_0_1 : W0.cell? ⟨w.heap.size, 1, none⟩ = some (.int .i64 m.to) := row_cell HB0.out.e 1
              have x0_0_2 : W0.cell? ⟨w.heap.size, 2, none⟩ = some (.int .i64 m.sender) := row_cell HB0.out.e 2
              have x0_0_3 : W0.cell? ⟨w.heap.size, 3, none⟩ = some (.int .i64 m.epoch) := row_cell HB0.out.e 3
              have x0_0_4 : W0.cell? ⟨w.heap.size, 4, none⟩ = some (.int .i64 m.edit) := row_cell HB0.out.e 4
              have x0_0_5 : W0.cell? ⟨w.heap.size, 5, none⟩ = some (.string m.target.name) := row_cell HB0.out.e 5
              have x0_0_6 : W0.cell? ⟨w.heap.size, 6, none⟩ = some (.string m.target.tool) := row_cell HB0.out.e 6
              have x0_0_7 : W0.cell? ⟨w.heap.size, 7, none⟩ = some (.string m.target.arg) := row_cell HB0.out.e 7
              have x0_0_8 : W0.cell? ⟨w.heap.size, 8, none⟩ = some (.slice ad0 m.target.ins.length cp0) := row_cell HB0.out.e 8
              have x0_0_9 : W0.cell? ⟨w.heap.size, 9, none⟩ = some (.slice ad1 m.target.outs.length cp1) := row_cell HB0.out.e 9
              have x0_0_10 : W0.cell? ⟨w.heap.size, 10, none⟩ = some (.slice ad2 m.seen.length cp2) := row_cell HB0.out.e 10
              have x0_0_11 : W0.cell? ⟨w.heap.size, 11, none⟩ = some (.int .i64 m.count) := row_cell HB0.out.e 11
              have x0_0_12 : W0.cell? ⟨w.heap.size, 12, none⟩ = some (.bool m.turn.over) := row_cell HB0.out.e 12
              have x0_0_13 : W0.cell? ⟨w.heap.size, 13, none⟩ = some (.int .i64 m.turn.code) := row_cell HB0.out.e 13
              have x0_0_14 : W0.cell? ⟨w.heap.size, 14, none⟩ = some (.string m.turn.text) := row_cell HB0.out.e 14
              have x0_0_15 : W0.cell? ⟨w.heap.size, 15, none⟩ = some (.int .i64 m.turn.kind) := row_cell HB0.out.e 15
              have x0_0_16 : W0.cell? ⟨w.heap.size, 16, none⟩ = some (.string m.turn.name) := row_cell HB0.out.e 16
              have x0_0_17 : W0.cell? ⟨w.heap.size, 17, none⟩ = some (.int .i64 m.turn.steps) := row_cell HB0.out.e 17
              have x0_0_18 : W0.cell? ⟨w.heap.size, 18, none⟩ = some (.slice ad3 m.turn.files.length cp3) := row_cell HB0.out.e 18
              have x0_0_19 : W0.cell? ⟨w.heap.size, 19, none⟩ = some (.slice ad4 m.turn.said.length cp4) := row_cell HB0.out.e 19
              go_wp2_with fail
              refine (sameTarget_none m.target _ ht (K0.out.next HB0.out.lo) (K1.out.next HB0.out.lo)).mono ?_
              rintro e W1 ⟨hs, hb⟩
              have hq := hs.neg C5.out
              obtain rfl := hq
              have HB1 := hid (HB0.out.next hb)
              clear hs hb x0_0_0 x0_0_1 x0_0_2 x0_0_3 x0_0_4 x0_0_5 x0_0_6 x0_0_7 x0_0_8 x0_0_9 x0_0_10 x0_0_11 x0_0_12 x0_0_13 x0_0_14 x0_0_15 x0_0_16 x0_0_17 x0_0_18 x0_0_19
              go_wp2
              go_ret
              exact ⟨says_f fun h => C5.out h.2.2.2.2.2.1, HB1.out.lo⟩
          · have q4 : (m.edit == 0) = false := by simp [c4]
            have C4 := hid c4
            clear c4
            go_enter Tryz.func19, Tryz.ntmps19
            go_upto_region 1 with fail
            clear hW0
            have x0_0_0 : W0.cell? ⟨w.heap.size, 0, none⟩ = some (.int .i64 m.kind) := row_cell HB0.out.e 0
            have x0_0_1 : W0.cell? ⟨w.heap.size, 1, none⟩ = some (.int .i64 m.to) := row_cell HB0.out.e 1
            have x0_0_2 : W0.cell? ⟨w.heap.size, 2, none⟩ = some (.int .i64 m.sender) := row_cell HB0.out.e 2
            have x0_0_3 : W0.cell? ⟨w.heap.size, 3, none⟩ = some (.int .i64 m.epoch) := row_cell HB0.out.e 3
            have x0_0_4 : W0.cell? ⟨w.heap.size, 4, none⟩ = some (.int .i64 m.edit) := row_cell HB0.out.e 4
            have x0_0_5 : W0.cell? ⟨w.heap.size, 5, none⟩ = some (.string m.target.name) := row_cell HB0.out.e 5
            have x0_0_6 : W0.cell? ⟨w.heap.size, 6, none⟩ = some (.string m.target.tool) := row_cell HB0.out.e 6
            have x0_0_7 : W0.cell? ⟨w.heap.size, 7, none⟩ = some (.string m.target.arg) := row_cell HB0.out.e 7
            have x0_0_8 : W0.cell? ⟨w.heap.size, 8, none⟩ = some (.slice ad0 m.target.ins.length cp0) := row_cell HB0.out.e 8
            have x0_0_9 : W0.cell? ⟨w.heap.size, 9, none⟩ = some (.slice ad1 m.target.outs.length cp1) := row_cell HB0.out.e 9
            have x0_0_10 : W0.cell? ⟨w.heap.size, 10, none⟩ = some (.slice ad2 m.seen.length cp2) := row_cell HB0.out.e 10
            have x0_0_11 : W0.cell? ⟨w.heap.size, 11, none⟩ = some (.int .i64 m.count) := row_cell HB0.out.e 11
            have x0_0_12 : W0.cell? ⟨w.heap.size, 12, none⟩ = some (.bool m.turn.over) := row_cell HB0.out.e 12
            have x0_0_13 : W0.cell? ⟨w.heap.size, 13, none⟩ = some (.int .i64 m.turn.code) := row_cell HB0.out.e 13
            have x0_0_14 : W0.cell? ⟨w.heap.size, 14, none⟩ = some (.string m.turn.text) := row_cell HB0.out.e 14
            have x0_0_15 : W0.cell? ⟨w.heap.size, 15, none⟩ = some (.int .i64 m.turn.kind) := row_cell HB0.out.e 15
            have x0_0_16 : W0.cell? ⟨w.heap.size, 16, none⟩ = some (.string m.turn.name) := row_cell HB0.out.e 16
            have x0_0_17 : W0.cell? ⟨w.heap.size, 17, none⟩ = some (.int .i64 m.turn.steps) := row_cell HB0.out.e 17
            have x0_0_18 : W0.cell? ⟨w.heap.size, 18, none⟩ = some (.slice ad3 m.turn.files.length cp3) := row_cell HB0.out.e 18
            have x0_0_19 : W0.cell? ⟨w.heap.size, 19, none⟩ = some (.slice ad4 m.turn.said.length cp4) := row_cell HB0.out.e 19
            go_wp2
            go_ret
            exact ⟨says_f fun h => C4.out h.2.2.2.2.1, HB0.out.lo⟩
        · have q3 : (m.epoch == 0) = false := by simp [c3]
          have C3 := hid c3
          clear c3
          go_enter Tryz.func19, Tryz.ntmps19
          go_upto_region 1 with fail
          clear hW0
          have x0_0_0 : W0.cell? ⟨w.heap.size, 0, none⟩ = some (.int .i64 m.kind) := row_cell HB0.out.e 0
          have x0_0_1 : W0.cell? ⟨w.heap.size, 1, none⟩ = some (.int .i64 m.to) := row_cell HB0.out.e 1
          have x0_0_2 : W0.cell? ⟨w.heap.size, 2, none⟩ = some (.int .i64 m.sender) := row_cell HB0.out.e 2
          have x0_0_3 : W0.cell? ⟨w.heap.size, 3, none⟩ = some (.int .i64 m.epoch) := row_cell HB0.out.e 3
          have x0_0_4 : W0.cell? ⟨w.heap.size, 4, none⟩ = some (.int .i64 m.edit) := row_cell HB0.out.e 4
          have x0_0_5 : W0.cell? ⟨w.heap.size, 5, none⟩ = some (.string m.target.name) := row_cell HB0.out.e 5
          have x0_0_6 : W0.cell? ⟨w.heap.size, 6, none⟩ = some (.string m.target.tool) := row_cell HB0.out.e 6
          have x0_0_7 : W0.cell? ⟨w.heap.size, 7, none⟩ = some (.string m.target.arg) := row_cell HB0.out.e 7
          have x0_0_8 : W0.cell? ⟨w.heap.size, 8, none⟩ = some (.slice ad0 m.target.ins.length cp0) := row_cell HB0.out.e 8
          have x0_0_9 : W0.cell? ⟨w.heap.size, 9, none⟩ = some (.slice ad1 m.target.outs.length cp1) := row_cell HB0.out.e 9
          have x0_0_10 : W0.cell? ⟨w.heap.size, 10, none⟩ = some (.slice ad2 m.seen.length cp2) := row_cell HB0.out.e 10
          have x0_0_11 : W0.cell? ⟨w.heap.size, 11, none⟩ = some (.int .i64 m.count) := row_cell HB0.out.e 11
          have x0_0_12 : W0.cell? ⟨w.heap.size, 12, none⟩ = some (.bool m.turn.over) := row_cell HB0.out.e 12
          have x0_0_13 : W0.cell? ⟨w.heap.size, 13, none⟩ = some (.int .i64 m.turn.code) := row_cell HB0.out.e 13
          have x0_0_14 : W0.cell? ⟨w.heap.size, 14, none⟩ = some (.string m.turn.text) := row_cell HB0.out.e 14
          have x0_0_15 : W0.cell? ⟨w.heap.size, 15, none⟩ = some (.int .i64 m.turn.kind) := row_cell HB0.out.e 15
          have x0_0_16 : W0.cell? ⟨w.heap.size, 16, none⟩ = some (.string m.turn.name) := row_cell HB0.out.e 16
          have x0_0_17 : W0.cell? ⟨w.heap.size, 17, none⟩ = some (.int .i64 m.turn.steps) := row_cell HB0.out.e 17
          have x0_0_18 : W0.cell? ⟨w.heap.size, 18, none⟩ = some (.slice ad3 m.turn.files.length cp3) := row_cell HB0.out.e 18
          have x0_0_19 : W0.cell? ⟨w.heap.size, 19, none⟩ = some (.slice ad4 m.turn.said.length cp4) := row_cell HB0.out.e 19
          go_wp2
          go_ret
          exact ⟨says_f fun h => C3.out h.2.2.2.1, HB0.out.lo⟩
      · have q2 : (m.sender == 0) = false := by simp [c2]
        have C2 := hid c2
        clear c2
        go_enter Tryz.func19, Tryz.ntmps19
        go_upto_region 1 with fail
        clear hW0
        have x0_0_0 : W0.cell? ⟨w.heap.size, 0, none⟩ = some (.int .i64 m.kind) := row_cell HB0.out.e 0
        have x0_0_1 : W0.cell? ⟨w.heap.size, 1, none⟩ = some (.int .i64 m.to) := row_cell HB0.out.e 1
        have x0_0_2 : W0.cell? ⟨w.heap.size, 2, none⟩ = some (.int .i64 m.sender) := row_cell HB0.out.e 2
        have x0_0_3 : W0.cell? ⟨w.heap.size, 3, none⟩ = some (.int .i64 m.epoch) := row_cell HB0.out.e 3
        have x0_0_4 : W0.cell? ⟨w.heap.size, 4, none⟩ = some (.int .i64 m.edit) := row_cell HB0.out.e 4
        have x0_0_5 : W0.cell? ⟨w.heap.size, 5, none⟩ = some (.string m.target.name) := row_cell HB0.out.e 5
        have x0_0_6 : W0.cell? ⟨w.heap.size, 6, none⟩ = some (.string m.target.tool) := row_cell HB0.out.e 6
        have x0_0_7 : W0.cell? ⟨w.heap.size, 7, none⟩ = some (.string m.target.arg) := row_cell HB0.out.e 7
        have x0_0_8 : W0.cell? ⟨w.heap.size, 8, none⟩ = some (.slice ad0 m.target.ins.length cp0) := row_cell HB0.out.e 8
        have x0_0_9 : W0.cell? ⟨w.heap.size, 9, none⟩ = some (.slice ad1 m.target.outs.length cp1) := row_cell HB0.out.e 9
        have x0_0_10 : W0.cell? ⟨w.heap.size, 10, none⟩ = some (.slice ad2 m.seen.length cp2) := row_cell HB0.out.e 10
        have x0_0_11 : W0.cell? ⟨w.heap.size, 11, none⟩ = some (.int .i64 m.count) := row_cell HB0.out.e 11
        have x0_0_12 : W0.cell? ⟨w.heap.size, 12, none⟩ = some (.bool m.turn.over) := row_cell HB0.out.e 12
        have x0_0_13 : W0.cell? ⟨w.heap.size, 13, none⟩ = some (.int .i64 m.turn.code) := row_cell HB0.out.e 13
        have x0_0_14 : W0.cell? ⟨w.heap.size, 14, none⟩ = some (.string m.turn.text) := row_cell HB0.out.e 14
        have x0_0_15 : W0.cell? ⟨w.heap.size, 15, none⟩ = some (.int .i64 m.turn.kind) := row_cell HB0.out.e 15
        have x0_0_16 : W0.cell? ⟨w.heap.size, 16, none⟩ = some (.string m.turn.name) := row_cell HB0.out.e 16
        have x0_0_17 : W0.cell? ⟨w.heap.size, 17, none⟩ = some (.int .i64 m.turn.steps) := row_cell HB0.out.e 17
        have x0_0_18 : W0.cell? ⟨w.heap.size, 18, none⟩ = some (.slice ad3 m.turn.files.length cp3) := row_cell HB0.out.e 18
        have x0_0_19 : W0.cell? ⟨w.heap.size, 19, none⟩ = some (.slice ad4 m.turn.said.length cp4) := row_cell HB0.out.e 19
        go_wp2
        go_ret
        exact ⟨says_f fun h => C2.out h.2.2.1, HB0.out.lo⟩
    · have q1 : (m.to == 0) = false := by simp [c1]
      have C1 := hid c1
      clear c1
      go_enter Tryz.func19, Tryz.ntmps19
      go_upto_region 1 with fail
      clear hW0
      have x0_0_0 : W0.cell? ⟨w.heap.size, 0, none⟩ = some (.int .i64 m.kind) := row_cell HB0.out.e 0
      have x0_0_1 : W0.cell? ⟨w.heap.size, 1, none⟩ = some (.int .i64 m.to) := row_cell HB0.out.e 1
      have x0_0_2 : W0.cell? ⟨w.heap.size, 2, none⟩ = some (.int .i64 m.sender) := row_cell HB0.out.e 2
      have x0_0_3 : W0.cell? ⟨w.heap.size, 3, none⟩ = some (.int .i64 m.epoch) := row_cell HB0.out.e 3
      have x0_0_4 : W0.cell? ⟨w.heap.size, 4, none⟩ = some (.int .i64 m.edit) := row_cell HB0.out.e 4
      have x0_0_5 : W0.cell? ⟨w.heap.size, 5, none⟩ = some (.string m.target.name) := row_cell HB0.out.e 5
      have x0_0_6 : W0.cell? ⟨w.heap.size, 6, none⟩ = some (.string m.target.tool) := row_cell HB0.out.e 6
      have x0_0_7 : W0.cell? ⟨w.heap.size, 7, none⟩ = some (.string m.target.arg) := row_cell HB0.out.e 7
      have x0_0_8 : W0.cell? ⟨w.heap.size, 8, none⟩ = some (.slice ad0 m.target.ins.length cp0) := row_cell HB0.out.e 8
      have x0_0_9 : W0.cell? ⟨w.heap.size, 9, none⟩ = some (.slice ad1 m.target.outs.length cp1) := row_cell HB0.out.e 9
      have x0_0_10 : W0.cell? ⟨w.heap.size, 10, none⟩ = some (.slice ad2 m.seen.length cp2) := row_cell HB0.out.e 10
      have x0_0_11 : W0.cell? ⟨w.heap.size, 11, none⟩ = some (.int .i64 m.count) := row_cell HB0.out.e 11
      have x0_0_12 : W0.cell? ⟨w.heap.size, 12, none⟩ = some (.bool m.turn.over) := row_cell HB0.out.e 12
      have x0_0_13 : W0.cell? ⟨w.heap.size, 13, none⟩ = some (.int .i64 m.turn.code) := row_cell HB0.out.e 13
      have x0_0_14 : W0.cell? ⟨w.heap.size, 14, none⟩ = some (.string m.turn.text) := row_cell HB0.out.e 14
      have x0_0_15 : W0.cell? ⟨w.heap.size, 15, none⟩ = some (.int .i64 m.turn.kind) := row_cell HB0.out.e 15
      have x0_0_16 : W0.cell? ⟨w.heap.size, 16, none⟩ = some (.string m.turn.name) := row_cell HB0.out.e 16
      have x0_0_17 : W0.cell? ⟨w.heap.size, 17, none⟩ = some (.int .i64 m.turn.steps) := row_cell HB0.out.e 17
      have x0_0_18 : W0.cell? ⟨w.heap.size, 18, none⟩ = some (.slice ad3 m.turn.files.length cp3) := row_cell HB0.out.e 18
      have x0_0_19 : W0.cell? ⟨w.heap.size, 19, none⟩ = some (.slice ad4 m.turn.said.length cp4) := row_cell HB0.out.e 19
      go_wp2
      go_ret
      exact ⟨says_f fun h => C1.out h.2.1, HB0.out.lo⟩
  · have q0 : (m.kind == 0) = false := by simp [c0]
    have C0 := hid c0
    clear c0
    go_enter Tryz.func19, Tryz.ntmps19
    go_upto_region 1 with fail
    clear hW0
    have x0_0_0 : W0.cell? ⟨w.heap.size, 0, none⟩ = some (.int .i64 m.kind) := row_cell HB0.out.e 0
    have x0_0_1 : W0.cell? ⟨w.heap.size, 1, none⟩ = some (.int .i64 m.to) := row_cell HB0.out.e 1
    have x0_0_2 : W0.cell? ⟨w.heap.size, 2, none⟩ = some (.int .i64 m.sender) := row_cell HB0.out.e 2
    have x0_0_3 : W0.cell? ⟨w.heap.size, 3, none⟩ = some (.int .i64 m.epoch) := row_cell HB0.out.e 3
    have x0_0_4 : W0.cell? ⟨w.heap.size, 4, none⟩ = some (.int .i64 m.edit) := row_cell HB0.out.e 4
    have x0_0_5 : W0.cell? ⟨w.heap.size, 5, none⟩ = some (.string m.target.name) := row_cell HB0.out.e 5
    have x0_0_6 : W0.cell? ⟨w.heap.size, 6, none⟩ = some (.string m.target.tool) := row_cell HB0.out.e 6
    have x0_0_7 : W0.cell? ⟨w.heap.size, 7, none⟩ = some (.string m.target.arg) := row_cell HB0.out.e 7
    have x0_0_8 : W0.cell? ⟨w.heap.size, 8, none⟩ = some (.slice ad0 m.target.ins.length cp0) := row_cell HB0.out.e 8
    have x0_0_9 : W0.cell? ⟨w.heap.size, 9, none⟩ = some (.slice ad1 m.target.outs.length cp1) := row_cell HB0.out.e 9
    have x0_0_10 : W0.cell? ⟨w.heap.size, 10, none⟩ = some (.slice ad2 m.seen.length cp2) := row_cell HB0.out.e 10
    have x0_0_11 : W0.cell? ⟨w.heap.size, 11, none⟩ = some (.int .i64 m.count) := row_cell HB0.out.e 11
    have x0_0_12 : W0.cell? ⟨w.heap.size, 12, none⟩ = some (.bool m.turn.over) := row_cell HB0.out.e 12
    have x0_0_13 : W0.cell? ⟨w.heap.size, 13, none⟩ = some (.int .i64 m.turn.code) := row_cell HB0.out.e 13
    have x0_0_14 : W0.cell? ⟨w.heap.size, 14, none⟩ = some (.string m.turn.text) := row_cell HB0.out.e 14
    have x0_0_15 : W0.cell? ⟨w.heap.size, 15, none⟩ = some (.int .i64 m.turn.kind) := row_cell HB0.out.e 15
    have x0_0_16 : W0.cell? ⟨w.heap.size, 16, none⟩ = some (.string m.turn.name) := row_cell HB0.out.e 16
    have x0_0_17 : W0.cell? ⟨w.heap.size, 17, none⟩ = some (.int .i64 m.turn.steps) := row_cell HB0.out.e 17
    have x0_0_18 : W0.cell? ⟨w.heap.size, 18, none⟩ = some (.slice ad3 m.turn.files.length cp3) := row_cell HB0.out.e 18
    have x0_0_19 : W0.cell? ⟨w.heap.size, 19, none⟩ = some (.slice ad4 m.turn.said.length cp4) := row_cell HB0.out.e 19
    go_wp2
    go_ret
    exact ⟨says_f fun h => C0.out h.1, HB0.out.lo⟩
end Go.Proofs.YtlopcjhipajdcaaGreatDoor.Y
/-! What a run could have seen, by the program. -/
namespace Go.Proofs.YtlopcjhipajdcaaGreatDoor.Y
open Go.RowKit R
open Go.Proofs.YtlopcjhipajdcaaGreatDoor.J (FileOk BegOk RepOk ltB Says says_t says_f)
set_option maxRecDepth 20000
set_option maxHeartbeats 1000000 in
theorem mostLooks_any (t : Tg) {v0 v1 : Value} (w : World) (hl : t.ins.length ≤ 1048576) (k0 : SStrA w v0 t.ins) :
    Calls Tryz.prog 163 #[.agg #[.string t.name, .string t.tool, .string t.arg, v0, v1]] w fun e w' => e = .returned (.int .i64 ((t.ins.length : Int) + 101)) ∧ Below w.heap.size w w' := by
  obtain ⟨ad, cp, rfl⟩ := k0.sl
  clear k0
  have HB0 := hid (B1.start w (.cells #[.string t.name, .string t.tool, .string t.arg, .slice ad t.ins.length cp, v1] 35))
  obtain ⟨W0, hW0⟩ : ∃ W, w.alloc (.cells #[.string t.name, .string t.tool, .string t.arg, .slice ad t.ins.length cp, v1] 35) = W := ⟨_, rfl⟩
  rw [hW0] at HB0
  go_enter Tryz.func163, Tryz.ntmps163
  go_upto_region 1 with fail
  clear hW0
  have a3 : W0.cell? ⟨w.heap.size, 3, none⟩ = some (.slice ad t.ins.length cp) := row_cell HB0.out.e 3
  go_wp2
  go_ret
  exact ⟨ret_int (by go_num), HB0.out.lo⟩
theorem all_of_not {l : List Sn} {P : Sn → Prop} (h : ¬ ∃ j, j < l.length ∧ ¬ P (l.getD j sn0)) : ∀ j, j < l.length → P (l.getD j sn0) := fun j hj => Classical.not_not.1 fun hn => h ⟨j, hj, hn⟩
set_option maxHeartbeats 2000000 in
theorem mayHaveSeen_any (t : Tg) (l : List Sn) {v0 v1 v2 : Value} (w : World) (ht : SmTg t) (hl : SmSn l) (k0 : SStrA w v0 t.ins) (k2 : SSnA w v2 l) :
    Calls Tryz.prog 137 #[.agg #[.string t.name, .string t.tool, .string t.arg, v0, v1], v2] w fun e w' => Says e (l.length ≤ t.ins.length + 101 ∧ ∀ j, j < l.length → RepOk (l.getD j sn0).reply.code (l.getD j sn0).reply.text) ∧ Below w.heap.size w w' := by
  obtain ⟨_, _, _, ⟨hi, _⟩, _⟩ := ht
  obtain ⟨hl1, hl2⟩ := hl
  have HM := hid (fun W (k : SStrA W v0 t.ins) => mostLooks_any t (v1 := v1) W hi k)
  have HS := hid (fun W (k : SSnA W v2 l) => hasReply_any (fun x => ¬ RepOk x.reply.code x.reply.text) l W hl1 k fun j hj V => badReply_any _ V (hl2 j hj).2)
  have K0 := hid k0
  have K2 := hid k2
  obtain ⟨ad0, cp0, rfl⟩ := k0.sl
  obtain ⟨ad2, cp2, rfl⟩ := k2.sl
  clear k0 k2 hl2
  have HB0 := hid (B1.start w (.cells #[.string t.name, .string t.tool, .string t.arg, .slice ad0 t.ins.length cp0, v1] 35))
  obtain ⟨W0, hW0⟩ : ∃ W, w.alloc (.cells #[.string t.name, .string t.tool, .string t.arg, .slice ad0 t.ins.length cp0, v1] 35) = W := ⟨_, rfl⟩
  rw [hW0] at HB0
  go_enter Tryz.func137, Tryz.ntmps137
  go_upto_region 1 with fail
  clear hW0
  have a0 : W0.cell? ⟨w.heap.size, 0, none⟩ = some (.string t.name) := row_cell HB0.out.e 0
  have a1 : W0.cell? ⟨w.heap.size, 1, none⟩ = some (.string t.tool) := row_cell HB0.out.e 1
  have a2 : W0.cell? ⟨w.heap.size, 2, none⟩ = some (.string t.arg) := row_cell HB0.out.e 2
  have a3 : W0.cell? ⟨w.heap.size, 3, none⟩ = some (.slice ad0 t.ins.length cp0) := row_cell HB0.out.e 3
  have a4 : W0.cell? ⟨w.heap.size, 4, none⟩ = some v1 := row_cell HB0.out.e 4
  go_wp2_with fail
  refine (HM.out _ (K0.out.next HB0.out.lo)).mono ?_
  rintro e W1 ⟨rfl, hb⟩
  have HB1 := hid (HB0.out.next hb)
  clear hb a0 a1 a2 a3 a4
  by_cases hle : l.length ≤ t.ins.length + 101
  · have HLE := hid hle
    have q : decide ((l.length : Int) ≤ (t.ins.length : Int) + 101) = true := by simp; omega
    have q2 : (l.length : Int) ≤ (t.ins.length : Int) + 101 := by omega
    clear hle
    go_wp2_with fail
    refine (HS.out _ (K2.out.next HB1.out.lo)).mono ?_
    rintro e W2 ⟨⟨b, rfl, hq⟩, hb⟩
    have HB2 := hid (HB1.out.next hb)
    have HQ := hid hq
    clear hb hq
    go_wp2
    go_ret
    refine ⟨⟨!b, rfl, ?_⟩, HB2.out.lo⟩
    constructor
    · intro h
      exact ⟨HLE.out, all_of_not (P := fun x => RepOk x.reply.code x.reply.text) fun h2 => by rw [HQ.out.2 h2] at h; cases h⟩
    · rintro ⟨_, h⟩
      cases b with
      | false => rfl
      | true => obtain ⟨j, hj, hn⟩ := HQ.out.1 rfl; exact absurd (h j hj) hn
  · have HLE := hid hle
    have q2 : ¬ (l.length : Int) ≤ (t.ins.length : Int) + 101 := by omega
    clear hle
    go_wp2
    go_ret
    exact ⟨says_f fun h => HLE.out h.1, HB1.out.lo⟩
set_option maxHeartbeats 2000000 in
theorem couldSee_any (t : Tg) (l : List Sn) {v0 v1 v2 : Value} (w : World) (ht : SmTg t) (hl : SmSn l) (k0 : SStrA w v0 t.ins) (k2 : SSnA w v2 l) :
    Calls Tryz.prog 122 #[.agg #[.string t.name, .string t.tool, .string t.arg, v0, v1], v2] w fun e w' => Says e (SnsOk t.ins.length l) ∧ Below w.heap.size w w' := by
  have HM := hid (fun W (k : SStrA W v0 t.ins) (k' : SSnA W v2 l) => mayHaveSeen_any t l (v1 := v1) W ht hl k k')
  obtain ⟨_, _, _, ⟨hi, _⟩, _⟩ := ht
  obtain ⟨hl1, hl2⟩ := hl
  have HS := hid (fun W (k : SSnA W v2 l) => hasLook_any (fun x => ¬ LookOk x.kind x.name) l W hl1 k fun j hj V => badLook_any _ V (hl2 j hj).1)
  have K0 := hid k0
  have K2 := hid k2
  obtain ⟨ad0, cp0, rfl⟩ := k0.sl
  obtain ⟨ad2, cp2, rfl⟩ := k2.sl
  clear k0 k2 hl2
  have HB0 := hid (B1.start w (.cells #[.string t.name, .string t.tool, .string t.arg, .slice ad0 t.ins.length cp0, v1] 35))
  obtain ⟨W0, hW0⟩ : ∃ W, w.alloc (.cells #[.string t.name, .string t.tool, .string t.arg, .slice ad0 t.ins.length cp0, v1] 35) = W := ⟨_, rfl⟩
  rw [hW0] at HB0
  go_enter Tryz.func122, Tryz.ntmps122
  go_upto_region 1 with fail
  clear hW0
  have a0 : W0.cell? ⟨w.heap.size, 0, none⟩ = some (.string t.name) := row_cell HB0.out.e 0
  have a1 : W0.cell? ⟨w.heap.size, 1, none⟩ = some (.string t.tool) := row_cell HB0.out.e 1
  have a2 : W0.cell? ⟨w.heap.size, 2, none⟩ = some (.string t.arg) := row_cell HB0.out.e 2
  have a3 : W0.cell? ⟨w.heap.size, 3, none⟩ = some (.slice ad0 t.ins.length cp0) := row_cell HB0.out.e 3
  have a4 : W0.cell? ⟨w.heap.size, 4, none⟩ = some v1 := row_cell HB0.out.e 4
  go_wp2_with fail
  refine (HM.out _ (K0.out.next HB0.out.lo) (K2.out.next HB0.out.lo)).mono ?_
  rintro e W1 ⟨hs, hb⟩
  have HB1 := hid (HB0.out.next hb)
  clear hb a0 a1 a2 a3 a4
  by_cases hP : l.length ≤ t.ins.length + 101 ∧ ∀ j, j < l.length → RepOk (l.getD j sn0).reply.code (l.getD j sn0).reply.text
  · have HP := hid hP
    have hq := hs.pos hP
    obtain rfl := hq
    clear hs hP
    go_wp2_with fail
    refine (HS.out _ (K2.out.next HB1.out.lo)).mono ?_
    rintro e W2 ⟨⟨b, rfl, hq⟩, hb⟩
    have HB2 := hid (HB1.out.next hb)
    have HQ := hid hq
    clear hb hq
    go_wp2
    go_ret
    refine ⟨⟨!b, rfl, ?_⟩, HB2.out.lo⟩
    constructor
    · intro h
      have hA := all_of_not (P := fun x => LookOk x.kind x.name) fun h2 => by rw [HQ.out.2 h2] at h; cases h
      exact ⟨HP.out.1, fun j hj => ⟨hA j hj, HP.out.2 j hj⟩⟩
    · rintro ⟨_, h⟩
      cases b with
      | false => rfl
      | true => obtain ⟨j, hj, hn⟩ := HQ.out.1 rfl; exact absurd (h j hj).1 hn
  · have HP := hid hP
    have hq := hs.neg hP
    obtain rfl := hq
    clear hs hP
    go_wp2
    go_ret
    exact ⟨says_f fun h => HP.out ⟨h.1, fun j hj => (h.2 j hj).2⟩, HB1.out.lo⟩
end Go.Proofs.YtlopcjhipajdcaaGreatDoor.Y
