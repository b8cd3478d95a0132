import Derived.Laws.StructEq
import Derived.Test.YtlopcjhipajdcaaGreatDoorJ10
/-! slices.Equal, where one is nothing, or both are one. -/
namespace Go.Proofs.YtlopcjhipajdcaaGreatDoor.Y
open Go.RowKit R
open Go.Proofs.YtlopcjhipajdcaaGreatDoor.J (Says says_t says_f)
set_option maxRecDepth 20000
set_option maxHeartbeats 2000000 in
theorem equalStr_r (l : List ByteArray) {u : Value} (w : World) (hl : l.length ≤ 1048576) (k0 : SStrA w u l) :
    Calls Tryz.prog 82 #[u, .slice none 0 0] w fun e w' => Says e (l = []) ∧ w' = w := by
  obtain ⟨ad, cp, rfl⟩ := k0.sl
  clear k0
  by_cases h0 : l = []
  · subst h0
    go_enter Tryz.func82, Tryz.ntmps82
    go_wp2
    go_loopw [5, 13] (fun _ i wr => i = .int .i64 0 ∧ wr = w) (fun _ _ _ => 0)
    case atStart => exact ⟨rfl, rfl⟩
    case round =>
      obtain ⟨rfl, rfl⟩ := hrel
      go_wp2
      go_ret
      exact ⟨says_t trivial, rfl⟩
  · have hn : l.length ≠ 0 := fun h => h0 (List.eq_nil_of_length_eq_zero h)
    have hne : ((l.length : Int) != 0) = true := by simp; omega
    have hne2 : ((0 : Int) != (l.length : Int)) = true := by simp; omega
    go_enter Tryz.func82, Tryz.ntmps82
    go_wp2
    go_ret
    exact ⟨says_f h0, rfl⟩
set_option maxHeartbeats 2000000 in
theorem equalStr_l (l : List ByteArray) {u : Value} (w : World) (hl : l.length ≤ 1048576) (k0 : SStrA w u l) :
    Calls Tryz.prog 82 #[.slice none 0 0, u] w fun e w' => Says e (l = []) ∧ w' = w := by
  obtain ⟨ad, cp, rfl⟩ := k0.sl
  clear k0
  by_cases h0 : l = []
  · subst h0
    go_enter Tryz.func82, Tryz.ntmps82
    go_wp2
    go_loopw [5, 13] (fun _ i wr => i = .int .i64 0 ∧ wr = w) (fun _ _ _ => 0)
    case atStart => exact ⟨rfl, rfl⟩
    case round =>
      obtain ⟨rfl, rfl⟩ := hrel
      go_wp2
      go_ret
      exact ⟨says_t trivial, rfl⟩
  · have hn : l.length ≠ 0 := fun h => h0 (List.eq_nil_of_length_eq_zero h)
    have hne : ((l.length : Int) != 0) = true := by simp; omega
    have hne2 : ((0 : Int) != (l.length : Int)) = true := by simp; omega
    go_enter Tryz.func82, Tryz.ntmps82
    go_wp2
    go_ret
    exact ⟨says_f h0, rfl⟩
set_option maxHeartbeats 2000000 in
theorem equalFl_r (l : List Fl) {u : Value} (w : World) (hl : l.length ≤ 1048576) (k0 : SFlA w u l) :
    Calls Tryz.prog 83 #[u, .slice none 0 0] w fun e w' => Says e (l = []) ∧ w' = w := by
  obtain ⟨ad, cp, rfl⟩ := k0.sl
  clear k0
  by_cases h0 : l = []
  · subst h0
    go_enter Tryz.func83, Tryz.ntmps83
    go_wp2
    go_loopw [5, 13] (fun _ i wr => i = .int .i64 0 ∧ wr = w) (fun _ _ _ => 0)
    case atStart => exact ⟨rfl, rfl⟩
    case round =>
      obtain ⟨rfl, rfl⟩ := hrel
      go_wp2
      go_ret
      exact ⟨says_t trivial, rfl⟩
  · have hn : l.length ≠ 0 := fun h => h0 (List.eq_nil_of_length_eq_zero h)
    have hne : ((l.length : Int) != 0) = true := by simp; omega
    have hne2 : ((0 : Int) != (l.length : Int)) = true := by simp; omega
    go_enter Tryz.func83, Tryz.ntmps83
    go_wp2
    go_ret
    exact ⟨says_f h0, rfl⟩
set_option maxHeartbeats 2000000 in
theorem equalFl_l (l : List Fl) {u : Value} (w : World) (hl : l.length ≤ 1048576) (k0 : SFlA w u l) :
    Calls Tryz.prog 83 #[.slice none 0 0, u] w fun e w' => Says e (l = []) ∧ w' = w := by
  obtain ⟨ad, cp, rfl⟩ := k0.sl
  clear k0
  by_cases h0 : l = []
  · subst h0
    go_enter Tryz.func83, Tryz.ntmps83
    go_wp2
    go_loopw [5, 13] (fun _ i wr => i = .int .i64 0 ∧ wr = w) (fun _ _ _ => 0)
    case atStart => exact ⟨rfl, rfl⟩
    case round =>
      obtain ⟨rfl, rfl⟩ := hrel
      go_wp2
      go_ret
      exact ⟨says_t trivial, rfl⟩
  · have hn : l.length ≠ 0 := fun h => h0 (List.eq_nil_of_length_eq_zero h)
    have hne : ((l.length : Int) != 0) = true := by simp; omega
    have hne2 : ((0 : Int) != (l.length : Int)) = true := by simp; omega
    go_enter Tryz.func83, Tryz.ntmps83
    go_wp2
    go_ret
    exact ⟨says_f h0, rfl⟩
set_option maxHeartbeats 2000000 in
theorem equalSn_r (l : List Sn) {u : Value} (w : World) (hl : l.length ≤ 1048576) (k0 : SSnA w u l) :
    Calls Tryz.prog 55 #[u, .slice none 0 0] w fun e w' => Says e (l = []) ∧ w' = w := by
  obtain ⟨ad, cp, rfl⟩ := k0.sl
  clear k0
  by_cases h0 : l = []
  · subst h0
    go_enter Tryz.func55, Tryz.ntmps55
    go_wp2
    go_loopw [5, 13] (fun _ i wr => i = .int .i64 0 ∧ wr = w) (fun _ _ _ => 0)
    case atStart => exact ⟨rfl, rfl⟩
    case round =>
      obtain ⟨rfl, rfl⟩ := hrel
      go_wp2
      go_ret
      exact ⟨says_t trivial, rfl⟩
  · have hn : l.length ≠ 0 := fun h => h0 (List.eq_nil_of_length_eq_zero h)
    have hne : ((l.length : Int) != 0) = true := by simp; omega
    have hne2 : ((0 : Int) != (l.length : Int)) = true := by simp; omega
    go_enter Tryz.func55, Tryz.ntmps55
    go_wp2
    go_ret
    exact ⟨says_f h0, rfl⟩
/-- A reply is what it is. -/
theorem eqR1 (d : Nat) (c : Int) (t : ByteArray) (w : World) : (Op.equalIn (d + 2) 86 (.agg #[.int .i64 c, .string t]) (.agg #[.int .i64 c, .string t])).run Tryz.prog w = .ok true w := by
  have u3 := Tryz.underlying3
  have u9 := Tryz.underlying9
  rw [run_equalIn_agg w (d + 1) 86 _ _ (by kernel_rfl) (by kernel_rfl)]
  simp only [Program.fieldsOf, Tryz.underlying86]
  go_simp
/-- A look is what it is. -/
theorem eqS1 (k c : Int) (n t : ByteArray) (w : World) : (Op.equalIn 10000 88 (.agg #[.int .i64 k, .string n, .int .i64 c, .string t]) (.agg #[.int .i64 k, .string n, .int .i64 c, .string t])).run Tryz.prog w = .ok true w := by
  have u3 := Tryz.underlying3
  have u9 := Tryz.underlying9
  have hr := fun w => eqR1 9997 c t w
  rw [show (10000 : Nat) = 9999 + 1 from rfl, run_equalIn_agg w 9999 88 _ _ (by kernel_rfl) (by kernel_rfl)]
  simp only [Program.fieldsOf, Tryz.underlying88]
  go_simp
theorem neqS1 (k c : Int) (n t : ByteArray) (w : World) : (binOp .neq 88 (.agg #[.int .i64 k, .string n, .int .i64 c, .string t]) (.agg #[.int .i64 k, .string n, .int .i64 c, .string t])).run Tryz.prog w = .ok (.bool false) w := by
  rw [run_neq_struct, eqS1]; rfl
set_option maxHeartbeats 2000000 in
/-- Looks are what they are. -/
theorem equalSn_same (l : List Sn) {u v : Value} (w : World) (hl : l.length ≤ 1048576) (k0 : SSnA w u l) (k1 : SSnA w v l) :
    Calls Tryz.prog 55 #[u, v] w fun e w' => e = .returned (.bool true) ∧ Below w.heap.size w w' := by
  have H1 := hid k0
  have H2 := hid k1
  obtain ⟨ad, cp, rfl⟩ := k0.sl
  obtain ⟨ae, cq, rfl⟩ := k1.sl
  clear k0 k1
  have hne : ((l.length : Int) != (l.length : Int)) = false := by simp
  go_enter Tryz.func55, Tryz.ntmps55
  go_wp2
  go_loopw [5, 13] (fun _ i wr => ∃ j : Nat, j ≤ l.length ∧ i = .int .i64 j ∧ Below w.heap.size w wr) (fun _ i _ => l.length - (intOf i).toNat)
  case atStart => exact ⟨0, Nat.zero_le _, rfl, Below.refl _ _⟩
  case round =>
    obtain ⟨j, hj, rfl, hbw⟩ := hrel
    have HBW := hid hbw
    clear hbw
    by_cases hlt : j < l.length
    · obtain ⟨a, c, e9, hal, c0, c1, c2, c3⟩ := (H1.out.next HBW.out).at hlt
      injection e9 with ea en ec
      subst ea ec
      obtain ⟨b, d, e8, hbl, d0, d1, d2, d3⟩ := (H2.out.next HBW.out).at hlt
      injection e8 with eb en2 ed
      subst eb ed
      clear en en2
      obtain ⟨x, hx⟩ : ∃ x, l.getD j sn0 = x := ⟨_, rfl⟩
      rw [hx] at c0 c1 c2 c3 d0 d1 d2 d3
      clear hx
      have h5 := fun w => neqS1 x.kind x.reply.code x.name x.reply.text w
      go_wp2_with fail
      go_quiet (fail)
      go_wp2
      go_roundw
      case rel => exact ⟨j + 1, by omega, by go_num, below_drewN HBW.out nq⟩
      case measure => simp [intOf]; omega
    · obtain rfl : j = l.length := by omega
      go_wp2
      go_ret
      exact ⟨rfl, HBW.out⟩
end Go.Proofs.YtlopcjhipajdcaaGreatDoor.Y
