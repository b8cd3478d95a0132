import Derived.Test.YtlopcjhipajdcaaGreatDoorJ12
import Derived.Test.YtlopcjhipajdcaaGreatDoorJ43
import Derived.Test.YtlopcjhipajdcaaGreatDoorJ38
/-! Sameness over rows that can be read. Printed by gen_yeqr.py. -/
namespace Go.Proofs.YtlopcjhipajdcaaGreatDoor.Y
open Go.RowKit R
set_option maxRecDepth 20000
set_option maxHeartbeats 4000000 in
theorem eqSStr_any (l : List ByteArray) {u v : Value} (w : World) (hx : LoStrS l) (k0 : RdStr w u l) (l0 : RdStr w v l) :
    Calls Tryz.prog 67 #[u, v] w fun e w' => e = .returned (.bool true) ∧ Below w.heap.size w w' := by
  have H1 := hid k0
  have H2 := hid l0
  have HX := hid hx
  have hN : l.length ≤ 1048576 := hx
  obtain ⟨au, cu, rfl⟩ := k0.sl
  obtain ⟨av, cv, rfl⟩ := l0.sl
  clear k0 l0 hx
  have hne : ((l.length : Int) != (l.length : Int)) = false := by simp
  go_enter Tryz.func67, Tryz.ntmps67
  go_wp2
  go_loopw [5] (fun i wr => ∃ j : Nat, j ≤ l.length ∧ i = .int .i64 j ∧ Below w.heap.size w wr) (fun i _ => l.length - (intOf i).toNat)
  case atStart => exact ⟨0, Nat.zero_le _, rfl, Below.refl _ _⟩
  case round =>
    obtain ⟨j, hj, rfl, hbw⟩ := hrel
    have HBW := hid hbw
    clear hbw
    by_cases hlt : j < l.length
    · obtain ⟨gu, eu, hgu, a0⟩ := (H1.out.next HBW.out).at hlt
      obtain ⟨gv, ev, hgv, b0⟩ := (H2.out.next HBW.out).at hlt
      subst eu ev
      obtain ⟨x, hx⟩ : ∃ x, l.getD j ⟨#[]⟩ = x := ⟨_, rfl⟩
      rw [hx] at a0 b0
      clear hx
      have h5 : (x.toList != x.toList) = false := by simp
      go_wp2_with fail
      go_quiet (fail)
      go_wp2
      go_roundw
      case rel => exact ⟨j + 1, by omega, by go_num, below_drewN HBW.out nq⟩
      case measure => simp [intOf]; omega
    · obtain rfl : j = l.length := by omega
      go_wp2
      go_ret
      exact ⟨rfl, HBW.out⟩
set_option maxHeartbeats 4000000 in
theorem eqSFl_any (l : List Fl) {u v : Value} (w : World) (hx : LoFlS l) (k0 : RdFl w u l) (l0 : RdFl w v l) :
    Calls Tryz.prog 69 #[u, v] w fun e w' => e = .returned (.bool true) ∧ Below w.heap.size w w' := by
  have H1 := hid k0
  have H2 := hid l0
  have HX := hid hx
  have hN : l.length ≤ 1048576 := hx.1
  obtain ⟨au, cu, rfl⟩ := k0.sl
  obtain ⟨av, cv, rfl⟩ := l0.sl
  clear k0 l0 hx
  have hne : ((l.length : Int) != (l.length : Int)) = false := by simp
  go_enter Tryz.func69, Tryz.ntmps69
  go_wp2
  go_loopw [5] (fun i wr => ∃ j : Nat, j ≤ l.length ∧ i = .int .i64 j ∧ Below w.heap.size w wr) (fun i _ => l.length - (intOf i).toNat)
  case atStart => exact ⟨0, Nat.zero_le _, rfl, Below.refl _ _⟩
  case round =>
    obtain ⟨j, hj, rfl, hbw⟩ := hrel
    have HBW := hid hbw
    clear hbw
    by_cases hlt : j < l.length
    · obtain ⟨gu, eu, hgu, a0, a1⟩ := (H1.out.next HBW.out).at hlt
      obtain ⟨gv, ev, hgv, b0, b1⟩ := (H2.out.next HBW.out).at hlt
      subst eu ev
      have HLO := hid (HX.out.2 j hlt)
      obtain ⟨x, hx⟩ : ∃ x, l.getD j fl0 = x := ⟨_, rfl⟩
      rw [hx] at HLO a0 b0 a1 b1
      clear hx
      have A0 := fun p : Gr wr => (p.h.cell (p := ⟨_, _, none⟩) hgu).trans a0
      have C0 := fun p : Gr wr => (p.h.cell (p := ⟨_, _, none⟩) hgv).trans b0
      have A1 := fun p : Gr wr => (p.h.cell (p := ⟨_, _, none⟩) hgu).trans a1
      have C1 := fun p : Gr wr => (p.h.cell (p := ⟨_, _, none⟩) hgv).trans b1
      clear a0 b0 a1 b1
      go_wp2_with fail
      have hne2 : Nonempty (Gr wr) := ⟨⟨wr, Below.refl _ _⟩⟩
      refine wp_region_gr (by kernel_rfl) (by kernel_rfl) ?_
      repeat (go_big_quiet_step (first | (go_at_call 94; refine Calls.gr_of (v := .bool true) fun hpw => ?_; exact eqFl_same x _)))
      refine wpQuiet_nil ?_
      intro _ hw'
      obtain ⟨pw, rfl⟩ := hw'
      have HB4 := hid (HBW.out.trans (pw.h.mono HBW.out.size))
      clear A0 C0 A1 C1
      go_wp2
      go_roundw
      case rel => exact ⟨j + 1, by omega, by go_num, HB4.out⟩
      case measure => simp [intOf]; omega
    · obtain rfl : j = l.length := by omega
      go_wp2
      go_ret
      exact ⟨rfl, HBW.out⟩
set_option maxHeartbeats 4000000 in
theorem eqSSn_any (l : List Sn) {u v : Value} (w : World) (hx : LoSnS l) (k0 : RdSn w u l) (l0 : RdSn w v l) :
    Calls Tryz.prog 35 #[u, v] w fun e w' => e = .returned (.bool true) ∧ Below w.heap.size w w' := by
  have H1 := hid k0
  have H2 := hid l0
  have HX := hid hx
  have hN : l.length ≤ 1048576 := hx.1
  obtain ⟨au, cu, rfl⟩ := k0.sl
  obtain ⟨av, cv, rfl⟩ := l0.sl
  clear k0 l0 hx
  have hne : ((l.length : Int) != (l.length : Int)) = false := by simp
  go_enter Tryz.func35, Tryz.ntmps35
  go_wp2
  go_loopw [5] (fun i wr => ∃ j : Nat, j ≤ l.length ∧ i = .int .i64 j ∧ Below w.heap.size w wr) (fun i _ => l.length - (intOf i).toNat)
  case atStart => exact ⟨0, Nat.zero_le _, rfl, Below.refl _ _⟩
  case round =>
    obtain ⟨j, hj, rfl, hbw⟩ := hrel
    have HBW := hid hbw
    clear hbw
    by_cases hlt : j < l.length
    · obtain ⟨gu, eu, hgu, a0, a1, a2, a3⟩ := (H1.out.next HBW.out).at hlt
      obtain ⟨gv, ev, hgv, b0, b1, b2, b3⟩ := (H2.out.next HBW.out).at hlt
      subst eu ev
      have HLO := hid (HX.out.2 j hlt)
      obtain ⟨x, hx⟩ : ∃ x, l.getD j sn0 = x := ⟨_, rfl⟩
      rw [hx] at HLO a0 b0 a1 b1 a2 b2 a3 b3
      clear hx
      have A0 := fun p : Gr wr => (p.h.cell (p := ⟨_, _, none⟩) hgu).trans a0
      have C0 := fun p : Gr wr => (p.h.cell (p := ⟨_, _, none⟩) hgv).trans b0
      have A1 := fun p : Gr wr => (p.h.cell (p := ⟨_, _, none⟩) hgu).trans a1
      have C1 := fun p : Gr wr => (p.h.cell (p := ⟨_, _, none⟩) hgv).trans b1
      have A2 := fun p : Gr wr => (p.h.cell (p := ⟨_, _, none⟩) hgu).trans a2
      have C2 := fun p : Gr wr => (p.h.cell (p := ⟨_, _, none⟩) hgv).trans b2
      have A3 := fun p : Gr wr => (p.h.cell (p := ⟨_, _, none⟩) hgu).trans a3
      have C3 := fun p : Gr wr => (p.h.cell (p := ⟨_, _, none⟩) hgv).trans b3
      clear a0 b0 a1 b1 a2 b2 a3 b3
      go_wp2_with fail
      have hne2 : Nonempty (Gr wr) := ⟨⟨wr, Below.refl _ _⟩⟩
      refine wp_region_gr (by kernel_rfl) (by kernel_rfl) ?_
      repeat (go_big_quiet_step (first | (go_at_call 68; refine Calls.gr_of (v := .bool true) fun hpw => ?_; exact eqSn_same x _)))
      refine wpQuiet_nil ?_
      intro _ hw'
      obtain ⟨pw, rfl⟩ := hw'
      have HB4 := hid (HBW.out.trans (pw.h.mono HBW.out.size))
      clear A0 C0 A1 C1 A2 C2 A3 C3
      go_wp2
      go_roundw
      case rel => exact ⟨j + 1, by omega, by go_num, HB4.out⟩
      case measure => simp [intOf]; omega
    · obtain rfl : j = l.length := by omega
      go_wp2
      go_ret
      exact ⟨rfl, HBW.out⟩
set_option maxHeartbeats 4000000 in
theorem eqTg_any (x : Tg) {u0 v0 u1 v1 : Value} (w : World) (hx : LoTg x) (k0 : RdStr w u0 x.ins) (l0 : RdStr w v0 x.ins) (k1 : RdStr w u1 x.outs) (l1 : RdStr w v1 x.outs) :
    Calls Tryz.prog 34 #[.agg #[.string x.name, .string x.tool, .string x.arg, u0, u1], .agg #[.string x.name, .string x.tool, .string x.arg, v0, v1]] w fun e w' => e = .returned (.bool true) ∧ Below w.heap.size w w' := by
  have e0 : (x.name.toList != x.name.toList) = false := by simp
  have e1 : (x.tool.toList != x.tool.toList) = false := by simp
  have e2 : (x.arg.toList != x.arg.toList) = false := by simp
  have K0 := hid (And.intro k0 l0)
  obtain ⟨gu0, cu0, rfl⟩ := k0.sl
  obtain ⟨gv0, cv0, rfl⟩ := l0.sl
  clear k0 l0
  have K1 := hid (And.intro k1 l1)
  obtain ⟨gu1, cu1, rfl⟩ := k1.sl
  obtain ⟨gv1, cv1, rfl⟩ := l1.sl
  clear k1 l1
  have HLO := hid hx
  clear hx
  have HB0 := hid (B2.start w (.cells #[.string x.name, .string x.tool, .string x.arg, .slice gu0 x.ins.length cu0, .slice gu1 x.outs.length cu1] 35) (.cells #[.string x.name, .string x.tool, .string x.arg, .slice gv0 x.ins.length cv0, .slice gv1 x.outs.length cv1] 35))
  go_enter Tryz.func34, Tryz.ntmps34
  go_wp2_with fail
  refine (eqSStr_any x.ins _ HLO.out.1 (K0.out.1.next HB0.out.lo) (K0.out.2.next HB0.out.lo)).mono ?_
  rintro e w1 ⟨rfl, hb0⟩
  have HB1 := hid (HB0.out.next hb0)
  clear hb0
  have p1_4 : w1.cell? ⟨w.heap.size, 4, none⟩ = some (.slice gu1 x.outs.length cu1) := row_cell HB1.out.e 4
  have q1_4 : w1.cell? ⟨w.heap.size + 1, 4, none⟩ = some (.slice gv1 x.outs.length cv1) := row_cell HB1.out.f 4
  go_wp2_with fail
  refine (eqSStr_any x.outs _ HLO.out.2 (K1.out.1.next HB1.out.lo) (K1.out.2.next HB1.out.lo)).mono ?_
  rintro e w2 ⟨rfl, hb1⟩
  have HB2 := hid (HB1.out.next hb1)
  clear hb1
  go_wp2
  go_ret
  exact ⟨rfl, HB2.out.lo⟩
set_option maxHeartbeats 4000000 in
theorem eqTu_any (x : Tu) {u0 v0 u1 v1 : Value} (w : World) (hx : LoTu x) (k0 : RdFl w u0 x.files) (l0 : RdFl w v0 x.files) (k1 : RdStr w u1 x.said) (l1 : RdStr w v1 x.said) :
    Calls Tryz.prog 36 #[.agg #[.bool x.over, .int .i64 x.code, .string x.text, .int .i64 x.kind, .string x.name, .int .i64 x.steps, u0, u1], .agg #[.bool x.over, .int .i64 x.code, .string x.text, .int .i64 x.kind, .string x.name, .int .i64 x.steps, v0, v1]] w fun e w' => e = .returned (.bool true) ∧ Below w.heap.size w w' := by
  have e0 : (x.text.toList != x.text.toList) = false := by simp
  have e1 : (x.name.toList != x.name.toList) = false := by simp
  have i0 : (x.over != x.over) = false := by simp
  have i1 : (x.code != x.code) = false := by simp
  have i2 : (x.kind != x.kind) = false := by simp
  have i3 : (x.steps != x.steps) = false := by simp
  have K0 := hid (And.intro k0 l0)
  obtain ⟨gu0, cu0, rfl⟩ := k0.sl
  obtain ⟨gv0, cv0, rfl⟩ := l0.sl
  clear k0 l0
  have K1 := hid (And.intro k1 l1)
  obtain ⟨gu1, cu1, rfl⟩ := k1.sl
  obtain ⟨gv1, cv1, rfl⟩ := l1.sl
  clear k1 l1
  have HLO := hid hx
  clear hx
  have HB0 := hid (B2.start w (.cells #[.bool x.over, .int .i64 x.code, .string x.text, .int .i64 x.kind, .string x.name, .int .i64 x.steps, .slice gu0 x.files.length cu0, .slice gu1 x.said.length cu1] 39) (.cells #[.bool x.over, .int .i64 x.code, .string x.text, .int .i64 x.kind, .string x.name, .int .i64 x.steps, .slice gv0 x.files.length cv0, .slice gv1 x.said.length cv1] 39))
  go_enter Tryz.func36, Tryz.ntmps36
  go_wp2_with fail
  refine (eqSFl_any x.files _ HLO.out.1 (K0.out.1.next HB0.out.lo) (K0.out.2.next HB0.out.lo)).mono ?_
  rintro e w1 ⟨rfl, hb0⟩
  have HB1 := hid (HB0.out.next hb0)
  clear hb0
  have p1_7 : w1.cell? ⟨w.heap.size, 7, none⟩ = some (.slice gu1 x.said.length cu1) := row_cell HB1.out.e 7
  have q1_7 : w1.cell? ⟨w.heap.size + 1, 7, none⟩ = some (.slice gv1 x.said.length cv1) := row_cell HB1.out.f 7
  go_wp2_with fail
  refine (eqSStr_any x.said _ HLO.out.2 (K1.out.1.next HB1.out.lo) (K1.out.2.next HB1.out.lo)).mono ?_
  rintro e w2 ⟨rfl, hb1⟩
  have HB2 := hid (HB1.out.next hb1)
  clear hb1
  go_wp2
  go_ret
  exact ⟨rfl, HB2.out.lo⟩
set_option maxHeartbeats 4000000 in
theorem eqMs_any (x : Ms) {u0 v0 u1 v1 u2 v2 u3 v3 u4 v4 : Value} (w : World) (hx : LoMs x) (k0 : RdStr w u0 x.target.ins) (l0 : RdStr w v0 x.target.ins) (k1 : RdStr w u1 x.target.outs) (l1 : RdStr w v1 x.target.outs) (k2 : RdSn w u2 x.seen) (l2 : RdSn w v2 x.seen) (k3 : RdFl w u3 x.turn.files) (l3 : RdFl w v3 x.turn.files) (k4 : RdStr w u4 x.turn.said) (l4 : RdStr w v4 x.turn.said) :
    Calls Tryz.prog 14 #[.agg #[.int .i64 x.kind, .int .i64 x.to, .int .i64 x.sender, .int .i64 x.epoch, .int .i64 x.edit, .string x.target.name, .string x.target.tool, .string x.target.arg, u0, u1, u2, .int .i64 x.count, .bool x.turn.over, .int .i64 x.turn.code, .string x.turn.text, .int .i64 x.turn.kind, .string x.turn.name, .int .i64 x.turn.steps, u3, u4], .agg #[.int .i64 x.kind, .int .i64 x.to, .int .i64 x.sender, .int .i64 x.epoch, .int .i64 x.edit, .string x.target.name, .string x.target.tool, .string x.target.arg, v0, v1, v2, .int .i64 x.count, .bool x.turn.over, .int .i64 x.turn.code, .string x.turn.text, .int .i64 x.turn.kind, .string x.turn.name, .int .i64 x.turn.steps, v3, v4]] w fun e w' => e = .returned (.bool true) ∧ Below w.heap.size w w' := by
  have e0 : (x.target.name.toList != x.target.name.toList) = false := by simp
  have e1 : (x.target.tool.toList != x.target.tool.toList) = false := by simp
  have e2 : (x.target.arg.toList != x.target.arg.toList) = false := by simp
  have e3 : (x.turn.text.toList != x.turn.text.toList) = false := by simp
  have e4 : (x.turn.name.toList != x.turn.name.toList) = false := by simp
  have i0 : (x.kind != x.kind) = false := by simp
  have i1 : (x.to != x.to) = false := by simp
  have i2 : (x.sender != x.sender) = false := by simp
  have i3 : (x.epoch != x.epoch) = false := by simp
  have i4 : (x.edit != x.edit) = false := by simp
  have i5 : (x.count != x.count) = false := by simp
  have i6 : (x.turn.over != x.turn.over) = false := by simp
  have i7 : (x.turn.code != x.turn.code) = false := by simp
  have i8 : (x.turn.kind != x.turn.kind) = false := by simp
  have i9 : (x.turn.steps != x.turn.steps) = false := by simp
  have K0 := hid (And.intro k0 l0)
  obtain ⟨gu0, cu0, rfl⟩ := k0.sl
  obtain ⟨gv0, cv0, rfl⟩ := l0.sl
  clear k0 l0
  have K1 := hid (And.intro k1 l1)
  obtain ⟨gu1, cu1, rfl⟩ := k1.sl
  obtain ⟨gv1, cv1, rfl⟩ := l1.sl
  clear k1 l1
  have K2 := hid (And.intro k2 l2)
  obtain ⟨gu2, cu2, rfl⟩ := k2.sl
  obtain ⟨gv2, cv2, rfl⟩ := l2.sl
  clear k2 l2
  have K3 := hid (And.intro k3 l3)
  obtain ⟨gu3, cu3, rfl⟩ := k3.sl
  obtain ⟨gv3, cv3, rfl⟩ := l3.sl
  clear k3 l3
  have K4 := hid (And.intro k4 l4)
  obtain ⟨gu4, cu4, rfl⟩ := k4.sl
  obtain ⟨gv4, cv4, rfl⟩ := l4.sl
  clear k4 l4
  have HLO := hid hx
  clear hx
  have HB0 := hid (B2.start w (.cells #[.int .i64 x.kind, .int .i64 x.to, .int .i64 x.sender, .int .i64 x.epoch, .int .i64 x.edit, .string x.target.name, .string x.target.tool, .string x.target.arg, .slice gu0 x.target.ins.length cu0, .slice gu1 x.target.outs.length cu1, .slice gu2 x.seen.length cu2, .int .i64 x.count, .bool x.turn.over, .int .i64 x.turn.code, .string x.turn.text, .int .i64 x.turn.kind, .string x.turn.name, .int .i64 x.turn.steps, .slice gu3 x.turn.files.length cu3, .slice gu4 x.turn.said.length cu4] 41) (.cells #[.int .i64 x.kind, .int .i64 x.to, .int .i64 x.sender, .int .i64 x.epoch, .int .i64 x.edit, .string x.target.name, .string x.target.tool, .string x.target.arg, .slice gv0 x.target.ins.length cv0, .slice gv1 x.target.outs.length cv1, .slice gv2 x.seen.length cv2, .int .i64 x.count, .bool x.turn.over, .int .i64 x.turn.code, .string x.turn.text, .int .i64 x.turn.kind, .string x.turn.name, .int .i64 x.turn.steps, .slice gv3 x.turn.files.length cv3, .slice gv4 x.turn.said.length cv4] 41))
  go_enter Tryz.func14, Tryz.ntmps14
  go_wp2_with fail
  refine (eqTg_any x.target _ HLO.out.1 (K0.out.1.next HB0.out.lo) (K0.out.2.next HB0.out.lo) (K1.out.1.next HB0.out.lo) (K1.out.2.next HB0.out.lo)).mono ?_
  rintro e w1 ⟨rfl, hb0⟩
  have HB1 := hid (HB0.out.next hb0)
  clear hb0
  have p1_10 : w1.cell? ⟨w.heap.size, 10, none⟩ = some (.slice gu2 x.seen.length cu2) := row_cell HB1.out.e 10
  have q1_10 : w1.cell? ⟨w.heap.size + 1, 10, none⟩ = some (.slice gv2 x.seen.length cv2) := row_cell HB1.out.f 10
  have p1_11 : w1.cell? ⟨w.heap.size, 11, none⟩ = some (.int .i64 x.count) := row_cell HB1.out.e 11
  have q1_11 : w1.cell? ⟨w.heap.size + 1, 11, none⟩ = some (.int .i64 x.count) := row_cell HB1.out.f 11
  have p1_12 : w1.cell? ⟨w.heap.size, 12, none⟩ = some (.bool x.turn.over) := row_cell HB1.out.e 12
  have q1_12 : w1.cell? ⟨w.heap.size + 1, 12, none⟩ = some (.bool x.turn.over) := row_cell HB1.out.f 12
  have p1_13 : w1.cell? ⟨w.heap.size, 13, none⟩ = some (.int .i64 x.turn.code) := row_cell HB1.out.e 13
  have q1_13 : w1.cell? ⟨w.heap.size + 1, 13, none⟩ = some (.int .i64 x.turn.code) := row_cell HB1.out.f 13
  have p1_14 : w1.cell? ⟨w.heap.size, 14, none⟩ = some (.string x.turn.text) := row_cell HB1.out.e 14
  have q1_14 : w1.cell? ⟨w.heap.size + 1, 14, none⟩ = some (.string x.turn.text) := row_cell HB1.out.f 14
  have p1_15 : w1.cell? ⟨w.heap.size, 15, none⟩ = some (.int .i64 x.turn.kind) := row_cell HB1.out.e 15
  have q1_15 : w1.cell? ⟨w.heap.size + 1, 15, none⟩ = some (.int .i64 x.turn.kind) := row_cell HB1.out.f 15
  have p1_16 : w1.cell? ⟨w.heap.size, 16, none⟩ = some (.string x.turn.name) := row_cell HB1.out.e 16
  have q1_16 : w1.cell? ⟨w.heap.size + 1, 16, none⟩ = some (.string x.turn.name) := row_cell HB1.out.f 16
  have p1_17 : w1.cell? ⟨w.heap.size, 17, none⟩ = some (.int .i64 x.turn.steps) := row_cell HB1.out.e 17
  have q1_17 : w1.cell? ⟨w.heap.size + 1, 17, none⟩ = some (.int .i64 x.turn.steps) := row_cell HB1.out.f 17
  have p1_18 : w1.cell? ⟨w.heap.size, 18, none⟩ = some (.slice gu3 x.turn.files.length cu3) := row_cell HB1.out.e 18
  have q1_18 : w1.cell? ⟨w.heap.size + 1, 18, none⟩ = some (.slice gv3 x.turn.files.length cv3) := row_cell HB1.out.f 18
  have p1_19 : w1.cell? ⟨w.heap.size, 19, none⟩ = some (.slice gu4 x.turn.said.length cu4) := row_cell HB1.out.e 19
  have q1_19 : w1.cell? ⟨w.heap.size + 1, 19, none⟩ = some (.slice gv4 x.turn.said.length cv4) := row_cell HB1.out.f 19
  go_wp2_with fail
  refine (eqSSn_any x.seen _ HLO.out.2.1 (K2.out.1.next HB1.out.lo) (K2.out.2.next HB1.out.lo)).mono ?_
  rintro e w2 ⟨rfl, hb1⟩
  have HB2 := hid (HB1.out.next hb1)
  clear hb1
  have p2_11 : w2.cell? ⟨w.heap.size, 11, none⟩ = some (.int .i64 x.count) := row_cell HB2.out.e 11
  have q2_11 : w2.cell? ⟨w.heap.size + 1, 11, none⟩ = some (.int .i64 x.count) := row_cell HB2.out.f 11
  have p2_12 : w2.cell? ⟨w.heap.size, 12, none⟩ = some (.bool x.turn.over) := row_cell HB2.out.e 12
  have q2_12 : w2.cell? ⟨w.heap.size + 1, 12, none⟩ = some (.bool x.turn.over) := row_cell HB2.out.f 12
  have p2_13 : w2.cell? ⟨w.heap.size, 13, none⟩ = some (.int .i64 x.turn.code) := row_cell HB2.out.e 13
  have q2_13 : w2.cell? ⟨w.heap.size + 1, 13, none⟩ = some (.int .i64 x.turn.code) := row_cell HB2.out.f 13
  have p2_14 : w2.cell? ⟨w.heap.size, 14, none⟩ = some (.string x.turn.text) := row_cell HB2.out.e 14
  have q2_14 : w2.cell? ⟨w.heap.size + 1, 14, none⟩ = some (.string x.turn.text) := row_cell HB2.out.f 14
  have p2_15 : w2.cell? ⟨w.heap.size, 15, none⟩ = some (.int .i64 x.turn.kind) := row_cell HB2.out.e 15
  have q2_15 : w2.cell? ⟨w.heap.size + 1, 15, none⟩ = some (.int .i64 x.turn.kind) := row_cell HB2.out.f 15
  have p2_16 : w2.cell? ⟨w.heap.size, 16, none⟩ = some (.string x.turn.name) := row_cell HB2.out.e 16
  have q2_16 : w2.cell? ⟨w.heap.size + 1, 16, none⟩ = some (.string x.turn.name) := row_cell HB2.out.f 16
  have p2_17 : w2.cell? ⟨w.heap.size, 17, none⟩ = some (.int .i64 x.turn.steps) := row_cell HB2.out.e 17
  have q2_17 : w2.cell? ⟨w.heap.size + 1, 17, none⟩ = some (.int .i64 x.turn.steps) := row_cell HB2.out.f 17
  have p2_18 : w2.cell? ⟨w.heap.size, 18, none⟩ = some (.slice gu3 x.turn.files.length cu3) := row_cell HB2.out.e 18
  have q2_18 : w2.cell? ⟨w.heap.size + 1, 18, none⟩ = some (.slice gv3 x.turn.files.length cv3) := row_cell HB2.out.f 18
  have p2_19 : w2.cell? ⟨w.heap.size, 19, none⟩ = some (.slice gu4 x.turn.said.length cu4) := row_cell HB2.out.e 19
  have q2_19 : w2.cell? ⟨w.heap.size + 1, 19, none⟩ = some (.slice gv4 x.turn.said.length cv4) := row_cell HB2.out.f 19
  go_wp2_with fail
  refine (eqTu_any x.turn _ HLO.out.2.2 (K3.out.1.next HB2.out.lo) (K3.out.2.next HB2.out.lo) (K4.out.1.next HB2.out.lo) (K4.out.2.next HB2.out.lo)).mono ?_
  rintro e w3 ⟨rfl, hb2⟩
  have HB3 := hid (HB2.out.next hb2)
  clear hb2
  go_wp2
  go_ret
  exact ⟨rfl, HB3.out.lo⟩
set_option maxHeartbeats 4000000 in
theorem eqWk_any (x : Wk) {u0 v0 u1 v1 u2 v2 u3 v3 u4 v4 : Value} (w : World) (hx : LoWk x) (k0 : RdStr w u0 x.offer.target.ins) (l0 : RdStr w v0 x.offer.target.ins) (k1 : RdStr w u1 x.offer.target.outs) (l1 : RdStr w v1 x.offer.target.outs) (k2 : RdSn w u2 x.offer.seen) (l2 : RdSn w v2 x.offer.seen) (k3 : RdFl w u3 x.offer.turn.files) (l3 : RdFl w v3 x.offer.turn.files) (k4 : RdStr w u4 x.offer.turn.said) (l4 : RdStr w v4 x.offer.turn.said) :
    Calls Tryz.prog 9 #[.agg #[.int .i64 x.number, .bool x.up, .bool x.has, .int .i64 x.offer.kind, .int .i64 x.offer.to, .int .i64 x.offer.sender, .int .i64 x.offer.epoch, .int .i64 x.offer.edit, .string x.offer.target.name, .string x.offer.target.tool, .string x.offer.target.arg, u0, u1, u2, .int .i64 x.offer.count, .bool x.offer.turn.over, .int .i64 x.offer.turn.code, .string x.offer.turn.text, .int .i64 x.offer.turn.kind, .string x.offer.turn.name, .int .i64 x.offer.turn.steps, u3, u4], .agg #[.int .i64 x.number, .bool x.up, .bool x.has, .int .i64 x.offer.kind, .int .i64 x.offer.to, .int .i64 x.offer.sender, .int .i64 x.offer.epoch, .int .i64 x.offer.edit, .string x.offer.target.name, .string x.offer.target.tool, .string x.offer.target.arg, v0, v1, v2, .int .i64 x.offer.count, .bool x.offer.turn.over, .int .i64 x.offer.turn.code, .string x.offer.turn.text, .int .i64 x.offer.turn.kind, .string x.offer.turn.name, .int .i64 x.offer.turn.steps, v3, v4]] w fun e w' => e = .returned (.bool true) ∧ Below w.heap.size w w' := by
  have i0 : (x.number != x.number) = false := by simp
  have i1 : (x.up != x.up) = false := by simp
  have i2 : (x.has != x.has) = false := by simp
  have K0 := hid (And.intro k0 l0)
  obtain ⟨gu0, cu0, rfl⟩ := k0.sl
  obtain ⟨gv0, cv0, rfl⟩ := l0.sl
  clear k0 l0
  have K1 := hid (And.intro k1 l1)
  obtain ⟨gu1, cu1, rfl⟩ := k1.sl
  obtain ⟨gv1, cv1, rfl⟩ := l1.sl
  clear k1 l1
  have K2 := hid (And.intro k2 l2)
  obtain ⟨gu2, cu2, rfl⟩ := k2.sl
  obtain ⟨gv2, cv2, rfl⟩ := l2.sl
  clear k2 l2
  have K3 := hid (And.intro k3 l3)
  obtain ⟨gu3, cu3, rfl⟩ := k3.sl
  obtain ⟨gv3, cv3, rfl⟩ := l3.sl
  clear k3 l3
  have K4 := hid (And.intro k4 l4)
  obtain ⟨gu4, cu4, rfl⟩ := k4.sl
  obtain ⟨gv4, cv4, rfl⟩ := l4.sl
  clear k4 l4
  have HB0 := hid (B2.start w (.cells #[.int .i64 x.number, .bool x.up, .bool x.has, .int .i64 x.offer.kind, .int .i64 x.offer.to, .int .i64 x.offer.sender, .int .i64 x.offer.epoch, .int .i64 x.offer.edit, .string x.offer.target.name, .string x.offer.target.tool, .string x.offer.target.arg, .slice gu0 x.offer.target.ins.length cu0, .slice gu1 x.offer.target.outs.length cu1, .slice gu2 x.offer.seen.length cu2, .int .i64 x.offer.count, .bool x.offer.turn.over, .int .i64 x.offer.turn.code, .string x.offer.turn.text, .int .i64 x.offer.turn.kind, .string x.offer.turn.name, .int .i64 x.offer.turn.steps, .slice gu3 x.offer.turn.files.length cu3, .slice gu4 x.offer.turn.said.length cu4] 43) (.cells #[.int .i64 x.number, .bool x.up, .bool x.has, .int .i64 x.offer.kind, .int .i64 x.offer.to, .int .i64 x.offer.sender, .int .i64 x.offer.epoch, .int .i64 x.offer.edit, .string x.offer.target.name, .string x.offer.target.tool, .string x.offer.target.arg, .slice gv0 x.offer.target.ins.length cv0, .slice gv1 x.offer.target.outs.length cv1, .slice gv2 x.offer.seen.length cv2, .int .i64 x.offer.count, .bool x.offer.turn.over, .int .i64 x.offer.turn.code, .string x.offer.turn.text, .int .i64 x.offer.turn.kind, .string x.offer.turn.name, .int .i64 x.offer.turn.steps, .slice gv3 x.offer.turn.files.length cv3, .slice gv4 x.offer.turn.said.length cv4] 43))
  go_enter Tryz.func9, Tryz.ntmps9
  go_upto_region 1 with fail
  obtain ⟨W0, hW0⟩ : ∃ W, (w.alloc (.cells #[.int .i64 x.number, .bool x.up, .bool x.has, .int .i64 x.offer.kind, .int .i64 x.offer.to, .int .i64 x.offer.sender, .int .i64 x.offer.epoch, .int .i64 x.offer.edit, .string x.offer.target.name, .string x.offer.target.tool, .string x.offer.target.arg, .slice gu0 x.offer.target.ins.length cu0, .slice gu1 x.offer.target.outs.length cu1, .slice gu2 x.offer.seen.length cu2, .int .i64 x.offer.count, .bool x.offer.turn.over, .int .i64 x.offer.turn.code, .string x.offer.turn.text, .int .i64 x.offer.turn.kind, .string x.offer.turn.name, .int .i64 x.offer.turn.steps, .slice gu3 x.offer.turn.files.length cu3, .slice gu4 x.offer.turn.said.length cu4] 43)).alloc (.cells #[.int .i64 x.number, .bool x.up, .bool x.has, .int .i64 x.offer.kind, .int .i64 x.offer.to, .int .i64 x.offer.sender, .int .i64 x.offer.epoch, .int .i64 x.offer.edit, .string x.offer.target.name, .string x.offer.target.tool, .string x.offer.target.arg, .slice gv0 x.offer.target.ins.length cv0, .slice gv1 x.offer.target.outs.length cv1, .slice gv2 x.offer.seen.length cv2, .int .i64 x.offer.count, .bool x.offer.turn.over, .int .i64 x.offer.turn.code, .string x.offer.turn.text, .int .i64 x.offer.turn.kind, .string x.offer.turn.name, .int .i64 x.offer.turn.steps, .slice gv3 x.offer.turn.files.length cv3, .slice gv4 x.offer.turn.said.length cv4] 43) = W := ⟨_, rfl⟩
  rw [hW0] at HB0 ⊢
  clear hW0
  have p0 : W0.cell? ⟨w.heap.size, 0, none⟩ = some (.int .i64 x.number) := row_cell HB0.out.e 0
  have q0 : W0.cell? ⟨w.heap.size + 1, 0, none⟩ = some (.int .i64 x.number) := row_cell HB0.out.f 0
  have p1 : W0.cell? ⟨w.heap.size, 1, none⟩ = some (.bool x.up) := row_cell HB0.out.e 1
  have q1 : W0.cell? ⟨w.heap.size + 1, 1, none⟩ = some (.bool x.up) := row_cell HB0.out.f 1
  have p2 : W0.cell? ⟨w.heap.size, 2, none⟩ = some (.bool x.has) := row_cell HB0.out.e 2
  have q2 : W0.cell? ⟨w.heap.size + 1, 2, none⟩ = some (.bool x.has) := row_cell HB0.out.f 2
  go_upto_region 7 with fail
  clear p0 q0 p1 q1 p2 q2 i0 i1 i2
  have HM : Hid (W0.rangeAt w.heap.size 3 [.int .i64 x.offer.kind, .int .i64 x.offer.to, .int .i64 x.offer.sender, .int .i64 x.offer.epoch, .int .i64 x.offer.edit, .string x.offer.target.name, .string x.offer.target.tool, .string x.offer.target.arg, .slice gu0 x.offer.target.ins.length cu0, .slice gu1 x.offer.target.outs.length cu1, .slice gu2 x.offer.seen.length cu2, .int .i64 x.offer.count, .bool x.offer.turn.over, .int .i64 x.offer.turn.code, .string x.offer.turn.text, .int .i64 x.offer.turn.kind, .string x.offer.turn.name, .int .i64 x.offer.turn.steps, .slice gu3 x.offer.turn.files.length cu3, .slice gu4 x.offer.turn.said.length cu4]) := range_mid [.int .i64 x.number, .bool x.up, .bool x.has] _ [] HB0.out.e rfl
  have HN : Hid (W0.rangeAt (w.heap.size + 1) 3 [.int .i64 x.offer.kind, .int .i64 x.offer.to, .int .i64 x.offer.sender, .int .i64 x.offer.epoch, .int .i64 x.offer.edit, .string x.offer.target.name, .string x.offer.target.tool, .string x.offer.target.arg, .slice gv0 x.offer.target.ins.length cv0, .slice gv1 x.offer.target.outs.length cv1, .slice gv2 x.offer.seen.length cv2, .int .i64 x.offer.count, .bool x.offer.turn.over, .int .i64 x.offer.turn.code, .string x.offer.turn.text, .int .i64 x.offer.turn.kind, .string x.offer.turn.name, .int .i64 x.offer.turn.steps, .slice gv3 x.offer.turn.files.length cv3, .slice gv4 x.offer.turn.said.length cv4]) := range_mid [.int .i64 x.number, .bool x.up, .bool x.has] _ [] HB0.out.f rfl
  go_wp2_with (first | (refine wpList_load_mid rfl 41 _ rfl w.heap.size 3 rfl [.int .i64 x.offer.kind, .int .i64 x.offer.to, .int .i64 x.offer.sender, .int .i64 x.offer.epoch, .int .i64 x.offer.edit, .string x.offer.target.name, .string x.offer.target.tool, .string x.offer.target.arg, .slice gu0 x.offer.target.ins.length cu0, .slice gu1 x.offer.target.outs.length cu1, .slice gu2 x.offer.seen.length cu2, .int .i64 x.offer.count, .bool x.offer.turn.over, .int .i64 x.offer.turn.code, .string x.offer.turn.text, .int .i64 x.offer.turn.kind, .string x.offer.turn.name, .int .i64 x.offer.turn.steps, .slice gu3 x.offer.turn.files.length cu3, .slice gu4 x.offer.turn.said.length cu4] _ HM.out Tryz.underlying41 rfl (by kernel_rfl) ?_) | (refine wpList_load_mid rfl 41 _ rfl (w.heap.size + 1) 3 rfl [.int .i64 x.offer.kind, .int .i64 x.offer.to, .int .i64 x.offer.sender, .int .i64 x.offer.epoch, .int .i64 x.offer.edit, .string x.offer.target.name, .string x.offer.target.tool, .string x.offer.target.arg, .slice gv0 x.offer.target.ins.length cv0, .slice gv1 x.offer.target.outs.length cv1, .slice gv2 x.offer.seen.length cv2, .int .i64 x.offer.count, .bool x.offer.turn.over, .int .i64 x.offer.turn.code, .string x.offer.turn.text, .int .i64 x.offer.turn.kind, .string x.offer.turn.name, .int .i64 x.offer.turn.steps, .slice gv3 x.offer.turn.files.length cv3, .slice gv4 x.offer.turn.said.length cv4] _ HN.out Tryz.underlying41 rfl (by kernel_rfl) ?_))
  refine (eqMs_any x.offer _ hx (K0.out.1.next HB0.out.lo) (K0.out.2.next HB0.out.lo) (K1.out.1.next HB0.out.lo) (K1.out.2.next HB0.out.lo) (K2.out.1.next HB0.out.lo) (K2.out.2.next HB0.out.lo) (K3.out.1.next HB0.out.lo) (K3.out.2.next HB0.out.lo) (K4.out.1.next HB0.out.lo) (K4.out.2.next HB0.out.lo)).mono ?_
  rintro e w1 ⟨rfl, hb0⟩
  have HB1 := hid (HB0.out.next hb0)
  clear hb0 HM HN
  go_wp2
  go_ret
  exact ⟨rfl, HB1.out.lo⟩
end Go.Proofs.YtlopcjhipajdcaaGreatDoor.Y
/-! Marks of messages that are held. Printed by gen_yrow.py. -/
namespace Go.Proofs.YtlopcjhipajdcaaGreatDoor.Y
open Go.RowKit R
open Go.Proofs.YtlopcjhipajdcaaGreatDoor.J (FileOk BegOk RepOk ltB Says says_t says_f)
set_option maxRecDepth 20000
set_option maxHeartbeats 4000000 in
theorem heldTg_k (nm tl ar : ByteArray) {K K1 K2 n0 n1 : Nat} {u0 u1 : Value} (w : World) (h0 : MvStr K w u0 n0) (h1 : MvStr K1 w u1 n1) (hn0 : n0 ≤ 1048576) (hn1 : n1 ≤ 1048576) (hK : 0 < K) (e1 : K + 1 * n0 = K1) (e2 : K1 + 1 * n1 = K2) (hK2 : K2 ≤ 5000000) :
    Calls Tryz.prog 73 #[.agg #[.string nm, .string tl, .string ar, u0, u1], .int .i64 K] w fun e w' => e = .returned (.int .i64 K2) ∧ Below w.heap.size w w' := by
  obtain ⟨a0, c0, rfl⟩ := h0.sl
  obtain ⟨a1, c1, rfl⟩ := h1.sl
  have HB0 := hid (B1.start w (.cells #[.string nm, .string tl, .string ar, (.slice a0 n0 c0), (.slice a1 n1 c1)] 35))
  obtain ⟨w0, hw0⟩ : ∃ W, w.alloc (.cells #[.string nm, .string tl, .string ar, (.slice a0 n0 c0), (.slice a1 n1 c1)] 35) = W := ⟨_, rfl⟩
  rw [hw0] at HB0
  have H0 := hid (h0.next HB0.out.lo)
  have H1 := hid (h1.next HB0.out.lo)
  have HC := hid (And.intro e1 e2)
  have g1 : K ≤ 5000000 := by omega
  have g2 : K1 ≤ 5000000 := by omega
  have g3 : 0 < K1 := by omega
  have p1 : ¬ (K1 : Int) < 0 := by omega
  have p2 : ¬ (K2 : Int) < 0 := by omega
  have b0 : w0.cell? ⟨w.heap.size, 3, none⟩ = some (.slice a0 n0 c0) := row_cell HB0.out.e 3
  clear h0 h1 e1 e2
  go_enter Tryz.func73, Tryz.ntmps73
  go_upto_region 1 with fail
  clear hw0
  go_upto_region 4 with (go_at_call 95; refine (heldStr_k H0.out hn0 hK g1 HC.out.1).mono ?_; rintro e w1 ⟨rfl, hl⟩; have HB1 := hid (HB0.out.next hl); have H11 := hid (H1.out.next hl); clear hl)
  clear b0
  have b1 : w1.cell? ⟨w.heap.size, 4, none⟩ = some (.slice a1 n1 c1) := row_cell HB1.out.e 4
  go_upto_region 7 with (go_at_call 95; refine (heldStr_k H11.out hn1 g3 g2 HC.out.2).mono ?_; rintro e w2 ⟨rfl, hl⟩; have HB2 := hid (HB1.out.next hl); clear hl)
  clear b1
  go_wp2
  go_ret
  exact ⟨rfl, HB2.out.lo⟩
set_option maxHeartbeats 4000000 in
theorem heldTu_k (ov : Bool) (co kd st : Int) (tx nn : ByteArray) {K K1 K2 n0 n1 : Nat} {u0 u1 : Value} (w : World) (h0 : MvFl K w u0 n0) (h1 : MvStr K1 w u1 n1) (hn0 : n0 ≤ 1048576) (hn1 : n1 ≤ 1048576) (hK : 0 < K) (e1 : K + 2 * n0 = K1) (e2 : K1 + 1 * n1 = K2) (hK2 : K2 ≤ 5000000) :
    Calls Tryz.prog 75 #[.agg #[.bool ov, .int .i64 co, .string tx, .int .i64 kd, .string nn, .int .i64 st, u0, u1], .int .i64 K] w fun e w' => e = .returned (.int .i64 K2) ∧ Below w.heap.size w w' := by
  obtain ⟨a0, c0, rfl⟩ := h0.sl
  obtain ⟨a1, c1, rfl⟩ := h1.sl
  have HB0 := hid (B1.start w (.cells #[.bool ov, .int .i64 co, .string tx, .int .i64 kd, .string nn, .int .i64 st, (.slice a0 n0 c0), (.slice a1 n1 c1)] 39))
  obtain ⟨w0, hw0⟩ : ∃ W, w.alloc (.cells #[.bool ov, .int .i64 co, .string tx, .int .i64 kd, .string nn, .int .i64 st, (.slice a0 n0 c0), (.slice a1 n1 c1)] 39) = W := ⟨_, rfl⟩
  rw [hw0] at HB0
  have H0 := hid (h0.next HB0.out.lo)
  have H1 := hid (h1.next HB0.out.lo)
  have HC := hid (And.intro e1 e2)
  have g1 : K ≤ 5000000 := by omega
  have g2 : K1 ≤ 5000000 := by omega
  have g3 : 0 < K1 := by omega
  have p1 : ¬ (K1 : Int) < 0 := by omega
  have p2 : ¬ (K2 : Int) < 0 := by omega
  have b0 : w0.cell? ⟨w.heap.size, 6, none⟩ = some (.slice a0 n0 c0) := row_cell HB0.out.e 6
  clear h0 h1 e1 e2
  go_enter Tryz.func75, Tryz.ntmps75
  go_upto_region 1 with fail
  clear hw0
  go_upto_region 4 with (go_at_call 96; refine (heldFl_k H0.out hn0 hK g1 HC.out.1).mono ?_; rintro e w1 ⟨rfl, hl⟩; have HB1 := hid (HB0.out.next hl); have H11 := hid (H1.out.next hl); clear hl)
  clear b0
  have b1 : w1.cell? ⟨w.heap.size, 7, none⟩ = some (.slice a1 n1 c1) := row_cell HB1.out.e 7
  go_upto_region 7 with (go_at_call 95; refine (heldStr_k H11.out hn1 g3 g2 HC.out.2).mono ?_; rintro e w2 ⟨rfl, hl⟩; have HB2 := hid (HB1.out.next hl); clear hl)
  clear b1
  go_wp2
  go_ret
  exact ⟨rfl, HB2.out.lo⟩
set_option maxHeartbeats 8000000 in
theorem heldMs_k (m : Ms) {K K1 K2 K3 K4 K5 : Nat} {u0 u1 u2 u3 u4 : Value} (w : World) (h0 : MvStr K w u0 m.target.ins.length) (h1 : MvStr K1 w u1 m.target.outs.length) (h2 : MvSn K2 w u2 m.seen.length) (h3 : MvFl K3 w u3 m.turn.files.length) (h4 : MvStr K4 w u4 m.turn.said.length) (n0 : m.target.ins.length ≤ 1048576) (n1 : m.target.outs.length ≤ 1048576) (n2 : m.seen.length ≤ 1048576) (n3 : m.turn.files.length ≤ 1048576) (n4 : m.turn.said.length ≤ 1048576) (hK : 0 < K) (e1 : K + 1 * m.target.ins.length = K1) (e2 : K1 + 1 * m.target.outs.length = K2) (e3 : K2 + 4 * m.seen.length = K3) (e4 : K3 + 2 * m.turn.files.length = K4) (e5 : K4 + 1 * m.turn.said.length = K5) (hK5 : K5 ≤ 5000000) :
    Calls Tryz.prog 40 #[.agg #[.int .i64 m.kind, .int .i64 m.to, .int .i64 m.sender, .int .i64 m.epoch, .int .i64 m.edit, .string m.target.name, .string m.target.tool, .string m.target.arg, u0, u1, u2, .int .i64 m.count, .bool m.turn.over, .int .i64 m.turn.code, .string m.turn.text, .int .i64 m.turn.kind, .string m.turn.name, .int .i64 m.turn.steps, u3, u4], .int .i64 K] w fun e w' => e = .returned (.int .i64 K5) ∧ Below w.heap.size w w' := by
  obtain ⟨a0, c0, rfl⟩ := h0.sl
  obtain ⟨a1, c1, rfl⟩ := h1.sl
  obtain ⟨a2, c2, rfl⟩ := h2.sl
  obtain ⟨a3, c3, rfl⟩ := h3.sl
  obtain ⟨a4, c4, rfl⟩ := h4.sl
  have HB0 := hid (B1.start w (.cells #[.int .i64 m.kind, .int .i64 m.to, .int .i64 m.sender, .int .i64 m.epoch, .int .i64 m.edit, .string m.target.name, .string m.target.tool, .string m.target.arg, .slice a0 m.target.ins.length c0, .slice a1 m.target.outs.length c1, .slice a2 m.seen.length c2, .int .i64 m.count, .bool m.turn.over, .int .i64 m.turn.code, .string m.turn.text, .int .i64 m.turn.kind, .string m.turn.name, .int .i64 m.turn.steps, .slice a3 m.turn.files.length c3, .slice a4 m.turn.said.length c4] 41))
  obtain ⟨w0, hw0⟩ : ∃ W, w.alloc (.cells #[.int .i64 m.kind, .int .i64 m.to, .int .i64 m.sender, .int .i64 m.epoch, .int .i64 m.edit, .string m.target.name, .string m.target.tool, .string m.target.arg, .slice a0 m.target.ins.length c0, .slice a1 m.target.outs.length c1, .slice a2 m.seen.length c2, .int .i64 m.count, .bool m.turn.over, .int .i64 m.turn.code, .string m.turn.text, .int .i64 m.turn.kind, .string m.turn.name, .int .i64 m.turn.steps, .slice a3 m.turn.files.length c3, .slice a4 m.turn.said.length c4] 41) = W := ⟨_, rfl⟩
  rw [hw0] at HB0
  have H0 := hid (h0.next HB0.out.lo)
  have H1 := hid (h1.next HB0.out.lo)
  have H2 := hid (h2.next HB0.out.lo)
  have H3 := hid (h3.next HB0.out.lo)
  have H4 := hid (h4.next HB0.out.lo)
  have HC := hid (And.intro e1 (And.intro e2 (And.intro e3 (And.intro e4 e5))))
  have g1 : K1 ≤ 5000000 := by omega
  have g2 : K2 ≤ 5000000 := by omega
  have g3 : K3 ≤ 5000000 := by omega
  have g4 : K4 ≤ 5000000 := by omega
  have q1 : 0 < K1 := by omega
  have q2 : 0 < K2 := by omega
  have q3 : 0 < K3 := by omega
  have q4 : 0 < K4 := by omega
  have p2 : ¬ (K2 : Int) < 0 := by omega
  have p3 : ¬ (K3 : Int) < 0 := by omega
  have p5 : ¬ (K5 : Int) < 0 := by omega
  clear h0 h1 h2 h3 h4 e1 e2 e3 e4 e5
  have HR0 : Hid (w0.rangeAt w.heap.size 5 [.string m.target.name, .string m.target.tool, .string m.target.arg, .slice a0 m.target.ins.length c0, .slice a1 m.target.outs.length c1]) := hid (range_mid [.int .i64 m.kind, .int .i64 m.to, .int .i64 m.sender, .int .i64 m.epoch, .int .i64 m.edit] _ [.slice a2 m.seen.length c2, .int .i64 m.count, .bool m.turn.over, .int .i64 m.turn.code, .string m.turn.text, .int .i64 m.turn.kind, .string m.turn.name, .int .i64 m.turn.steps, .slice a3 m.turn.files.length c3, .slice a4 m.turn.said.length c4] HB0.out.e rfl)
  go_enter Tryz.func40, Tryz.ntmps40
  go_upto_region 1 with fail
  clear hw0
  go_upto_region 4 with (first | (go_at_call 73; refine (heldTg_k _ _ _ w0 H0.out H1.out n0 n1 hK HC.out.1 HC.out.2.1 g2).mono ?_; rintro e w2 ⟨rfl, hl⟩; have HB2 := hid (HB0.out.next hl); have HN2 := hid hl; clear hl) | (refine wpList_load_mid rfl 35 _ rfl (w.heap.size) 5 rfl [.string m.target.name, .string m.target.tool, .string m.target.arg, .slice a0 m.target.ins.length c0, .slice a1 m.target.outs.length c1] _ HR0.out Tryz.underlying35 rfl (by kernel_rfl) ?_))
  have b1 : w2.cell? ⟨w.heap.size, 10, none⟩ = some (.slice a2 m.seen.length c2) := row_cell HB2.out.e 10
  go_upto_region 7 with (go_at_call 74; refine (heldSn_k (H2.out.next HN2.out) n2 q2 g2 HC.out.2.2.1).mono ?_; rintro e w3 ⟨rfl, hl⟩; have HB3 := hid (HB2.out.next hl); have HN3 := hid (HN2.out.trans (hl.mono HN2.out.size)); clear hl)
  clear b1
  have HR3 : Hid (w3.rangeAt w.heap.size 12 [.bool m.turn.over, .int .i64 m.turn.code, .string m.turn.text, .int .i64 m.turn.kind, .string m.turn.name, .int .i64 m.turn.steps, .slice a3 m.turn.files.length c3, .slice a4 m.turn.said.length c4]) := hid (range_mid [.int .i64 m.kind, .int .i64 m.to, .int .i64 m.sender, .int .i64 m.epoch, .int .i64 m.edit, .string m.target.name, .string m.target.tool, .string m.target.arg, .slice a0 m.target.ins.length c0, .slice a1 m.target.outs.length c1, .slice a2 m.seen.length c2, .int .i64 m.count] _ [] HB3.out.e rfl)
  go_upto_region 10 with (first | (go_at_call 75; refine (heldTu_k _ _ _ _ _ _ w3 (H3.out.next HN3.out) (H4.out.next HN3.out) n3 n4 q3 HC.out.2.2.2.1 HC.out.2.2.2.2 hK5).mono ?_; rintro e w5 ⟨rfl, hl⟩; have HB5 := hid (HB3.out.next hl); clear hl) | (refine wpList_load_mid rfl 39 _ rfl (w.heap.size) 12 rfl [.bool m.turn.over, .int .i64 m.turn.code, .string m.turn.text, .int .i64 m.turn.kind, .string m.turn.name, .int .i64 m.turn.steps, .slice a3 m.turn.files.length c3, .slice a4 m.turn.said.length c4] _ HR3.out Tryz.underlying39 rfl (by kernel_rfl) ?_))
  go_wp2
  go_ret
  exact ⟨rfl, HB5.out.lo⟩
end Go.Proofs.YtlopcjhipajdcaaGreatDoor.Y
/-! Regions that draw their order: a call, or a box that is made. -/
namespace Go.Proofs.YtlopcjhipajdcaaGreatDoor.Y
open Go.RowKit R
set_option maxRecDepth 20000
/-- Two operations may come up: a call of a Go function, and one that yields a value and may make memory. -/
theorem held_two {P : Program} {md : Region.Mode} {ops : Array Oper} {Q : Exit → Act → World → Prop} {S : World → Prop} {i j fuel : Nat} {listed : Array Bool} {a : Act} {w : World} {o p : Oper} (hr : Region.ready md ops listed = [i, j]) (ho : ops[i]? = some o) (hg : o.guard = none) (hp : ops[j]? = some p) (hgp : p.guard = none)
    {f : FuncId} {vals : Array Value} (hx : (execOp a.eval o).run P w = .ok (.enter f vals) w) {Q' : Ending → World → Prop} (hc : Calls P f vals w Q')
    {v : Value} {w2 : World} (hy : (execOp a.eval p).run P w = .ok (.value v) w2) (hS : S w2)
    (h : ∀ e w', Q' e w' → ∃ v, e = .returned v ∧ S w' ∧ wpAnyH P md ops Q S fuel (listed.setIfInBounds i true) (a.put o.dst v) w')
    (h2 : wpAnyH P md ops Q S fuel (listed.setIfInBounds j true) (a.put p.dst v) w2) : wpAnyH P md ops Q S (fuel + 1) listed a w := by
  refine wpAnyH_all (rs := [i, j]) hr (by simp) fun z hz => ?_
  have hw : Region.wanted o (yielded ops a.tmps) = true := by simp [Region.wanted, hg]
  have hw2 : Region.wanted p (yielded ops a.tmps) = true := by simp [Region.wanted, hgp]
  rcases List.mem_cons.1 hz with rfl | hz
  · unfold wpOp
    rw [ho]
    simp only [hw, if_true]
    refine .inl ?_
    unfold Oper.wp
    rw [hx, Oper.upon_enter]
    refine hc.mono fun e w' hq => ?_
    obtain ⟨v, rfl, hk⟩ := h e w' hq
    exact hk
  · obtain rfl : z = j := by simpa using hz
    unfold wpOp
    rw [hp]
    simp only [hw2, if_true]
    refine .inl ?_
    unfold Oper.wp
    rw [hy]
    exact ⟨hS, h2⟩
theorem held_value {P : Program} {md : Region.Mode} {ops : Array Oper} {Q : Exit → Act → World → Prop} {S : World → Prop} {j fuel : Nat} {listed : Array Bool} {a : Act} {w : World} {p : Oper} (hr : Region.ready md ops listed = [j]) (hp : ops[j]? = some p) (hgp : p.guard = none)
    {v : Value} {w2 : World} (hy : (execOp a.eval p).run P w = .ok (.value v) w2) (hS : S w2) (h2 : wpAnyH P md ops Q S fuel (listed.setIfInBounds j true) (a.put p.dst v) w2) : wpAnyH P md ops Q S (fuel + 1) listed a w := by
  refine wpAnyH_all (rs := [j]) hr (by simp) fun z hz => ?_
  obtain rfl : z = j := by simpa using hz
  have hw2 : Region.wanted p (yielded ops a.tmps) = true := by simp [Region.wanted, hgp]
  unfold wpOp
  rw [hp]
  simp only [hw2, if_true]
  refine .inl ?_
  unfold Oper.wp
  rw [hy]
  exact ⟨hS, h2⟩
end Go.Proofs.YtlopcjhipajdcaaGreatDoor.Y
/-! Workers that are marked. Printed by gen_yrow.py. -/
namespace Go.Proofs.YtlopcjhipajdcaaGreatDoor.Y
open Go.RowKit R
open Go.Proofs.YtlopcjhipajdcaaGreatDoor.J (FileOk BegOk RepOk ltB Says says_t says_f)
set_option maxRecDepth 20000
theorem ap_ty {B T t k n B' T' t' k' n' : Nat} {W : World} {u v : Value} (h : Sh B T t k W u n) (h2 : Sh B' T' t' k' W v n') (ht : t ≠ t') : Ap u v := fun g e e2 => by
  rcases h with ⟨rfl, _⟩ | ⟨g1, cap, cur, rfl, _, _, hc, _⟩
  · cases e
  · rcases h2 with ⟨rfl, _⟩ | ⟨g2, cap2, cur2, rfl, _, _, hc2, _⟩
    · cases e2
    · simp [Value.ownBlock] at e e2
      subst e e2
      rw [hc] at hc2
      injection hc2 with hc2
      injection hc2 with _ h3 _
      exact ht h3
theorem MsM.lm {m : Ms} {K B T : Nat} {w w' : World} {u0 u1 u2 u3 u4 : Value} (h : MsM m K w w' u0 u1 u2 u3 u4) (h0 : Sh B T 9 1 w u0 m.target.ins.length) (h1 : Sh B T 9 1 w u1 m.target.outs.length) (h2 : Sh B T 88 4 w u2 m.seen.length) (h3 : Sh B T 114 2 w u3 m.turn.files.length) (h4 : Sh B T 9 1 w u4 m.turn.said.length) (hB : B ≤ w.heap.size) : Lm B T w w' := by
  obtain ⟨V1, V2, V3, V4, _, _, _, _, _, ⟨a1, _⟩, ⟨a2, _⟩, ⟨a3, _⟩, ⟨a4, _⟩, ⟨a5, _⟩⟩ := h.e
  have m1 := a1.2
  have m2 := m1.trans a2.2
  have m3 := m2.trans a3.2
  have m4 := m3.trans a4.2
  have s1 := Nat.le_trans hB a1.1.size
  have s2 := Nat.le_trans s1 a2.1.size
  have s3 := Nat.le_trans s2 a3.1.size
  have s4 := Nat.le_trans s3 a4.1.size
  exact ((((a1.lm h0 hB).trans (a2.lm (h1.mk m1) s1)).trans (a3.lm (h2.mk m2) s2)).trans (a4.lm (h3.mk m3) s3)).trans (a5.lm (h4.mk m4) s4)
/-- All rows are marked, where they lie apart. -/
theorem MsM.marked {m : Ms} {K B T : Nat} {w w' : World} {u0 u1 u2 u3 u4 : Value} (h : MsM m K w w' u0 u1 u2 u3 u4) (h0 : Sh B T 9 1 w u0 m.target.ins.length) (h1 : Sh B T 9 1 w u1 m.target.outs.length) (h2 : Sh B T 88 4 w u2 m.seen.length) (h3 : Sh B T 114 2 w u3 m.turn.files.length) (h4 : Sh B T 9 1 w u4 m.turn.said.length) (a10 : Ap u1 u0) (a40 : Ap u4 u0) (a41 : Ap u4 u1) :
    ∃ K1 K2 K3 K4 : Nat, (K + 1 * m.target.ins.length = K1 ∧ K1 + 1 * m.target.outs.length = K2 ∧ K2 + 4 * m.seen.length = K3 ∧ K3 + 2 * m.turn.files.length = K4) ∧ MvStr K w' u0 m.target.ins.length ∧ MvStr K1 w' u1 m.target.outs.length ∧ MvSn K2 w' u2 m.seen.length ∧ MvFl K3 w' u3 m.turn.files.length ∧ MvStr K4 w' u4 m.turn.said.length := by
  obtain ⟨V1, V2, V3, V4, K1, K2, K3, K4, he, ⟨a1, b1⟩, ⟨a2, b2⟩, ⟨a3, b3⟩, ⟨a4, b4⟩, ⟨a5, b5⟩⟩ := h.e
  have t1 : 88 ≠ 9 := by decide
  have t2 : 114 ≠ 9 := by decide
  have t3 : 114 ≠ 88 := by decide
  have t4 : 9 ≠ 88 := by decide
  have t5 : 9 ≠ 114 := by decide
  refine ⟨K1, K2, K3, K4, he, ?_, ?_, ?_, ?_, b5⟩
  · exact (((b1.grown a2.1 a10).grown a3.1 (ap_ty h2 h0 t1)).grown a4.1 (ap_ty h3 h0 t2)).grown a5.1 a40
  · exact ((b2.grown a3.1 (ap_ty h2 h1 t1)).grown a4.1 (ap_ty h3 h1 t2)).grown a5.1 a41
  · exact (b3.grown a4.1 (ap_ty h3 h2 t3)).grown a5.1 (ap_ty h4 h2 t4)
  · exact b4.grown a5.1 (ap_ty h4 h3 t5)
set_option maxHeartbeats 8000000 in
theorem markWk_k (x : Wk) {B T K K1 K2 K3 K4 K5 : Nat} {u0 u1 u2 u3 u4 : Value} (w : World) (h0 : Sh B T 9 1 w u0 x.offer.target.ins.length) (h1 : Sh B T 9 1 w u1 x.offer.target.outs.length) (h2 : Sh B T 88 4 w u2 x.offer.seen.length) (h3 : Sh B T 114 2 w u3 x.offer.turn.files.length) (h4 : Sh B T 9 1 w u4 x.offer.turn.said.length) (hT : T ≤ w.heap.size) (n0 : x.offer.target.ins.length ≤ 1048576) (n1 : x.offer.target.outs.length ≤ 1048576) (n2 : x.offer.seen.length ≤ 1048576) (n3 : x.offer.turn.files.length ≤ 1048576) (n4 : x.offer.turn.said.length ≤ 1048576) (hK : 0 < K) (e1 : K + 1 * x.offer.target.ins.length = K1) (e2 : K1 + 1 * x.offer.target.outs.length = K2) (e3 : K2 + 4 * x.offer.seen.length = K3) (e4 : K3 + 2 * x.offer.turn.files.length = K4) (e5 : K4 + 1 * x.offer.turn.said.length = K5) (hK5 : K5 ≤ 5000000) :
    Calls Tryz.prog 15 #[.agg #[.int .i64 x.number, .bool x.up, .bool x.has, .int .i64 x.offer.kind, .int .i64 x.offer.to, .int .i64 x.offer.sender, .int .i64 x.offer.epoch, .int .i64 x.offer.edit, .string x.offer.target.name, .string x.offer.target.tool, .string x.offer.target.arg, u0, u1, u2, .int .i64 x.offer.count, .bool x.offer.turn.over, .int .i64 x.offer.turn.code, .string x.offer.turn.text, .int .i64 x.offer.turn.kind, .string x.offer.turn.name, .int .i64 x.offer.turn.steps, u3, u4], .int .i64 K] w fun e w' => e = .returned (.int .i64 K5) ∧ MsM x.offer K w w' u0 u1 u2 u3 u4 := by
  obtain ⟨a0, c0, rfl⟩ := h0.sl
  obtain ⟨a1, c1, rfl⟩ := h1.sl
  obtain ⟨a2, c2, rfl⟩ := h2.sl
  obtain ⟨a3, c3, rfl⟩ := h3.sl
  obtain ⟨a4, c4, rfl⟩ := h4.sl
  have HB0 := hid (B1.start w (.cells #[.int .i64 x.number, .bool x.up, .bool x.has, .int .i64 x.offer.kind, .int .i64 x.offer.to, .int .i64 x.offer.sender, .int .i64 x.offer.epoch, .int .i64 x.offer.edit, .string x.offer.target.name, .string x.offer.target.tool, .string x.offer.target.arg, .slice a0 x.offer.target.ins.length c0, .slice a1 x.offer.target.outs.length c1, .slice a2 x.offer.seen.length c2, .int .i64 x.offer.count, .bool x.offer.turn.over, .int .i64 x.offer.turn.code, .string x.offer.turn.text, .int .i64 x.offer.turn.kind, .string x.offer.turn.name, .int .i64 x.offer.turn.steps, .slice a3 x.offer.turn.files.length c3, .slice a4 x.offer.turn.said.length c4] 43))
  obtain ⟨w0, hw0⟩ : ∃ W, w.alloc (.cells #[.int .i64 x.number, .bool x.up, .bool x.has, .int .i64 x.offer.kind, .int .i64 x.offer.to, .int .i64 x.offer.sender, .int .i64 x.offer.epoch, .int .i64 x.offer.edit, .string x.offer.target.name, .string x.offer.target.tool, .string x.offer.target.arg, .slice a0 x.offer.target.ins.length c0, .slice a1 x.offer.target.outs.length c1, .slice a2 x.offer.seen.length c2, .int .i64 x.offer.count, .bool x.offer.turn.over, .int .i64 x.offer.turn.code, .string x.offer.turn.text, .int .i64 x.offer.turn.kind, .string x.offer.turn.name, .int .i64 x.offer.turn.steps, .slice a3 x.offer.turn.files.length c3, .slice a4 x.offer.turn.said.length c4] 43) = W := ⟨_, rfl⟩
  rw [hw0] at HB0
  have H0 := hid (h0.next HB0.out.lo)
  have H1 := hid (h1.next HB0.out.lo)
  have H2 := hid (h2.next HB0.out.lo)
  have H3 := hid (h3.next HB0.out.lo)
  have H4 := hid (h4.next HB0.out.lo)
  have HC := hid (And.intro e1 (And.intro e2 (And.intro e3 (And.intro e4 e5))))
  have HT := hid hT
  clear h0 h1 h2 h3 h4 e1 e2 e3 e4 e5 hT
  have HR0 : Hid (w0.rangeAt w.heap.size 3 [.int .i64 x.offer.kind, .int .i64 x.offer.to, .int .i64 x.offer.sender, .int .i64 x.offer.epoch, .int .i64 x.offer.edit, .string x.offer.target.name, .string x.offer.target.tool, .string x.offer.target.arg, .slice a0 x.offer.target.ins.length c0, .slice a1 x.offer.target.outs.length c1, .slice a2 x.offer.seen.length c2, .int .i64 x.offer.count, .bool x.offer.turn.over, .int .i64 x.offer.turn.code, .string x.offer.turn.text, .int .i64 x.offer.turn.kind, .string x.offer.turn.name, .int .i64 x.offer.turn.steps, .slice a3 x.offer.turn.files.length c3, .slice a4 x.offer.turn.said.length c4]) := hid (range_mid [.int .i64 x.number, .bool x.up, .bool x.has] _ [] HB0.out.e rfl)
  go_enter Tryz.func15, Tryz.ntmps15
  go_upto_region 1 with fail
  clear hw0
  go_wp2_with (first | (go_at_call 16; refine (markMs_k x.offer w0 H0.out H1.out H2.out H3.out H4.out (Nat.le_trans HT.out HB0.out.lo.size) n0 n1 n2 n3 n4 hK HC.out.1 HC.out.2.1 HC.out.2.2.1 HC.out.2.2.2.1 HC.out.2.2.2.2 hK5).mono ?_; rintro e w1 ⟨rfl, hm, _⟩; have HM := hid hm; clear hm) | (refine wpList_load_mid rfl 41 _ rfl (w.heap.size) 3 rfl [.int .i64 x.offer.kind, .int .i64 x.offer.to, .int .i64 x.offer.sender, .int .i64 x.offer.epoch, .int .i64 x.offer.edit, .string x.offer.target.name, .string x.offer.target.tool, .string x.offer.target.arg, .slice a0 x.offer.target.ins.length c0, .slice a1 x.offer.target.outs.length c1, .slice a2 x.offer.seen.length c2, .int .i64 x.offer.count, .bool x.offer.turn.over, .int .i64 x.offer.turn.code, .string x.offer.turn.text, .int .i64 x.offer.turn.kind, .string x.offer.turn.name, .int .i64 x.offer.turn.steps, .slice a3 x.offer.turn.files.length c3, .slice a4 x.offer.turn.said.length c4] _ HR0.out Tryz.underlying41 rfl (by kernel_rfl) ?_))
  go_ret
  exact ⟨rfl, HM.out.from HB0.out.lo⟩
set_option maxHeartbeats 8000000 in
theorem heldWk_k (x : Wk) {K K1 K2 K3 K4 K5 : Nat} {u0 u1 u2 u3 u4 : Value} (w : World) (h0 : MvStr K w u0 x.offer.target.ins.length) (h1 : MvStr K1 w u1 x.offer.target.outs.length) (h2 : MvSn K2 w u2 x.offer.seen.length) (h3 : MvFl K3 w u3 x.offer.turn.files.length) (h4 : MvStr K4 w u4 x.offer.turn.said.length) (n0 : x.offer.target.ins.length ≤ 1048576) (n1 : x.offer.target.outs.length ≤ 1048576) (n2 : x.offer.seen.length ≤ 1048576) (n3 : x.offer.turn.files.length ≤ 1048576) (n4 : x.offer.turn.said.length ≤ 1048576) (hK : 0 < K) (e1 : K + 1 * x.offer.target.ins.length = K1) (e2 : K1 + 1 * x.offer.target.outs.length = K2) (e3 : K2 + 4 * x.offer.seen.length = K3) (e4 : K3 + 2 * x.offer.turn.files.length = K4) (e5 : K4 + 1 * x.offer.turn.said.length = K5) (hK5 : K5 ≤ 5000000) :
    Calls Tryz.prog 17 #[.agg #[.int .i64 x.number, .bool x.up, .bool x.has, .int .i64 x.offer.kind, .int .i64 x.offer.to, .int .i64 x.offer.sender, .int .i64 x.offer.epoch, .int .i64 x.offer.edit, .string x.offer.target.name, .string x.offer.target.tool, .string x.offer.target.arg, u0, u1, u2, .int .i64 x.offer.count, .bool x.offer.turn.over, .int .i64 x.offer.turn.code, .string x.offer.turn.text, .int .i64 x.offer.turn.kind, .string x.offer.turn.name, .int .i64 x.offer.turn.steps, u3, u4], .int .i64 K] w fun e w' => e = .returned (.int .i64 K5) ∧ Below w.heap.size w w' := by
  obtain ⟨a0, c0, rfl⟩ := h0.sl
  obtain ⟨a1, c1, rfl⟩ := h1.sl
  obtain ⟨a2, c2, rfl⟩ := h2.sl
  obtain ⟨a3, c3, rfl⟩ := h3.sl
  obtain ⟨a4, c4, rfl⟩ := h4.sl
  have HB0 := hid (B1.start w (.cells #[.int .i64 x.number, .bool x.up, .bool x.has, .int .i64 x.offer.kind, .int .i64 x.offer.to, .int .i64 x.offer.sender, .int .i64 x.offer.epoch, .int .i64 x.offer.edit, .string x.offer.target.name, .string x.offer.target.tool, .string x.offer.target.arg, .slice a0 x.offer.target.ins.length c0, .slice a1 x.offer.target.outs.length c1, .slice a2 x.offer.seen.length c2, .int .i64 x.offer.count, .bool x.offer.turn.over, .int .i64 x.offer.turn.code, .string x.offer.turn.text, .int .i64 x.offer.turn.kind, .string x.offer.turn.name, .int .i64 x.offer.turn.steps, .slice a3 x.offer.turn.files.length c3, .slice a4 x.offer.turn.said.length c4] 43))
  obtain ⟨w0, hw0⟩ : ∃ W, w.alloc (.cells #[.int .i64 x.number, .bool x.up, .bool x.has, .int .i64 x.offer.kind, .int .i64 x.offer.to, .int .i64 x.offer.sender, .int .i64 x.offer.epoch, .int .i64 x.offer.edit, .string x.offer.target.name, .string x.offer.target.tool, .string x.offer.target.arg, .slice a0 x.offer.target.ins.length c0, .slice a1 x.offer.target.outs.length c1, .slice a2 x.offer.seen.length c2, .int .i64 x.offer.count, .bool x.offer.turn.over, .int .i64 x.offer.turn.code, .string x.offer.turn.text, .int .i64 x.offer.turn.kind, .string x.offer.turn.name, .int .i64 x.offer.turn.steps, .slice a3 x.offer.turn.files.length c3, .slice a4 x.offer.turn.said.length c4] 43) = W := ⟨_, rfl⟩
  rw [hw0] at HB0
  have H0 := hid (h0.next HB0.out.lo)
  have H1 := hid (h1.next HB0.out.lo)
  have H2 := hid (h2.next HB0.out.lo)
  have H3 := hid (h3.next HB0.out.lo)
  have H4 := hid (h4.next HB0.out.lo)
  have HC := hid (And.intro e1 (And.intro e2 (And.intro e3 (And.intro e4 e5))))
  have p5 : ¬ (K5 : Int) < 0 := by omega
  clear h0 h1 h2 h3 h4 e1 e2 e3 e4 e5
  have HR0 : Hid (w0.rangeAt w.heap.size 3 [.int .i64 x.offer.kind, .int .i64 x.offer.to, .int .i64 x.offer.sender, .int .i64 x.offer.epoch, .int .i64 x.offer.edit, .string x.offer.target.name, .string x.offer.target.tool, .string x.offer.target.arg, .slice a0 x.offer.target.ins.length c0, .slice a1 x.offer.target.outs.length c1, .slice a2 x.offer.seen.length c2, .int .i64 x.offer.count, .bool x.offer.turn.over, .int .i64 x.offer.turn.code, .string x.offer.turn.text, .int .i64 x.offer.turn.kind, .string x.offer.turn.name, .int .i64 x.offer.turn.steps, .slice a3 x.offer.turn.files.length c3, .slice a4 x.offer.turn.said.length c4]) := hid (range_mid [.int .i64 x.number, .bool x.up, .bool x.has] _ [] HB0.out.e rfl)
  go_enter Tryz.func17, Tryz.ntmps17
  go_upto_region 1 with fail
  clear hw0
  go_wp2_with (first | (go_at_call 40; refine (heldMs_k x.offer w0 H0.out H1.out H2.out H3.out H4.out n0 n1 n2 n3 n4 hK HC.out.1 HC.out.2.1 HC.out.2.2.1 HC.out.2.2.2.1 HC.out.2.2.2.2 hK5).mono ?_; rintro e w1 ⟨rfl, hm⟩; have HM := hid (HB0.out.next hm); clear hm) | (refine wpList_load_mid rfl 41 _ rfl (w.heap.size) 3 rfl [.int .i64 x.offer.kind, .int .i64 x.offer.to, .int .i64 x.offer.sender, .int .i64 x.offer.epoch, .int .i64 x.offer.edit, .string x.offer.target.name, .string x.offer.target.tool, .string x.offer.target.arg, .slice a0 x.offer.target.ins.length c0, .slice a1 x.offer.target.outs.length c1, .slice a2 x.offer.seen.length c2, .int .i64 x.offer.count, .bool x.offer.turn.over, .int .i64 x.offer.turn.code, .string x.offer.turn.text, .int .i64 x.offer.turn.kind, .string x.offer.turn.name, .int .i64 x.offer.turn.steps, .slice a3 x.offer.turn.files.length c3, .slice a4 x.offer.turn.said.length c4] _ HR0.out Tryz.underlying41 rfl (by kernel_rfl) ?_))
  go_ret
  exact ⟨rfl, HM.out.lo⟩
end Go.Proofs.YtlopcjhipajdcaaGreatDoor.Y
