import Derived.Test.YtlopcjhipajdcaaGreatDoorJ11
/-! Sameness. -/
namespace Go.Proofs.YtlopcjhipajdcaaGreatDoor.R
open Go.RowKit
set_option maxRecDepth 20000
set_option maxHeartbeats 4000000 in
theorem eqSn_same (x : Sn) (w : World) :
    Calls Tryz.prog 68 #[.agg #[.int .i64 x.kind, .string x.name, .int .i64 x.reply.code, .string x.reply.text], .agg #[.int .i64 x.kind, .string x.name, .int .i64 x.reply.code, .string x.reply.text]] w fun e w' => e = .returned (.bool true) ∧ Below w.heap.size w w' := by
  have e0 : (x.name.toList != x.name.toList) = false := by simp
  have e1 : (x.reply.text.toList != x.reply.text.toList) = false := by simp
  have i0 : (x.kind != x.kind) = false := by simp
  have i1 : (x.reply.code != x.reply.code) = false := by simp
  have HB0 := hid (B2.start w (.cells #[.int .i64 x.kind, .string x.name, .int .i64 x.reply.code, .string x.reply.text] 88) (.cells #[.int .i64 x.kind, .string x.name, .int .i64 x.reply.code, .string x.reply.text] 88))
  go_enter Tryz.func68, Tryz.ntmps68
  go_wp2_with fail
  refine (eqRy_same x.reply _).mono ?_
  rintro e w1 ⟨rfl, hb0⟩
  have HB1 := hid (HB0.out.next hb0)
  clear hb0
  go_wp2
  go_ret
  exact ⟨rfl, HB1.out.lo⟩
set_option maxHeartbeats 4000000 in
theorem eqSSn_same (l : List Sn) {u v : Value} {B : Nat} (w : World) (hx : LoSnS l) (k0 : SSnR B w u l) (l0 : SSnR B w v l) :
    Calls Tryz.prog 35 #[u, v] w fun e w' => e = .returned (.bool true) ∧ Below w.heap.size w w' := by
  have H1 := hid k0
  have H2 := hid l0
  have HX := hid hx
  have hN : l.length ≤ 1048576 := hx.1
  obtain ⟨gu, rfl⟩ := k0.sl
  obtain ⟨gv, rfl⟩ := l0.sl
  clear k0 l0 hx
  have hne : ((l.length : Int) != (l.length : Int)) = false := by simp
  go_enter Tryz.func35, Tryz.ntmps35
  go_wp2
  go_loopw [5] (fun i wr => ∃ j : Nat, j ≤ l.length ∧ i = .int .i64 j ∧ Below w.heap.size w wr) (fun i _ => l.length - (intOf i).toNat)
  case atStart => exact ⟨0, Nat.zero_le _, rfl, Below.refl _ _⟩
  case round =>
    obtain ⟨j, hj, rfl, hbw⟩ := hrel
    have HBW := hid hbw
    clear hbw
    by_cases hlt : j < l.length
    · obtain ⟨g, e9, _, hgu, a0, a1, a2, a3⟩ := (H1.out.next HBW.out).at hlt
      injection e9 with ea en ec
      injection ea with eb
      injection eb with ec2
      subst ec2
      obtain ⟨g2, e8, _, hgv, b0, b1, b2, b3⟩ := (H2.out.next HBW.out).at hlt
      injection e8 with ea2 en2 ec3
      injection ea2 with eb2
      injection eb2 with ec4
      subst ec4
      clear en ec en2 ec3
      have HLO := hid (HX.out.2 j hlt)
      obtain ⟨x, hx⟩ : ∃ x, l.getD j sn0 = x := ⟨_, rfl⟩
      rw [hx] at HLO a0 b0 a1 b1 a2 b2 a3 b3
      clear hx
      have A0 := fun p : Gr wr => (p.h.cell (p := ⟨_, _, none⟩) hgu).trans a0
      have C0 := fun p : Gr wr => (p.h.cell (p := ⟨_, _, none⟩) hgv).trans b0
      have A1 := fun p : Gr wr => (p.h.cell (p := ⟨_, _, none⟩) hgu).trans a1
      have C1 := fun p : Gr wr => (p.h.cell (p := ⟨_, _, none⟩) hgv).trans b1
      have A2 := fun p : Gr wr => (p.h.cell (p := ⟨_, _, none⟩) hgu).trans a2
      have C2 := fun p : Gr wr => (p.h.cell (p := ⟨_, _, none⟩) hgv).trans b2
      have A3 := fun p : Gr wr => (p.h.cell (p := ⟨_, _, none⟩) hgu).trans a3
      have C3 := fun p : Gr wr => (p.h.cell (p := ⟨_, _, none⟩) hgv).trans b3
      clear a0 b0 a1 b1 a2 b2 a3 b3
      go_wp2_with fail
      have hne2 : Nonempty (Gr wr) := ⟨⟨wr, Below.refl _ _⟩⟩
      refine wp_region_gr (by kernel_rfl) (by kernel_rfl) ?_
      repeat (go_big_quiet_step (first | (go_at_call 68; refine Calls.gr_of (v := .bool true) fun hpw => ?_; exact eqSn_same x _)))
      refine wpQuiet_nil ?_
      intro _ hw'
      obtain ⟨pw, rfl⟩ := hw'
      have HB4 := hid (HBW.out.trans (pw.h.mono HBW.out.size))
      clear A0 C0 A1 C1 A2 C2 A3 C3
      go_wp2
      go_roundw
      case rel => exact ⟨j + 1, by omega, by go_num, HB4.out⟩
      case measure => simp [intOf]; omega
    · obtain rfl : j = l.length := by omega
      go_wp2
      go_ret
      exact ⟨rfl, HBW.out⟩
end Go.Proofs.YtlopcjhipajdcaaGreatDoor.R
/-! Sameness. -/
namespace Go.Proofs.YtlopcjhipajdcaaGreatDoor.R
open Go.RowKit
set_option maxRecDepth 20000
set_option maxHeartbeats 4000000 in
theorem eqFl_same (x : Fl) (w : World) :
    Calls Tryz.prog 94 #[.agg #[.string x.name, .string x.text], .agg #[.string x.name, .string x.text]] w fun e w' => e = .returned (.bool true) ∧ Below w.heap.size w w' := by
  have e0 : (x.name.toList != x.name.toList) = false := by simp
  have e1 : (x.text.toList != x.text.toList) = false := by simp
  have HB0 := hid (B2.start w (.cells #[.string x.name, .string x.text] 114) (.cells #[.string x.name, .string x.text] 114))
  go_enter Tryz.func94, Tryz.ntmps94
  go_wp2
  go_ret
  exact ⟨rfl, HB0.out.lo⟩
set_option maxHeartbeats 4000000 in
theorem eqSFl_same (l : List Fl) {u v : Value} {B : Nat} (w : World) (hx : LoFlS l) (k0 : SFlR B w u l) (l0 : SFlR B w v l) :
    Calls Tryz.prog 69 #[u, v] w fun e w' => e = .returned (.bool true) ∧ Below w.heap.size w w' := by
  have H1 := hid k0
  have H2 := hid l0
  have HX := hid hx
  have hN : l.length ≤ 1048576 := hx.1
  obtain ⟨gu, rfl⟩ := k0.sl
  obtain ⟨gv, rfl⟩ := l0.sl
  clear k0 l0 hx
  have hne : ((l.length : Int) != (l.length : Int)) = false := by simp
  go_enter Tryz.func69, Tryz.ntmps69
  go_wp2
  go_loopw [5] (fun i wr => ∃ j : Nat, j ≤ l.length ∧ i = .int .i64 j ∧ Below w.heap.size w wr) (fun i _ => l.length - (intOf i).toNat)
  case atStart => exact ⟨0, Nat.zero_le _, rfl, Below.refl _ _⟩
  case round =>
    obtain ⟨j, hj, rfl, hbw⟩ := hrel
    have HBW := hid hbw
    clear hbw
    by_cases hlt : j < l.length
    · obtain ⟨g, e9, _, hgu, a0, a1⟩ := (H1.out.next HBW.out).at hlt
      injection e9 with ea en ec
      injection ea with eb
      injection eb with ec2
      subst ec2
      obtain ⟨g2, e8, _, hgv, b0, b1⟩ := (H2.out.next HBW.out).at hlt
      injection e8 with ea2 en2 ec3
      injection ea2 with eb2
      injection eb2 with ec4
      subst ec4
      clear en ec en2 ec3
      have HLO := hid (HX.out.2 j hlt)
      obtain ⟨x, hx⟩ : ∃ x, l.getD j fl0 = x := ⟨_, rfl⟩
      rw [hx] at HLO a0 b0 a1 b1
      clear hx
      have A0 := fun p : Gr wr => (p.h.cell (p := ⟨_, _, none⟩) hgu).trans a0
      have C0 := fun p : Gr wr => (p.h.cell (p := ⟨_, _, none⟩) hgv).trans b0
      have A1 := fun p : Gr wr => (p.h.cell (p := ⟨_, _, none⟩) hgu).trans a1
      have C1 := fun p : Gr wr => (p.h.cell (p := ⟨_, _, none⟩) hgv).trans b1
      clear a0 b0 a1 b1
      go_wp2_with fail
      have hne2 : Nonempty (Gr wr) := ⟨⟨wr, Below.refl _ _⟩⟩
      refine wp_region_gr (by kernel_rfl) (by kernel_rfl) ?_
      repeat (go_big_quiet_step (first | (go_at_call 94; refine Calls.gr_of (v := .bool true) fun hpw => ?_; exact eqFl_same x _)))
      refine wpQuiet_nil ?_
      intro _ hw'
      obtain ⟨pw, rfl⟩ := hw'
      have HB4 := hid (HBW.out.trans (pw.h.mono HBW.out.size))
      clear A0 C0 A1 C1
      go_wp2
      go_roundw
      case rel => exact ⟨j + 1, by omega, by go_num, HB4.out⟩
      case measure => simp [intOf]; omega
    · obtain rfl : j = l.length := by omega
      go_wp2
      go_ret
      exact ⟨rfl, HBW.out⟩
end Go.Proofs.YtlopcjhipajdcaaGreatDoor.R
/-! Sameness. -/
namespace Go.Proofs.YtlopcjhipajdcaaGreatDoor.R
open Go.RowKit
set_option maxRecDepth 20000
set_option maxHeartbeats 4000000 in
theorem eqTu_same (x : Tu) {u0 v0 u1 v1 : Value} {B : Nat} (w : World) (hx : LoTu x) (k0 : SFlR B w u0 x.files) (l0 : SFlR B w v0 x.files) (k1 : SStrR B w u1 x.said) (l1 : SStrR B w v1 x.said) :
    Calls Tryz.prog 36 #[.agg #[.bool x.over, .int .i64 x.code, .string x.text, .int .i64 x.kind, .string x.name, .int .i64 x.steps, u0, u1], .agg #[.bool x.over, .int .i64 x.code, .string x.text, .int .i64 x.kind, .string x.name, .int .i64 x.steps, v0, v1]] w fun e w' => e = .returned (.bool true) ∧ Below w.heap.size w w' := by
  have e0 : (x.text.toList != x.text.toList) = false := by simp
  have e1 : (x.name.toList != x.name.toList) = false := by simp
  have i0 : (x.over != x.over) = false := by simp
  have i1 : (x.code != x.code) = false := by simp
  have i2 : (x.kind != x.kind) = false := by simp
  have i3 : (x.steps != x.steps) = false := by simp
  have K0 := hid (And.intro k0 l0)
  obtain ⟨gu0, rfl⟩ := k0.sl
  obtain ⟨gv0, rfl⟩ := l0.sl
  clear k0 l0
  have K1 := hid (And.intro k1 l1)
  obtain ⟨gu1, rfl⟩ := k1.sl
  obtain ⟨gv1, rfl⟩ := l1.sl
  clear k1 l1
  have HLO := hid hx
  clear hx
  have HB0 := hid (B2.start w (.cells #[.bool x.over, .int .i64 x.code, .string x.text, .int .i64 x.kind, .string x.name, .int .i64 x.steps, .slice (some ⟨gu0, 0, none⟩) x.files.length x.files.length, .slice (some ⟨gu1, 0, none⟩) x.said.length x.said.length] 39) (.cells #[.bool x.over, .int .i64 x.code, .string x.text, .int .i64 x.kind, .string x.name, .int .i64 x.steps, .slice (some ⟨gv0, 0, none⟩) x.files.length x.files.length, .slice (some ⟨gv1, 0, none⟩) x.said.length x.said.length] 39))
  go_enter Tryz.func36, Tryz.ntmps36
  go_wp2_with fail
  refine (eqSFl_same x.files _ HLO.out.1 (K0.out.1.next HB0.out.lo) (K0.out.2.next HB0.out.lo)).mono ?_
  rintro e w1 ⟨rfl, hb0⟩
  have HB1 := hid (HB0.out.next hb0)
  clear hb0
  have p1_7 : w1.cell? ⟨w.heap.size, 7, none⟩ = some (.slice (some ⟨gu1, 0, none⟩) x.said.length x.said.length) := row_cell HB1.out.e 7
  have q1_7 : w1.cell? ⟨w.heap.size + 1, 7, none⟩ = some (.slice (some ⟨gv1, 0, none⟩) x.said.length x.said.length) := row_cell HB1.out.f 7
  go_wp2_with fail
  refine (eqSStr_same x.said _ HLO.out.2 (K1.out.1.next HB1.out.lo) (K1.out.2.next HB1.out.lo)).mono ?_
  rintro e w2 ⟨rfl, hb1⟩
  have HB2 := hid (HB1.out.next hb1)
  clear hb1
  go_wp2
  go_ret
  exact ⟨rfl, HB2.out.lo⟩
end Go.Proofs.YtlopcjhipajdcaaGreatDoor.R
/-! Sameness. -/
namespace Go.Proofs.YtlopcjhipajdcaaGreatDoor.R
open Go.RowKit
set_option maxRecDepth 20000
set_option maxHeartbeats 4000000 in
theorem eqMs_same (x : Ms) {u0 v0 u1 v1 u2 v2 u3 v3 u4 v4 : Value} {B : Nat} (w : World) (hx : LoMs x) (k0 : SStrR B w u0 x.target.ins) (l0 : SStrR B w v0 x.target.ins) (k1 : SStrR B w u1 x.target.outs) (l1 : SStrR B w v1 x.target.outs) (k2 : SSnR B w u2 x.seen) (l2 : SSnR B w v2 x.seen) (k3 : SFlR B w u3 x.turn.files) (l3 : SFlR B w v3 x.turn.files) (k4 : SStrR B w u4 x.turn.said) (l4 : SStrR B w v4 x.turn.said) :
    Calls Tryz.prog 14 #[.agg #[.int .i64 x.kind, .int .i64 x.to, .int .i64 x.sender, .int .i64 x.epoch, .int .i64 x.edit, .string x.target.name, .string x.target.tool, .string x.target.arg, u0, u1, u2, .int .i64 x.count, .bool x.turn.over, .int .i64 x.turn.code, .string x.turn.text, .int .i64 x.turn.kind, .string x.turn.name, .int .i64 x.turn.steps, u3, u4], .agg #[.int .i64 x.kind, .int .i64 x.to, .int .i64 x.sender, .int .i64 x.epoch, .int .i64 x.edit, .string x.target.name, .string x.target.tool, .string x.target.arg, v0, v1, v2, .int .i64 x.count, .bool x.turn.over, .int .i64 x.turn.code, .string x.turn.text, .int .i64 x.turn.kind, .string x.turn.name, .int .i64 x.turn.steps, v3, v4]] w fun e w' => e = .returned (.bool true) ∧ Below w.heap.size w w' := by
  have e0 : (x.target.name.toList != x.target.name.toList) = false := by simp
  have e1 : (x.target.tool.toList != x.target.tool.toList) = false := by simp
  have e2 : (x.target.arg.toList != x.target.arg.toList) = false := by simp
  have e3 : (x.turn.text.toList != x.turn.text.toList) = false := by simp
  have e4 : (x.turn.name.toList != x.turn.name.toList) = false := by simp
  have i0 : (x.kind != x.kind) = false := by simp
  have i1 : (x.to != x.to) = false := by simp
  have i2 : (x.sender != x.sender) = false := by simp
  have i3 : (x.epoch != x.epoch) = false := by simp
  have i4 : (x.edit != x.edit) = false := by simp
  have i5 : (x.count != x.count) = false := by simp
  have i6 : (x.turn.over != x.turn.over) = false := by simp
  have i7 : (x.turn.code != x.turn.code) = false := by simp
  have i8 : (x.turn.kind != x.turn.kind) = false := by simp
  have i9 : (x.turn.steps != x.turn.steps) = false := by simp
  have K0 := hid (And.intro k0 l0)
  obtain ⟨gu0, rfl⟩ := k0.sl
  obtain ⟨gv0, rfl⟩ := l0.sl
  clear k0 l0
  have K1 := hid (And.intro k1 l1)
  obtain ⟨gu1, rfl⟩ := k1.sl
  obtain ⟨gv1, rfl⟩ := l1.sl
  clear k1 l1
  have K2 := hid (And.intro k2 l2)
  obtain ⟨gu2, rfl⟩ := k2.sl
  obtain ⟨gv2, rfl⟩ := l2.sl
  clear k2 l2
  have K3 := hid (And.intro k3 l3)
  obtain ⟨gu3, rfl⟩ := k3.sl
  obtain ⟨gv3, rfl⟩ := l3.sl
  clear k3 l3
  have K4 := hid (And.intro k4 l4)
  obtain ⟨gu4, rfl⟩ := k4.sl
  obtain ⟨gv4, rfl⟩ := l4.sl
  clear k4 l4
  have HLO := hid hx
  clear hx
  have HB0 := hid (B2.start w (.cells #[.int .i64 x.kind, .int .i64 x.to, .int .i64 x.sender, .int .i64 x.epoch, .int .i64 x.edit, .string x.target.name, .string x.target.tool, .string x.target.arg, .slice (some ⟨gu0, 0, none⟩) x.target.ins.length x.target.ins.length, .slice (some ⟨gu1, 0, none⟩) x.target.outs.length x.target.outs.length, .slice (some ⟨gu2, 0, none⟩) x.seen.length x.seen.length, .int .i64 x.count, .bool x.turn.over, .int .i64 x.turn.code, .string x.turn.text, .int .i64 x.turn.kind, .string x.turn.name, .int .i64 x.turn.steps, .slice (some ⟨gu3, 0, none⟩) x.turn.files.length x.turn.files.length, .slice (some ⟨gu4, 0, none⟩) x.turn.said.length x.turn.said.length] 41) (.cells #[.int .i64 x.kind, .int .i64 x.to, .int .i64 x.sender, .int .i64 x.epoch, .int .i64 x.edit, .string x.target.name, .string x.target.tool, .string x.target.arg, .slice (some ⟨gv0, 0, none⟩) x.target.ins.length x.target.ins.length, .slice (some ⟨gv1, 0, none⟩) x.target.outs.length x.target.outs.length, .slice (some ⟨gv2, 0, none⟩) x.seen.length x.seen.length, .int .i64 x.count, .bool x.turn.over, .int .i64 x.turn.code, .string x.turn.text, .int .i64 x.turn.kind, .string x.turn.name, .int .i64 x.turn.steps, .slice (some ⟨gv3, 0, none⟩) x.turn.files.length x.turn.files.length, .slice (some ⟨gv4, 0, none⟩) x.turn.said.length x.turn.said.length] 41))
  go_enter Tryz.func14, Tryz.ntmps14
  go_wp2_with fail
  refine (eqTg_same x.target _ HLO.out.1 (K0.out.1.next HB0.out.lo) (K0.out.2.next HB0.out.lo) (K1.out.1.next HB0.out.lo) (K1.out.2.next HB0.out.lo)).mono ?_
  rintro e w1 ⟨rfl, hb0⟩
  have HB1 := hid (HB0.out.next hb0)
  clear hb0
  have p1_10 : w1.cell? ⟨w.heap.size, 10, none⟩ = some (.slice (some ⟨gu2, 0, none⟩) x.seen.length x.seen.length) := row_cell HB1.out.e 10
  have q1_10 : w1.cell? ⟨w.heap.size + 1, 10, none⟩ = some (.slice (some ⟨gv2, 0, none⟩) x.seen.length x.seen.length) := row_cell HB1.out.f 10
  have p1_11 : w1.cell? ⟨w.heap.size, 11, none⟩ = some (.int .i64 x.count) := row_cell HB1.out.e 11
  have q1_11 : w1.cell? ⟨w.heap.size + 1, 11, none⟩ = some (.int .i64 x.count) := row_cell HB1.out.f 11
  have p1_12 : w1.cell? ⟨w.heap.size, 12, none⟩ = some (.bool x.turn.over) := row_cell HB1.out.e 12
  have q1_12 : w1.cell? ⟨w.heap.size + 1, 12, none⟩ = some (.bool x.turn.over) := row_cell HB1.out.f 12
  have p1_13 : w1.cell? ⟨w.heap.size, 13, none⟩ = some (.int .i64 x.turn.code) := row_cell HB1.out.e 13
  have q1_13 : w1.cell? ⟨w.heap.size + 1, 13, none⟩ = some (.int .i64 x.turn.code) := row_cell HB1.out.f 13
  have p1_14 : w1.cell? ⟨w.heap.size, 14, none⟩ = some (.string x.turn.text) := row_cell HB1.out.e 14
  have q1_14 : w1.cell? ⟨w.heap.size + 1, 14, none⟩ = some (.string x.turn.text) := row_cell HB1.out.f 14
  have p1_15 : w1.cell? ⟨w.heap.size, 15, none⟩ = some (.int .i64 x.turn.kind) := row_cell HB1.out.e 15
  have q1_15 : w1.cell? ⟨w.heap.size + 1, 15, none⟩ = some (.int .i64 x.turn.kind) := row_cell HB1.out.f 15
  have p1_16 : w1.cell? ⟨w.heap.size, 16, none⟩ = some (.string x.turn.name) := row_cell HB1.out.e 16
  have q1_16 : w1.cell? ⟨w.heap.size + 1, 16, none⟩ = some (.string x.turn.name) := row_cell HB1.out.f 16
  have p1_17 : w1.cell? ⟨w.heap.size, 17, none⟩ = some (.int .i64 x.turn.steps) := row_cell HB1.out.e 17
  have q1_17 : w1.cell? ⟨w.heap.size + 1, 17, none⟩ = some (.int .i64 x.turn.steps) := row_cell HB1.out.f 17
  have p1_18 : w1.cell? ⟨w.heap.size, 18, none⟩ = some (.slice (some ⟨gu3, 0, none⟩) x.turn.files.length x.turn.files.length) := row_cell HB1.out.e 18
  have q1_18 : w1.cell? ⟨w.heap.size + 1, 18, none⟩ = some (.slice (some ⟨gv3, 0, none⟩) x.turn.files.length x.turn.files.length) := row_cell HB1.out.f 18
  have p1_19 : w1.cell? ⟨w.heap.size, 19, none⟩ = some (.slice (some ⟨gu4, 0, none⟩) x.turn.said.length x.turn.said.length) := row_cell HB1.out.e 19
  have q1_19 : w1.cell? ⟨w.heap.size + 1, 19, none⟩ = some (.slice (some ⟨gv4, 0, none⟩) x.turn.said.length x.turn.said.length) := row_cell HB1.out.f 19
  go_wp2_with fail
  refine (eqSSn_same x.seen _ HLO.out.2.1 (K2.out.1.next HB1.out.lo) (K2.out.2.next HB1.out.lo)).mono ?_
  rintro e w2 ⟨rfl, hb1⟩
  have HB2 := hid (HB1.out.next hb1)
  clear hb1
  have p2_11 : w2.cell? ⟨w.heap.size, 11, none⟩ = some (.int .i64 x.count) := row_cell HB2.out.e 11
  have q2_11 : w2.cell? ⟨w.heap.size + 1, 11, none⟩ = some (.int .i64 x.count) := row_cell HB2.out.f 11
  have p2_12 : w2.cell? ⟨w.heap.size, 12, none⟩ = some (.bool x.turn.over) := row_cell HB2.out.e 12
  have q2_12 : w2.cell? ⟨w.heap.size + 1, 12, none⟩ = some (.bool x.turn.over) := row_cell HB2.out.f 12
  have p2_13 : w2.cell? ⟨w.heap.size, 13, none⟩ = some (.int .i64 x.turn.code) := row_cell HB2.out.e 13
  have q2_13 : w2.cell? ⟨w.heap.size + 1, 13, none⟩ = some (.int .i64 x.turn.code) := row_cell HB2.out.f 13
  have p2_14 : w2.cell? ⟨w.heap.size, 14, none⟩ = some (.string x.turn.text) := row_cell HB2.out.e 14
  have q2_14 : w2.cell? ⟨w.heap.size + 1, 14, none⟩ = some (.string x.turn.text) := row_cell HB2.out.f 14
  have p2_15 : w2.cell? ⟨w.heap.size, 15, none⟩ = some (.int .i64 x.turn.kind) := row_cell HB2.out.e 15
  have q2_15 : w2.cell? ⟨w.heap.size + 1, 15, none⟩ = some (.int .i64 x.turn.kind) := row_cell HB2.out.f 15
  have p2_16 : w2.cell? ⟨w.heap.size, 16, none⟩ = some (.string x.turn.name) := row_cell HB2.out.e 16
  have q2_16 : w2.cell? ⟨w.heap.size + 1, 16, none⟩ = some (.string x.turn.name) := row_cell HB2.out.f 16
  have p2_17 : w2.cell? ⟨w.heap.size, 17, none⟩ = some (.int .i64 x.turn.steps) := row_cell HB2.out.e 17
  have q2_17 : w2.cell? ⟨w.heap.size + 1, 17, none⟩ = some (.int .i64 x.turn.steps) := row_cell HB2.out.f 17
  have p2_18 : w2.cell? ⟨w.heap.size, 18, none⟩ = some (.slice (some ⟨gu3, 0, none⟩) x.turn.files.length x.turn.files.length) := row_cell HB2.out.e 18
  have q2_18 : w2.cell? ⟨w.heap.size + 1, 18, none⟩ = some (.slice (some ⟨gv3, 0, none⟩) x.turn.files.length x.turn.files.length) := row_cell HB2.out.f 18
  have p2_19 : w2.cell? ⟨w.heap.size, 19, none⟩ = some (.slice (some ⟨gu4, 0, none⟩) x.turn.said.length x.turn.said.length) := row_cell HB2.out.e 19
  have q2_19 : w2.cell? ⟨w.heap.size + 1, 19, none⟩ = some (.slice (some ⟨gv4, 0, none⟩) x.turn.said.length x.turn.said.length) := row_cell HB2.out.f 19
  go_wp2_with fail
  refine (eqTu_same x.turn _ HLO.out.2.2 (K3.out.1.next HB2.out.lo) (K3.out.2.next HB2.out.lo) (K4.out.1.next HB2.out.lo) (K4.out.2.next HB2.out.lo)).mono ?_
  rintro e w3 ⟨rfl, hb2⟩
  have HB3 := hid (HB2.out.next hb2)
  clear hb2
  go_wp2
  go_ret
  exact ⟨rfl, HB3.out.lo⟩
end Go.Proofs.YtlopcjhipajdcaaGreatDoor.R
