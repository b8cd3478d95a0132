import Derived.Deep.RegionHeld3
import Derived.Deep.MidRow
import Derived.Test.YtlopcjhipajdcaaGreatDoorJ12
import Derived.Test.YtlopcjhipajdcaaGreatDoorJ35
/-! Sameness of workers. -/
namespace Go.Proofs.YtlopcjhipajdcaaGreatDoor.R
open Go.RowKit
set_option maxRecDepth 20000
set_option maxHeartbeats 4000000 in
theorem eqWk_same (x : Wk) {u0 v0 u1 v1 u2 v2 u3 v3 u4 v4 : Value} {B : Nat} (w : World) (hx : LoWk x) (k0 : SStrR B w u0 x.offer.target.ins) (l0 : SStrR B w v0 x.offer.target.ins) (k1 : SStrR B w u1 x.offer.target.outs) (l1 : SStrR B w v1 x.offer.target.outs) (k2 : SSnR B w u2 x.offer.seen) (l2 : SSnR B w v2 x.offer.seen) (k3 : SFlR B w u3 x.offer.turn.files) (l3 : SFlR B w v3 x.offer.turn.files) (k4 : SStrR B w u4 x.offer.turn.said) (l4 : SStrR B w v4 x.offer.turn.said) :
    Calls Tryz.prog 9 #[.agg #[.int .i64 x.number, .bool x.up, .bool x.has, .int .i64 x.offer.kind, .int .i64 x.offer.to, .int .i64 x.offer.sender, .int .i64 x.offer.epoch, .int .i64 x.offer.edit, .string x.offer.target.name, .string x.offer.target.tool, .string x.offer.target.arg, u0, u1, u2, .int .i64 x.offer.count, .bool x.offer.turn.over, .int .i64 x.offer.turn.code, .string x.offer.turn.text, .int .i64 x.offer.turn.kind, .string x.offer.turn.name, .int .i64 x.offer.turn.steps, u3, u4], .agg #[.int .i64 x.number, .bool x.up, .bool x.has, .int .i64 x.offer.kind, .int .i64 x.offer.to, .int .i64 x.offer.sender, .int .i64 x.offer.epoch, .int .i64 x.offer.edit, .string x.offer.target.name, .string x.offer.target.tool, .string x.offer.target.arg, v0, v1, v2, .int .i64 x.offer.count, .bool x.offer.turn.over, .int .i64 x.offer.turn.code, .string x.offer.turn.text, .int .i64 x.offer.turn.kind, .string x.offer.turn.name, .int .i64 x.offer.turn.steps, v3, v4]] w fun e w' => e = .returned (.bool true) ∧ Below w.heap.size w w' := by
  have i0 : (x.number != x.number) = false := by simp
  have i1 : (x.up != x.up) = false := by simp
  have i2 : (x.has != x.has) = false := by simp
  have K0 := hid (And.intro k0 l0)
  obtain ⟨gu0, rfl⟩ := k0.sl
  obtain ⟨gv0, rfl⟩ := l0.sl
  clear k0 l0
  have K1 := hid (And.intro k1 l1)
  obtain ⟨gu1, rfl⟩ := k1.sl
  obtain ⟨gv1, rfl⟩ := l1.sl
  clear k1 l1
  have K2 := hid (And.intro k2 l2)
  obtain ⟨gu2, rfl⟩ := k2.sl
  obtain ⟨gv2, rfl⟩ := l2.sl
  clear k2 l2
  have K3 := hid (And.intro k3 l3)
  obtain ⟨gu3, rfl⟩ := k3.sl
  obtain ⟨gv3, rfl⟩ := l3.sl
  clear k3 l3
  have K4 := hid (And.intro k4 l4)
  obtain ⟨gu4, rfl⟩ := k4.sl
  obtain ⟨gv4, rfl⟩ := l4.sl
  clear k4 l4
  have HB0 := hid (B2.start w (.cells #[.int .i64 x.number, .bool x.up, .bool x.has, .int .i64 x.offer.kind, .int .i64 x.offer.to, .int .i64 x.offer.sender, .int .i64 x.offer.epoch, .int .i64 x.offer.edit, .string x.offer.target.name, .string x.offer.target.tool, .string x.offer.target.arg, .slice (some ⟨gu0, 0, none⟩) x.offer.target.ins.length x.offer.target.ins.length, .slice (some ⟨gu1, 0, none⟩) x.offer.target.outs.length x.offer.target.outs.length, .slice (some ⟨gu2, 0, none⟩) x.offer.seen.length x.offer.seen.length, .int .i64 x.offer.count, .bool x.offer.turn.over, .int .i64 x.offer.turn.code, .string x.offer.turn.text, .int .i64 x.offer.turn.kind, .string x.offer.turn.name, .int .i64 x.offer.turn.steps, .slice (some ⟨gu3, 0, none⟩) x.offer.turn.files.length x.offer.turn.files.length, .slice (some ⟨gu4, 0, none⟩) x.offer.turn.said.length x.offer.turn.said.length] 43) (.cells #[.int .i64 x.number, .bool x.up, .bool x.has, .int .i64 x.offer.kind, .int .i64 x.offer.to, .int .i64 x.offer.sender, .int .i64 x.offer.epoch, .int .i64 x.offer.edit, .string x.offer.target.name, .string x.offer.target.tool, .string x.offer.target.arg, .slice (some ⟨gv0, 0, none⟩) x.offer.target.ins.length x.offer.target.ins.length, .slice (some ⟨gv1, 0, none⟩) x.offer.target.outs.length x.offer.target.outs.length, .slice (some ⟨gv2, 0, none⟩) x.offer.seen.length x.offer.seen.length, .int .i64 x.offer.count, .bool x.offer.turn.over, .int .i64 x.offer.turn.code, .string x.offer.turn.text, .int .i64 x.offer.turn.kind, .string x.offer.turn.name, .int .i64 x.offer.turn.steps, .slice (some ⟨gv3, 0, none⟩) x.offer.turn.files.length x.offer.turn.files.length, .slice (some ⟨gv4, 0, none⟩) x.offer.turn.said.length x.offer.turn.said.length] 43))
  go_enter Tryz.func9, Tryz.ntmps9
  go_upto_region 1 with fail
  obtain ⟨W0, hW0⟩ : ∃ W, (w.alloc (.cells #[.int .i64 x.number, .bool x.up, .bool x.has, .int .i64 x.offer.kind, .int .i64 x.offer.to, .int .i64 x.offer.sender, .int .i64 x.offer.epoch, .int .i64 x.offer.edit, .string x.offer.target.name, .string x.offer.target.tool, .string x.offer.target.arg, .slice (some ⟨gu0, 0, none⟩) x.offer.target.ins.length x.offer.target.ins.length, .slice (some ⟨gu1, 0, none⟩) x.offer.target.outs.length x.offer.target.outs.length, .slice (some ⟨gu2, 0, none⟩) x.offer.seen.length x.offer.seen.length, .int .i64 x.offer.count, .bool x.offer.turn.over, .int .i64 x.offer.turn.code, .string x.offer.turn.text, .int .i64 x.offer.turn.kind, .string x.offer.turn.name, .int .i64 x.offer.turn.steps, .slice (some ⟨gu3, 0, none⟩) x.offer.turn.files.length x.offer.turn.files.length, .slice (some ⟨gu4, 0, none⟩) x.offer.turn.said.length x.offer.turn.said.length] 43)).alloc (.cells #[.int .i64 x.number, .bool x.up, .bool x.has, .int .i64 x.offer.kind, .int .i64 x.offer.to, .int .i64 x.offer.sender, .int .i64 x.offer.epoch, .int .i64 x.offer.edit, .string x.offer.target.name, .string x.offer.target.tool, .string x.offer.target.arg, .slice (some ⟨gv0, 0, none⟩) x.offer.target.ins.length x.offer.target.ins.length, .slice (some ⟨gv1, 0, none⟩) x.offer.target.outs.length x.offer.target.outs.length, .slice (some ⟨gv2, 0, none⟩) x.offer.seen.length x.offer.seen.length, .int .i64 x.offer.count, .bool x.offer.turn.over, .int .i64 x.offer.turn.code, .string x.offer.turn.text, .int .i64 x.offer.turn.kind, .string x.offer.turn.name, .int .i64 x.offer.turn.steps, .slice (some ⟨gv3, 0, none⟩) x.offer.turn.files.length x.offer.turn.files.length, .slice (some ⟨gv4, 0, none⟩) x.offer.turn.said.length x.offer.turn.said.length] 43) = W := ⟨_, rfl⟩
  rw [hW0] at HB0 ⊢
  clear hW0
  have p0 : W0.cell? ⟨w.heap.size, 0, none⟩ = some (.int .i64 x.number) := row_cell HB0.out.e 0
  have q0 : W0.cell? ⟨w.heap.size + 1, 0, none⟩ = some (.int .i64 x.number) := row_cell HB0.out.f 0
  have p1 : W0.cell? ⟨w.heap.size, 1, none⟩ = some (.bool x.up) := row_cell HB0.out.e 1
  have q1 : W0.cell? ⟨w.heap.size + 1, 1, none⟩ = some (.bool x.up) := row_cell HB0.out.f 1
  have p2 : W0.cell? ⟨w.heap.size, 2, none⟩ = some (.bool x.has) := row_cell HB0.out.e 2
  have q2 : W0.cell? ⟨w.heap.size + 1, 2, none⟩ = some (.bool x.has) := row_cell HB0.out.f 2
  go_upto_region 7 with fail
  clear p0 q0 p1 q1 p2 q2 i0 i1 i2
  have HM : Hid (W0.rangeAt w.heap.size 3 [.int .i64 x.offer.kind, .int .i64 x.offer.to, .int .i64 x.offer.sender, .int .i64 x.offer.epoch, .int .i64 x.offer.edit, .string x.offer.target.name, .string x.offer.target.tool, .string x.offer.target.arg, .slice (some ⟨gu0, 0, none⟩) x.offer.target.ins.length x.offer.target.ins.length, .slice (some ⟨gu1, 0, none⟩) x.offer.target.outs.length x.offer.target.outs.length, .slice (some ⟨gu2, 0, none⟩) x.offer.seen.length x.offer.seen.length, .int .i64 x.offer.count, .bool x.offer.turn.over, .int .i64 x.offer.turn.code, .string x.offer.turn.text, .int .i64 x.offer.turn.kind, .string x.offer.turn.name, .int .i64 x.offer.turn.steps, .slice (some ⟨gu3, 0, none⟩) x.offer.turn.files.length x.offer.turn.files.length, .slice (some ⟨gu4, 0, none⟩) x.offer.turn.said.length x.offer.turn.said.length]) := range_mid [.int .i64 x.number, .bool x.up, .bool x.has] _ [] HB0.out.e rfl
  have HN : Hid (W0.rangeAt (w.heap.size + 1) 3 [.int .i64 x.offer.kind, .int .i64 x.offer.to, .int .i64 x.offer.sender, .int .i64 x.offer.epoch, .int .i64 x.offer.edit, .string x.offer.target.name, .string x.offer.target.tool, .string x.offer.target.arg, .slice (some ⟨gv0, 0, none⟩) x.offer.target.ins.length x.offer.target.ins.length, .slice (some ⟨gv1, 0, none⟩) x.offer.target.outs.length x.offer.target.outs.length, .slice (some ⟨gv2, 0, none⟩) x.offer.seen.length x.offer.seen.length, .int .i64 x.offer.count, .bool x.offer.turn.over, .int .i64 x.offer.turn.code, .string x.offer.turn.text, .int .i64 x.offer.turn.kind, .string x.offer.turn.name, .int .i64 x.offer.turn.steps, .slice (some ⟨gv3, 0, none⟩) x.offer.turn.files.length x.offer.turn.files.length, .slice (some ⟨gv4, 0, none⟩) x.offer.turn.said.length x.offer.turn.said.length]) := range_mid [.int .i64 x.number, .bool x.up, .bool x.has] _ [] HB0.out.f rfl
  go_wp2_with (first | (refine wpList_load_mid rfl 41 _ rfl w.heap.size 3 rfl [.int .i64 x.offer.kind, .int .i64 x.offer.to, .int .i64 x.offer.sender, .int .i64 x.offer.epoch, .int .i64 x.offer.edit, .string x.offer.target.name, .string x.offer.target.tool, .string x.offer.target.arg, .slice (some ⟨gu0, 0, none⟩) x.offer.target.ins.length x.offer.target.ins.length, .slice (some ⟨gu1, 0, none⟩) x.offer.target.outs.length x.offer.target.outs.length, .slice (some ⟨gu2, 0, none⟩) x.offer.seen.length x.offer.seen.length, .int .i64 x.offer.count, .bool x.offer.turn.over, .int .i64 x.offer.turn.code, .string x.offer.turn.text, .int .i64 x.offer.turn.kind, .string x.offer.turn.name, .int .i64 x.offer.turn.steps, .slice (some ⟨gu3, 0, none⟩) x.offer.turn.files.length x.offer.turn.files.length, .slice (some ⟨gu4, 0, none⟩) x.offer.turn.said.length x.offer.turn.said.length] _ HM.out Tryz.underlying41 rfl (by kernel_rfl) ?_) | (refine wpList_load_mid rfl 41 _ rfl (w.heap.size + 1) 3 rfl [.int .i64 x.offer.kind, .int .i64 x.offer.to, .int .i64 x.offer.sender, .int .i64 x.offer.epoch, .int .i64 x.offer.edit, .string x.offer.target.name, .string x.offer.target.tool, .string x.offer.target.arg, .slice (some ⟨gv0, 0, none⟩) x.offer.target.ins.length x.offer.target.ins.length, .slice (some ⟨gv1, 0, none⟩) x.offer.target.outs.length x.offer.target.outs.length, .slice (some ⟨gv2, 0, none⟩) x.offer.seen.length x.offer.seen.length, .int .i64 x.offer.count, .bool x.offer.turn.over, .int .i64 x.offer.turn.code, .string x.offer.turn.text, .int .i64 x.offer.turn.kind, .string x.offer.turn.name, .int .i64 x.offer.turn.steps, .slice (some ⟨gv3, 0, none⟩) x.offer.turn.files.length x.offer.turn.files.length, .slice (some ⟨gv4, 0, none⟩) x.offer.turn.said.length x.offer.turn.said.length] _ HN.out Tryz.underlying41 rfl (by kernel_rfl) ?_))
  refine (eqMs_same x.offer _ hx (K0.out.1.next HB0.out.lo) (K0.out.2.next HB0.out.lo) (K1.out.1.next HB0.out.lo) (K1.out.2.next HB0.out.lo) (K2.out.1.next HB0.out.lo) (K2.out.2.next HB0.out.lo) (K3.out.1.next HB0.out.lo) (K3.out.2.next HB0.out.lo) (K4.out.1.next HB0.out.lo) (K4.out.2.next HB0.out.lo)).mono ?_
  rintro e w1 ⟨rfl, hb0⟩
  have HB1 := hid (HB0.out.next hb0)
  clear hb0 HM HN
  go_wp2
  go_ret
  exact ⟨rfl, HB1.out.lo⟩
end Go.Proofs.YtlopcjhipajdcaaGreatDoor.R
/-! Regions that draw their order, over wide structs: a step at a time. -/
namespace Go.Proofs.YtlopcjhipajdcaaGreatDoor.Y
open Go.RowKit R
set_option maxRecDepth 20000
/-- The only operation that may come up is a call of a Go function. -/
theorem held_call {P : Program} {md : Region.Mode} {ops : Array Oper} {Q : Exit → Act → World → Prop} {S : World → Prop} {i fuel : Nat} {listed : Array Bool} {a : Act} {w : World} {o : Oper} (hr : Region.ready md ops listed = [i]) (ho : ops[i]? = some o) (hg : o.guard = none)
    {f : FuncId} {vals : Array Value} (hx : (execOp a.eval o).run P w = .ok (.enter f vals) w) {Q' : Ending → World → Prop} (hc : Calls P f vals w Q')
    (h : ∀ e w', Q' e w' → ∃ v, e = .returned v ∧ S w' ∧ wpAnyH P md ops Q S fuel (listed.setIfInBounds i true) (a.put o.dst v) w') : wpAnyH P md ops Q S (fuel + 1) listed a w := by
  refine wpAnyH_all (rs := [i]) hr (by simp) fun j hj => ?_
  obtain rfl : j = i := by simpa using hj
  unfold wpOp
  rw [ho]
  have hw : Region.wanted o (yielded ops a.tmps) = true := by simp [Region.wanted, hg]
  simp only [hw, if_true]
  refine .inl ?_
  unfold Oper.wp
  rw [hx, Oper.upon_enter]
  refine hc.mono fun e w' hq => ?_
  obtain ⟨v, rfl, hk⟩ := h e w' hq
  exact hk
end Go.Proofs.YtlopcjhipajdcaaGreatDoor.Y
