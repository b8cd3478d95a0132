import Derived.Test.YteeiblhjjeognaaGreatDoorJ13
import Derived.Test.YteeiblhjjeognaaGreatDoorJ23
/-! Copies. -/
namespace Go.Proofs.YteeiblhjjeognaaGreatDoor.R
open Go.RowKit
set_option maxRecDepth 20000
set_option maxHeartbeats 4000000 in
theorem toIn_any (x : C.In) (w : World) :
    Calls Tryz.prog 97 #[.agg #[.int .i64 x.op, .int .i64 x.a, .int .i64 x.n, .string x.text]] w fun e w' => e = .returned (.agg #[.int .i64 x.op, .int .i64 x.a, .int .i64 x.n, .string x.text]) ∧ Below w.heap.size w w' := by
  go_enter Tryz.func97, Tryz.ntmps97
  go_wp2
  refine bodyPost_ret (v := .agg #[.int .i64 x.op, .int .i64 x.a, .int .i64 x.n, .string x.text]) ?_ rfl ⟨rfl, ?_⟩
  · simp [results, Tryz.results97, go_sem]
  · exact (below_two' _ _ _).alloc (by simp; omega) _
theorem info_In : (Tryz.prog.info? 76).map (fun i => (i.zero, i.size, i.bytes)) = some (some (.agg #[.int .i64 0, .int .i64 0, .int .i64 0, .string ⟨#[]⟩]), 4, 40) := by kernel_rfl
set_option maxHeartbeats 4000000 in
theorem toSIn_any (l : List C.In) {v : Value} (w : World) (hx : LoInS l) (k0 : SInA w v l) :
    Calls Tryz.prog 71 #[v] w fun e w' => ∃ u, e = .returned u ∧ SInR w.heap.size w' u l ∧ Below w.heap.size w w' := by
  have HK := hid k0
  have HX := hid hx
  have hN : l.length ≤ 1048576 := hx.1
  obtain ⟨ad, cap, rfl⟩ := k0.sl
  clear hx k0
  obtain ⟨i0, hi, hz0, hz1, hz2⟩ := info_parts info_In
  have HHI := hid (And.intro hi (And.intro hz0 (And.intro hz1 hz2)))
  clear hi hz0 hz1
  go_enter Tryz.func71, Tryz.ntmps71
  go_wp2_with (at_make; refine wpList_make_full _ rfl _ _ 45 rfl w.heap.size 76 i0 (.agg #[.int .i64 0, .int .i64 0, .int .i64 0, .string ⟨#[]⟩]) 4 Tryz.underlying45 HHI.out.1 HHI.out.2.1 HHI.out.2.2.1 _ _ _ _ l.length rfl rfl rfl rfl (by rw [hz2]; omega) (by unfold maxLen; omega) (Nat.le_refl _) ?_; intro w1 o1 g1)
  have HF0 : Hid (SInF w.heap.size w1 l 0) := by
    obtain ⟨h1, ⟨h2, _⟩ | ⟨g, c, cur, e, _, h4, _, _, h7, _⟩⟩ := o1
    · cases h2
    · cases e
      exact ⟨cur, h4, h7, fun i h => absurd h (Nat.not_lt_zero _)⟩
  have HB0 := hid ((Below.refl w.heap.size w).grown g1 (Nat.le_refl _) (fun q e => by cases e))
  clear o1 g1
  go_loopw [4] (fun i wr => ∃ j : Nat, j ≤ l.length ∧ i = .int .i64 j ∧ SInF w.heap.size wr l j ∧ Below w.heap.size w wr) (fun i _ => l.length - (intOf i).toNat)
  case atStart => exact ⟨0, Nat.zero_le _, rfl, HF0.out, HB0.out⟩
  case round =>
    obtain ⟨j, hj, rfl, hfi, hbw⟩ := hrel
    have HFI := hid hfi
    have HBW := hid hbw
    have hgl := hfi.lt
    clear hfi hbw
    by_cases hlt : j < l.length
    · obtain ⟨a, c, e9, hal, ⟨c0, c1, c2, c3⟩⟩ := (HK.out.next HBW.out).at hlt
      injection e9 with ea en ec
      clear en
      subst ea ec
      have HLE := hid (HX.out.2 j hlt)
      obtain ⟨x, hx⟩ : ∃ x, l.getD j C.in0 = x := ⟨_, rfl⟩
      have HXE := hid hx
      rw [hx] at HLE c0 c1 c2 c3
      clear hx
      go_wp2_with fail
      refine (toIn_any x _).mono ?_
      rintro e w2 ⟨rfl, hb2⟩
      have HF2 := hid (HFI.out.keep fun i hi hl => hb2.block i hl)
      have HFX := hid (HF2.out.step hlt)
      rw [HXE.out] at HFX
      obtain ⟨⟨w_0, x0⟩, y0⟩ := HF2.out.room (i := j * 4) (by omega)
      obtain ⟨⟨w_1, x1⟩, y1⟩ := HF2.out.room (i := j * 4 + 1) (by omega)
      obtain ⟨⟨w_2, x2⟩, y2⟩ := HF2.out.room (i := j * 4 + 2) (by omega)
      obtain ⟨⟨w_3, x3⟩, y3⟩ := HF2.out.room (i := j * 4 + 3) (by omega)
      have HBX := hid (HBW.out.trans (hb2.mono HBW.out.size))
      clear hb2 c0 c1 c2 c3
      go_wp2
      go_roundw
      case rel => exact ⟨j + 1, by omega, by go_num, HFX.out, (below_set (below_set (below_set (below_set HBX.out _ _ (Nat.le_refl _) _) _ _ (Nat.le_refl _) _) _ _ (Nat.le_refl _) _) _ _ (Nat.le_refl _) _)⟩
      case measure => simp [intOf]; omega
    · obtain rfl : j = l.length := by omega
      go_wp2
      go_ret
      exact ⟨_, rfl, ⟨w.heap.size, rfl, Nat.le_refl _, HFI.out⟩, HBW.out⟩
end Go.Proofs.YteeiblhjjeognaaGreatDoor.R
/-! Sameness. -/
namespace Go.Proofs.YteeiblhjjeognaaGreatDoor.R
open Go.RowKit
set_option maxRecDepth 20000
set_option maxHeartbeats 4000000 in
theorem eqFn_same (x : C.Fn) {u0 v0 u1 v1 : Value} {B : Nat} (w : World) (hx : LoFn x) (k0 : SIntR B w u0 x.params) (l0 : SIntR B w v0 x.params) (k1 : SInR B w u1 x.ins) (l1 : SInR B w v1 x.ins) :
    Calls Tryz.prog 46 #[.agg #[.string x.name, u0, .int .i64 x.result, .int .i64 x.slots, u1], .agg #[.string x.name, v0, .int .i64 x.result, .int .i64 x.slots, v1]] w fun e w' => e = .returned (.bool true) ∧ Below w.heap.size w w' := by
  have e0 : (x.name.toList != x.name.toList) = false := by simp
  have i0 : (x.result != x.result) = false := by simp
  have i1 : (x.slots != x.slots) = false := by simp
  have K0 := hid (And.intro k0 l0)
  obtain ⟨gu0, rfl⟩ := k0.sl
  obtain ⟨gv0, rfl⟩ := l0.sl
  clear k0 l0
  have K1 := hid (And.intro k1 l1)
  obtain ⟨gu1, rfl⟩ := k1.sl
  obtain ⟨gv1, rfl⟩ := l1.sl
  clear k1 l1
  have HLO := hid hx
  clear hx
  have HB0 := hid (B2.start w (.cells #[.string x.name, .slice (some ⟨gu0, 0, none⟩) x.params.length x.params.length, .int .i64 x.result, .int .i64 x.slots, .slice (some ⟨gu1, 0, none⟩) x.ins.length x.ins.length] 47) (.cells #[.string x.name, .slice (some ⟨gv0, 0, none⟩) x.params.length x.params.length, .int .i64 x.result, .int .i64 x.slots, .slice (some ⟨gv1, 0, none⟩) x.ins.length x.ins.length] 47))
  go_enter Tryz.func46, Tryz.ntmps46
  go_wp2_with fail
  refine (eqSInt_same x.params _ HLO.out.1 (K0.out.1.next HB0.out.lo) (K0.out.2.next HB0.out.lo)).mono ?_
  rintro e w1 ⟨rfl, hb0⟩
  have HB1 := hid (HB0.out.next hb0)
  clear hb0
  have p1_2 : w1.cell? ⟨w.heap.size, 2, none⟩ = some (.int .i64 x.result) := row_cell HB1.out.e 2
  have q1_2 : w1.cell? ⟨w.heap.size + 1, 2, none⟩ = some (.int .i64 x.result) := row_cell HB1.out.f 2
  have p1_3 : w1.cell? ⟨w.heap.size, 3, none⟩ = some (.int .i64 x.slots) := row_cell HB1.out.e 3
  have q1_3 : w1.cell? ⟨w.heap.size + 1, 3, none⟩ = some (.int .i64 x.slots) := row_cell HB1.out.f 3
  have p1_4 : w1.cell? ⟨w.heap.size, 4, none⟩ = some (.slice (some ⟨gu1, 0, none⟩) x.ins.length x.ins.length) := row_cell HB1.out.e 4
  have q1_4 : w1.cell? ⟨w.heap.size + 1, 4, none⟩ = some (.slice (some ⟨gv1, 0, none⟩) x.ins.length x.ins.length) := row_cell HB1.out.f 4
  go_wp2_with fail
  refine (eqSIn_same x.ins _ HLO.out.2 (K1.out.1.next HB1.out.lo) (K1.out.2.next HB1.out.lo)).mono ?_
  rintro e w2 ⟨rfl, hb1⟩
  have HB2 := hid (HB1.out.next hb1)
  clear hb1
  go_wp2
  go_ret
  exact ⟨rfl, HB2.out.lo⟩
set_option maxHeartbeats 4000000 in
theorem eqSFn_same (l : List C.Fn) {u v : Value} {B : Nat} (w : World) (hx : LoFnS l) (k0 : SFnR B w u l) (l0 : SFnR B w v l) :
    Calls Tryz.prog 23 #[u, v] w fun e w' => e = .returned (.bool true) ∧ Below w.heap.size w w' := by
  have H1 := hid k0
  have H2 := hid l0
  have HX := hid hx
  have hN : l.length ≤ 1048576 := hx.1
  obtain ⟨gu, rfl⟩ := k0.sl
  obtain ⟨gv, rfl⟩ := l0.sl
  clear k0 l0 hx
  have hne : ((l.length : Int) != (l.length : Int)) = false := by simp
  go_enter Tryz.func23, Tryz.ntmps23
  go_wp2
  go_loopw [5] (fun i wr => ∃ j : Nat, j ≤ l.length ∧ i = .int .i64 j ∧ Below w.heap.size w wr) (fun i _ => l.length - (intOf i).toNat)
  case atStart => exact ⟨0, Nat.zero_le _, rfl, Below.refl _ _⟩
  case round =>
    obtain ⟨j, hj, rfl, hbw⟩ := hrel
    have HBW := hid hbw
    clear hbw
    by_cases hlt : j < l.length
    · obtain ⟨g, e9, _, hgu, u0, u1, a0, a1, a2, a3, a4, r0, r1⟩ := (H1.out.next HBW.out).at hlt
      injection e9 with ea en ec
      injection ea with eb
      injection eb with ec2
      subst ec2
      obtain ⟨g2, e8, _, hgv, v0, v1, b0, b1, b2, b3, b4, q0, q1⟩ := (H2.out.next HBW.out).at hlt
      injection e8 with ea2 en2 ec3
      injection ea2 with eb2
      injection eb2 with ec4
      subst ec4
      clear en ec en2 ec3
      have HLO := hid (HX.out.2 j hlt)
      obtain ⟨x, hx⟩ : ∃ x, l.getD j C.fn0 = x := ⟨_, rfl⟩
      rw [hx] at HLO a0 b0 a2 b2 a3 b3 r0 q0 r1 q1
      clear hx
      have HT0 := hid (And.intro (r0.mono (B' := 0) (Nat.zero_le _)) (q0.mono (B' := 0) (Nat.zero_le _)))
      obtain ⟨gr0, rfl⟩ := r0.sl
      obtain ⟨gq0, rfl⟩ := q0.sl
      clear r0 q0
      have HT1 := hid (And.intro (r1.mono (B' := 0) (Nat.zero_le _)) (q1.mono (B' := 0) (Nat.zero_le _)))
      obtain ⟨gr1, rfl⟩ := r1.sl
      obtain ⟨gq1, rfl⟩ := q1.sl
      clear r1 q1
      have A0 := fun p : Gr wr => (p.h.cell (p := ⟨_, _, none⟩) hgu).trans a0
      have C0 := fun p : Gr wr => (p.h.cell (p := ⟨_, _, none⟩) hgv).trans b0
      have A1 := fun p : Gr wr => (p.h.cell (p := ⟨_, _, none⟩) hgu).trans a1
      have C1 := fun p : Gr wr => (p.h.cell (p := ⟨_, _, none⟩) hgv).trans b1
      have A2 := fun p : Gr wr => (p.h.cell (p := ⟨_, _, none⟩) hgu).trans a2
      have C2 := fun p : Gr wr => (p.h.cell (p := ⟨_, _, none⟩) hgv).trans b2
      have A3 := fun p : Gr wr => (p.h.cell (p := ⟨_, _, none⟩) hgu).trans a3
      have C3 := fun p : Gr wr => (p.h.cell (p := ⟨_, _, none⟩) hgv).trans b3
      have A4 := fun p : Gr wr => (p.h.cell (p := ⟨_, _, none⟩) hgu).trans a4
      have C4 := fun p : Gr wr => (p.h.cell (p := ⟨_, _, none⟩) hgv).trans b4
      clear a0 b0 a1 b1 a2 b2 a3 b3 a4 b4
      go_wp2_with fail
      have hne2 : Nonempty (Gr wr) := ⟨⟨wr, Below.refl _ _⟩⟩
      refine wp_region_gr (by kernel_rfl) (by kernel_rfl) ?_
      repeat (go_big_quiet_step (first | (go_at_call 46; refine Calls.gr_of (v := .bool true) fun hpw => ?_; exact eqFn_same x _ HLO.out (HT0.out.1.next hpw) (HT0.out.2.next hpw) (HT1.out.1.next hpw) (HT1.out.2.next hpw))))
      refine wpQuiet_nil ?_
      intro _ hw'
      obtain ⟨pw, rfl⟩ := hw'
      have HB4 := hid (HBW.out.trans (pw.h.mono HBW.out.size))
      clear A0 C0 A1 C1 A2 C2 A3 C3 A4 C4
      go_wp2
      go_roundw
      case rel => exact ⟨j + 1, by omega, by go_num, HB4.out⟩
      case measure => simp [intOf]; omega
    · obtain rfl : j = l.length := by omega
      go_wp2
      go_ret
      exact ⟨rfl, HBW.out⟩
end Go.Proofs.YteeiblhjjeognaaGreatDoor.R
