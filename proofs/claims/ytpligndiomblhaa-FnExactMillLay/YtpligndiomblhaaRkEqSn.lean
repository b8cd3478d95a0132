import Derived.Test.YtpligndiomblhaaRkEqRy
/-! Sameness. -/
namespace Go.Proofs.Ytpligndiomblhaa.R
open Go.RowKit
set_option maxRecDepth 20000
set_option maxHeartbeats 4000000 in
theorem eqSn_same (x : Sn) (w : World) :
    Calls Try.prog 38 #[.agg #[.int .i64 x.kind, .string x.name, .int .i64 x.reply.code, .string x.reply.text], .agg #[.int .i64 x.kind, .string x.name, .int .i64 x.reply.code, .string x.reply.text]] w fun e w' => e = .returned (.bool true) ∧ Below w.heap.size w w' := by
  have e0 : (x.name.toList != x.name.toList) = false := by simp
  have e1 : (x.reply.text.toList != x.reply.text.toList) = false := by simp
  have i0 : (x.kind != x.kind) = false := by simp
  have i1 : (x.reply.code != x.reply.code) = false := by simp
  have HB0 := hid (B2.start w (.cells #[.int .i64 x.kind, .string x.name, .int .i64 x.reply.code, .string x.reply.text] 66) (.cells #[.int .i64 x.kind, .string x.name, .int .i64 x.reply.code, .string x.reply.text] 66))
  go_enter Try.func38, Try.ntmps38
  go_wp2_with fail
  refine (eqRy_same x.reply _).mono ?_
  rintro e w1 ⟨rfl, hb0⟩
  have HB1 := hid (HB0.out.next hb0)
  clear hb0
  go_wp2
  go_ret
  exact ⟨rfl, HB1.out.lo⟩
set_option maxHeartbeats 4000000 in
theorem eqSSn_same (l : List Sn) {u v : Value} {B : Nat} (w : World) (hx : LoSnS l) (k0 : SSnR B w u l) (l0 : SSnR B w v l) :
    Calls Try.prog 19 #[u, v] w fun e w' => e = .returned (.bool true) ∧ Below w.heap.size w w' := by
  have H1 := hid k0
  have H2 := hid l0
  have HX := hid hx
  have hN : l.length ≤ 1048576 := hx.1
  obtain ⟨gu, rfl⟩ := k0.sl
  obtain ⟨gv, rfl⟩ := l0.sl
  clear k0 l0 hx
  have hne : ((l.length : Int) != (l.length : Int)) = false := by simp
  go_enter Try.func19, Try.ntmps19
  go_wp2
  go_loopw [5] (fun i wr => ∃ j : Nat, j ≤ l.length ∧ i = .int .i64 j ∧ Below w.heap.size w wr) (fun i _ => l.length - (intOf i).toNat)
  case atStart => exact ⟨0, Nat.zero_le _, rfl, Below.refl _ _⟩
  case round =>
    obtain ⟨j, hj, rfl, hbw⟩ := hrel
    have HBW := hid hbw
    clear hbw
    by_cases hlt : j < l.length
    · obtain ⟨g, e9, _, hgu, a0, a1, a2, a3⟩ := (H1.out.next HBW.out).at hlt
      injection e9 with ea en ec
      injection ea with eb
      injection eb with ec2
      subst ec2
      obtain ⟨g2, e8, _, hgv, b0, b1, b2, b3⟩ := (H2.out.next HBW.out).at hlt
      injection e8 with ea2 en2 ec3
      injection ea2 with eb2
      injection eb2 with ec4
      subst ec4
      clear en ec en2 ec3
      have HLO := hid (HX.out.2 j hlt)
      obtain ⟨x, hx⟩ : ∃ x, l.getD j sn0 = x := ⟨_, rfl⟩
      rw [hx] at HLO a0 b0 a1 b1 a2 b2 a3 b3
      clear hx
      have A0 := fun p : Gr wr => (p.h.cell (p := ⟨_, _, none⟩) hgu).trans a0
      have C0 := fun p : Gr wr => (p.h.cell (p := ⟨_, _, none⟩) hgv).trans b0
      have A1 := fun p : Gr wr => (p.h.cell (p := ⟨_, _, none⟩) hgu).trans a1
      have C1 := fun p : Gr wr => (p.h.cell (p := ⟨_, _, none⟩) hgv).trans b1
      have A2 := fun p : Gr wr => (p.h.cell (p := ⟨_, _, none⟩) hgu).trans a2
      have C2 := fun p : Gr wr => (p.h.cell (p := ⟨_, _, none⟩) hgv).trans b2
      have A3 := fun p : Gr wr => (p.h.cell (p := ⟨_, _, none⟩) hgu).trans a3
      have C3 := fun p : Gr wr => (p.h.cell (p := ⟨_, _, none⟩) hgv).trans b3
      clear a0 b0 a1 b1 a2 b2 a3 b3
      go_wp2_with fail
      have hne2 : Nonempty (Gr wr) := ⟨⟨wr, Below.refl _ _⟩⟩
      refine wp_region_gr (by kernel_rfl) (by kernel_rfl) ?_
      repeat (go_big_quiet_step (first | (go_at_call 38; refine Calls.gr_of (v := .bool true) fun hpw => ?_; exact eqSn_same x _)))
      refine wpQuiet_nil ?_
      intro _ hw'
      obtain ⟨pw, rfl⟩ := hw'
      have HB4 := hid (HBW.out.trans (pw.h.mono HBW.out.size))
      clear A0 C0 A1 C1 A2 C2 A3 C3
      go_wp2
      go_roundw
      case rel => exact ⟨j + 1, by omega, by go_num, HB4.out⟩
      case measure => simp [intOf]; omega
    · obtain rfl : j = l.length := by omega
      go_wp2
      go_ret
      exact ⟨rfl, HBW.out⟩
end Go.Proofs.Ytpligndiomblhaa.R
