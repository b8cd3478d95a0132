import Derived.Test.YtpcfhbbialgcfaaRkP
/-! Sameness. -/
namespace Go.Proofs.Ytpcfhbbialgcfaa.R
open Go.RowKit
set_option maxRecDepth 20000
set_option maxHeartbeats 4000000 in
theorem eqFl_same (x : Fl) (w : World) :
    Calls Try.prog 42 #[.agg #[.string x.name, .string x.text], .agg #[.string x.name, .string x.text]] w fun e w' => e = .returned (.bool true) ∧ Below w.heap.size w w' := by
  have e0 : (x.name.toList != x.name.toList) = false := by simp
  have e1 : (x.text.toList != x.text.toList) = false := by simp
  have HB0 := hid (B2.start w (.cells #[.string x.name, .string x.text] 45) (.cells #[.string x.name, .string x.text] 45))
  go_enter Try.func42, Try.ntmps42
  go_wp2
  go_ret
  exact ⟨rfl, HB0.out.lo⟩
set_option maxHeartbeats 4000000 in
theorem eqSFl_same (l : List Fl) {u v : Value} {B : Nat} (w : World) (hx : LoFlS l) (k0 : SFlR B w u l) (l0 : SFlR B w v l) :
    Calls Try.prog 25 #[u, v] w fun e w' => e = .returned (.bool true) ∧ Below w.heap.size w w' := by
  have H1 := hid k0
  have H2 := hid l0
  have HX := hid hx
  have hN : l.length ≤ 1048576 := hx.1
  obtain ⟨gu, rfl⟩ := k0.sl
  obtain ⟨gv, rfl⟩ := l0.sl
  clear k0 l0 hx
  have hne : ((l.length : Int) != (l.length : Int)) = false := by simp
  go_enter Try.func25, Try.ntmps25
  go_wp2
  go_loopw [5] (fun i wr => ∃ j : Nat, j ≤ l.length ∧ i = .int .i64 j ∧ Below w.heap.size w wr) (fun i _ => l.length - (intOf i).toNat)
  case atStart => exact ⟨0, Nat.zero_le _, rfl, Below.refl _ _⟩
  case round =>
    obtain ⟨j, hj, rfl, hbw⟩ := hrel
    have HBW := hid hbw
    clear hbw
    by_cases hlt : j < l.length
    · obtain ⟨g, e9, _, hgu, a0, a1⟩ := (H1.out.next HBW.out).at hlt
      injection e9 with ea en ec
      injection ea with eb
      injection eb with ec2
      subst ec2
      obtain ⟨g2, e8, _, hgv, b0, b1⟩ := (H2.out.next HBW.out).at hlt
      injection e8 with ea2 en2 ec3
      injection ea2 with eb2
      injection eb2 with ec4
      subst ec4
      clear en ec en2 ec3
      have HLO := hid (HX.out.2 j hlt)
      obtain ⟨x, hx⟩ : ∃ x, l.getD j fl0 = x := ⟨_, rfl⟩
      rw [hx] at HLO a0 b0 a1 b1
      clear hx
      have A0 := fun p : Gr wr => (p.h.cell (p := ⟨_, _, none⟩) hgu).trans a0
      have C0 := fun p : Gr wr => (p.h.cell (p := ⟨_, _, none⟩) hgv).trans b0
      have A1 := fun p : Gr wr => (p.h.cell (p := ⟨_, _, none⟩) hgu).trans a1
      have C1 := fun p : Gr wr => (p.h.cell (p := ⟨_, _, none⟩) hgv).trans b1
      clear a0 b0 a1 b1
      go_wp2_with fail
      have hne2 : Nonempty (Gr wr) := ⟨⟨wr, Below.refl _ _⟩⟩
      refine wp_region_gr (by kernel_rfl) (by kernel_rfl) ?_
      repeat (go_big_quiet_step (first | (go_at_call 42; refine Calls.gr_of (v := .bool true) fun hpw => ?_; exact eqFl_same x _)))
      refine wpQuiet_nil ?_
      intro _ hw'
      obtain ⟨pw, rfl⟩ := hw'
      have HB4 := hid (HBW.out.trans (pw.h.mono HBW.out.size))
      clear A0 C0 A1 C1
      go_wp2
      go_roundw
      case rel => exact ⟨j + 1, by omega, by go_num, HB4.out⟩
      case measure => simp [intOf]; omega
    · obtain rfl : j = l.length := by omega
      go_wp2
      go_ret
      exact ⟨rfl, HBW.out⟩
end Go.Proofs.Ytpcfhbbialgcfaa.R
