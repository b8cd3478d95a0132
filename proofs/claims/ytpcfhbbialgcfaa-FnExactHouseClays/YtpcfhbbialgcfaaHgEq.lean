import Derived.Test.YtpcfhbbialgcfaaHgPut
/-! Packages that are marked, and marks that are held; rows of packages that are the same. Printed by gen_hc.py. -/
namespace Go.Proofs.Ytpcfhbbialgcfaa.G
open Go.RowKit
open Go.Proofs.Ytpcfhbbialgcfaa.R (hid Fl fl0 lt_hp hp_next B1 B2 row_cell row_room set_at set_other Gr wp_region_gr Calls.gr_of)
open Go.Proofs.Ytpcfhbbialgcfaa.P
set_option maxRecDepth 20000
set_option maxHeartbeats 4000000 in
theorem eqFl_same (x : Fl) (w : World) :
    Calls Try.prog 41 #[.agg #[.string x.name, .string x.text], .agg #[.string x.name, .string x.text]] w fun e w' => e = .returned (.bool true) ∧ Below w.heap.size w w' := by
  have e0 : (x.name.toList != x.name.toList) = false := by simp
  have e1 : (x.text.toList != x.text.toList) = false := by simp
  have HB0 := hid (B2.start w (.cells #[.string x.name, .string x.text] 55) (.cells #[.string x.name, .string x.text] 55))
  go_enter Try.func41, Try.ntmps41
  go_wp2
  go_ret
  exact ⟨rfl, HB0.out.lo⟩
set_option maxHeartbeats 4000000 in
theorem eqF_any (l : List Fl) {u v : Value} (w : World) (hN : l.length ≤ 1048576) (k0 : RdF w u l) (l0 : RdF w v l) :
    Calls Try.prog 23 #[u, v] w fun e w' => e = .returned (.bool true) ∧ Below w.heap.size w w' := by
  have H1 := hid k0
  have H2 := hid l0
  obtain ⟨au, cu, rfl⟩ := k0.sl
  obtain ⟨av, cv, rfl⟩ := l0.sl
  clear k0 l0
  have hne : ((l.length : Int) != (l.length : Int)) = false := by simp
  go_enter Try.func23, Try.ntmps23
  go_wp2
  go_loopw [5] (fun i wr => ∃ j : Nat, j ≤ l.length ∧ i = .int .i64 j ∧ Below w.heap.size w wr) (fun i _ => l.length - (intOf i).toNat)
  case atStart => exact ⟨0, Nat.zero_le _, rfl, Below.refl _ _⟩
  case round =>
    obtain ⟨j, hj, rfl, hbw⟩ := hrel
    have HBW := hid hbw
    clear hbw
    by_cases hlt : j < l.length
    · obtain ⟨gu, hgu, _⟩ := H1.out.at hlt
      obtain ⟨gv, hgv, _⟩ := H2.out.at hlt
      subst hgu hgv
      obtain ⟨⟨xn, xt⟩, hx⟩ : ∃ x, l.getD j fl0 = x := ⟨_, rfl⟩
      have A := hid (fun p : Gr wr => (H1.out.next (HBW.out.trans (p.h.mono HBW.out.size))).at2 hlt hx)
      have C := hid (fun p : Gr wr => (H2.out.next (HBW.out.trans (p.h.mono HBW.out.size))).at2 hlt hx)
      clear hx
      have A0 := fun p : Gr wr => (A.out p).1
      have A1 := fun p : Gr wr => (A.out p).2
      have C0 := fun p : Gr wr => (C.out p).1
      have C1 := fun p : Gr wr => (C.out p).2
      go_wp2_with fail
      have hne2 : Nonempty (Gr wr) := ⟨⟨wr, Below.refl _ _⟩⟩
      refine wp_region_gr (by kernel_rfl) (by kernel_rfl) ?_
      repeat (go_big_quiet_step (first | (go_at_call 41; refine Calls.gr_of (v := .bool true) fun hpw => ?_; exact eqFl_same ⟨xn, xt⟩ _)))
      refine wpQuiet_nil ?_
      intro _ hw'
      obtain ⟨pw, rfl⟩ := hw'
      have HB4 := hid (HBW.out.trans (pw.h.mono HBW.out.size))
      clear A0 C0 A1 C1
      go_wp2
      go_roundw
      case rel => exact ⟨j + 1, by omega, by go_num, HB4.out⟩
      case measure => simp [intOf]; omega
    · obtain rfl : j = l.length := by omega
      go_wp2
      go_ret
      exact ⟨rfl, HBW.out⟩
end Go.Proofs.Ytpcfhbbialgcfaa.G
