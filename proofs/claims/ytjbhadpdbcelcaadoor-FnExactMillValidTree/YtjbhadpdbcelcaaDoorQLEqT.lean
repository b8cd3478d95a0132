import Derived.Test.YtjbhadpdbcelcaaDoorQLTo
import Derived.Test.YtjbhadpdbcelcaaDoorQQuiet
namespace Go.Proofs.YtjbhadpdbcelcaaDoor.Q
open Go.RowKit Go.Shelf
set_option maxRecDepth 20000
set_option maxHeartbeats 1000000 in
theorem eqNode_same (x : Nd) (w : World) :
    Calls Tryd.prog 37 #[ndV x, ndV x] w fun e w' => e = .returned (.bool true) ∧ Below w.heap.size w w' := by
  obtain ⟨k, op, ty, n, t, kids⟩ := x
  unfold ndV
  have h1 : (k != k) = false := by simp
  have h2 : (op != op) = false := by simp
  have h3 : (n != n) = false := by simp
  have h6 : (ty != ty) = false := by simp
  have h4 : (kids != kids) = false := by simp
  have h5 : (t.toList != t.toList) = false := by simp
  go_enter Tryd.func37, Tryd.ntmps37
  go_wp2
  go_ret
  exact ⟨rfl, below_two' _ _ _⟩
set_option maxHeartbeats 1000000 in
theorem eqNodeS_same (g1 g2 N : Nat) (nd : Nat → Nd) (w : World) (hN : N ≤ 1048576) (hl1 : g1 < w.heap.size) (hl2 : g2 < w.heap.size) (h1 : NodesAt w g1 N nd) (h2 : NodesAt w g2 N nd) :
    Calls Tryd.prog 18 #[.slice (some ⟨g1, 0, none⟩) N N, .slice (some ⟨g2, 0, none⟩) N N] w fun e w' => e = .returned (.bool true) ∧ Below w.heap.size w w' := by
  have H1 := hid h1
  have H2 := hid h2
  clear h1 h2
  have hne : ((N : Int) != (N : Int)) = false := by simp
  go_enter Tryd.func18, Tryd.ntmps18
  go_wp2
  go_loopw [5] (fun i wr => ∃ j : Nat, j ≤ N ∧ i = .int .i64 j ∧ Below w.heap.size w wr) (fun i _ => N - (intOf i).toNat)
  case atStart => exact ⟨0, Nat.zero_le _, rfl, Below.refl _ _⟩
  case round =>
    obtain ⟨j, hj, rfl, hbw⟩ := hrel
    have HBW := hid hbw
    clear hbw
    by_cases hlt : j < N
    · have F1 : ∀ p : Gr wr, NodeAt p.W g1 j (nd j) := fun p => (H1.out.below (HBW.out.trans (p.h.mono HBW.out.size)) hl1) j hlt
      have F2 : ∀ p : Gr wr, NodeAt p.W g2 j (nd j) := fun p => (H2.out.below (HBW.out.trans (p.h.mono HBW.out.size)) hl2) j hlt
      have a0 := fun p : Gr wr => (F1 p).1
      have a1 := fun p : Gr wr => (F1 p).2.1
      have a2 := fun p : Gr wr => (F1 p).2.2.1
      have a3 := fun p : Gr wr => (F1 p).2.2.2.1
      have a4 := fun p : Gr wr => (F1 p).2.2.2.2.1
      have a5 := fun p : Gr wr => (F1 p).2.2.2.2.2
      have b0 := fun p : Gr wr => (F2 p).1
      have b1 := fun p : Gr wr => (F2 p).2.1
      have b2 := fun p : Gr wr => (F2 p).2.2.1
      have b3 := fun p : Gr wr => (F2 p).2.2.2.1
      have b4 := fun p : Gr wr => (F2 p).2.2.2.2.1
      have b5 := fun p : Gr wr => (F2 p).2.2.2.2.2
      clear F1 F2
      go_wp2_with fail
      have hne2 : Nonempty (Gr wr) := ⟨⟨wr, Below.refl _ _⟩⟩
      refine wp_region_gr (by kernel_rfl) (by kernel_rfl) ?_
      repeat (quiet_step (first | (go_at_call 37; refine Calls.gr_of (v := .bool true) fun _ => ?_; exact eqNode_same (nd j) _)))
      refine wpQuiet_nil ?_
      intro _ hw'
      obtain ⟨pw, rfl⟩ := hw'
      have HB4 := hid (HBW.out.trans (pw.h.mono HBW.out.size))
      clear a0 a1 a2 a3 a4 a5 b0 b1 b2 b3 b4 b5
      go_wp2
      go_roundw
      case rel => exact ⟨j + 1, by omega, by go_num, HB4.out⟩
      case measure => simp [intOf]; omega
    · obtain rfl : j = N := by omega
      go_wp2
      go_ret
      exact ⟨rfl, HBW.out⟩
end Go.Proofs.YtjbhadpdbcelcaaDoor.Q
