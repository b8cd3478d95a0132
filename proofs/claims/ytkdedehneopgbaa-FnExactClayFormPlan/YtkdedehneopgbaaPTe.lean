import Derived.Test.YtkdedehneopgbaaPTo
/-! Targets: sameness. -/
namespace Go.Proofs.Ytkdedehneopgbaa
open Go.RowKit
set_option maxRecDepth 20000
theorem two_boxes {w w1 : World} {X Y : Obj} (h : Below (w.heap.size + 1 + 1) ((w.alloc X).alloc Y) w1) : w1.heap[w.heap.size]? = some X ∧ w1.heap[w.heap.size + 1]? = some Y := by
  refine ⟨?_, ?_⟩
  · rw [h.block _ (by omega), Below.heap_alloc _ _ _ (by simp)]
    exact heap_alloc_new w X
  · rw [h.block _ (by omega)]
    have := heap_alloc_new (w.alloc X) Y
    rwa [World.size_alloc] at this
set_option maxHeartbeats 2000000 in
theorem eqTarget_same (x : Tg) (ai ao bi bo : Option Addr) (ci co di do_ : Nat) (w : World) (hN : x.N ≤ 1048576) (hM : x.M ≤ 1048576) (h1 : TextsA w ai x.N x.ins) (h2 : TextsA w ao x.M x.outs) (h3 : TextsA w bi x.N x.ins) (h4 : TextsA w bo x.M x.outs) :
    Calls Try.prog 16 #[.agg #[.string x.name, .string x.tool, .string x.arg, .slice ai x.N ci, .slice ao x.M co], .agg #[.string x.name, .string x.tool, .string x.arg, .slice bi x.N di, .slice bo x.M do_]] w fun e w' => e = .returned (.bool true) ∧ Below w.heap.size w w' := by
  obtain ⟨n, t, q, N, ins, M, outs⟩ := x
  simp only at hN hM h1 h2 h3 h4
  have e1 : (n.toList != n.toList) = false := by simp
  have e2 : (t.toList != t.toList) = false := by simp
  have e3 : (q.toList != q.toList) = false := by simp
  have HB := hid (below_two' w (.cells #[.string n, .string t, .string q, .slice ai N ci, .slice ao M co] 34) (.cells #[.string n, .string t, .string q, .slice bi N di, .slice bo M do_] 34))
  have H1 := hid (And.intro (h1.below HB.out) (h3.below HB.out))
  have H2 := hid (And.intro h2 h4)
  clear h1 h2 h3 h4
  go_enter Try.func16, Try.ntmps16
  go_wp2_with fail
  refine (eqTextS_all ai bi N ci di ins _ hN H1.out.1 H1.out.2).mono ?_
  rintro e w1 ⟨rfl, hb1⟩
  have HB1 := hid (HB.out.trans (hb1.mono (by simp; omega)))
  obtain ⟨p1, p2⟩ := two_boxes (w := w) (by simpa using hb1)
  have b1 : w1.cell? ⟨w.heap.size, 4, none⟩ = some (.slice ao M co) := row_cell p1 4
  have b2 : w1.cell? ⟨w.heap.size + 1, 4, none⟩ = some (.slice bo M do_) := row_cell p2 4
  clear hb1 p1 p2
  go_wp2_with fail
  refine (eqTextS_all ao bo M co do_ outs _ hM (H2.out.1.below HB1.out) (H2.out.2.below HB1.out)).mono ?_
  rintro e w2 ⟨rfl, hb2⟩
  have HB2 := hid (HB1.out.trans (hb2.mono HB1.out.size))
  clear hb2 b1 b2
  go_wp2
  go_ret
  exact ⟨rfl, HB2.out⟩
set_option maxHeartbeats 2000000 in
theorem eqTargetS_any (a b : Addr) (N c1 c2 : Nat) (f : Nat → Tg) (w : World) (hN : N ≤ 1048576) (hx : ∀ i, i < N → (f i).N ≤ 1048576 ∧ (f i).M ≤ 1048576) (hla : a.block < w.heap.size) (hlb : b.block < w.heap.size) (h1 : ∀ i, i < N → FiveT w (fun _ => True) (a.add (i * 5)) (f i)) (h2 : ∀ i, i < N → FiveT w (fun _ => True) (b.add (i * 5)) (f i)) :
    Calls Try.prog 8 #[.slice (some a) N c1, .slice (some b) N c2] w fun e w' => e = .returned (.bool true) ∧ Below w.heap.size w w' := by
  have H1 := hid h1
  have H2 := hid h2
  have HX := hid hx
  clear h1 h2 hx
  have hne : ((N : Int) != (N : Int)) = false := by simp
  go_enter Try.func8, Try.ntmps8
  go_wp2
  go_loopw [5] (fun i wr => ∃ j : Nat, j ≤ N ∧ i = .int .i64 j ∧ Below w.heap.size w wr) (fun i _ => N - (intOf i).toNat)
  case atStart => exact ⟨0, Nat.zero_le _, rfl, Below.refl _ _⟩
  case round =>
    obtain ⟨j, hj, rfl, hbw⟩ := hrel
    have HBW := hid hbw
    clear hbw
    by_cases hlt : j < N
    · obtain ⟨ai, ci, ao, co, hf1, t1, t2, _⟩ := H1.out j hlt
      obtain ⟨bi, di, bo, do_, hf2, t3, t4, _⟩ := H2.out j hlt
      have HTX := hid (And.intro (And.intro t1 t2) (And.intro t3 t4))
      have F1 : ∀ p : Gr wr, FiveC p.W (a.add (j * 5)) (f j) ai ci ao co := fun p => hf1.of_cells fun q hq => (HBW.out.trans (p.h.mono HBW.out.size)).cell (by rw [hq, add_block]; exact hla)
      have F2 : ∀ p : Gr wr, FiveC p.W (b.add (j * 5)) (f j) bi di bo do_ := fun p => hf2.of_cells fun q hq => (HBW.out.trans (p.h.mono HBW.out.size)).cell (by rw [hq, add_block]; exact hlb)
      have a0 := fun p : Gr wr => (F1 p).1
      have a1 := fun p : Gr wr => (F1 p).2.1
      have a2 := fun p : Gr wr => (F1 p).2.2.1
      have a3 := fun p : Gr wr => (F1 p).2.2.2.1
      have a4 := fun p : Gr wr => (F1 p).2.2.2.2
      have b0 := fun p : Gr wr => (F2 p).1
      have b1 := fun p : Gr wr => (F2 p).2.1
      have b2 := fun p : Gr wr => (F2 p).2.2.1
      have b3 := fun p : Gr wr => (F2 p).2.2.2.1
      have b4 := fun p : Gr wr => (F2 p).2.2.2.2
      clear F1 F2 hf1 hf2 t1 t2 t3 t4
      go_wp2_with fail
      have hne2 : Nonempty (Gr wr) := ⟨⟨wr, Below.refl _ _⟩⟩
      refine wp_region_gr (by kernel_rfl) (by kernel_rfl) ?_
      repeat (quiet_step (first | (go_at_call 16; refine Calls.gr_of (v := .bool true) fun hpw => ?_; have hbx := HBW.out.trans (hpw.mono HBW.out.size); exact eqTarget_same (f j) ai ao bi bo ci co di do_ _ (HX.out j hlt).1 (HX.out j hlt).2 (HTX.out.1.1.below hbx) (HTX.out.1.2.below hbx) (HTX.out.2.1.below hbx) (HTX.out.2.2.below hbx))))
      refine wpQuiet_nil ?_
      intro _ hw'
      obtain ⟨pw, rfl⟩ := hw'
      have HB4 := hid (HBW.out.trans (pw.h.mono HBW.out.size))
      clear a0 a1 a2 a3 a4 b0 b1 b2 b3 b4
      go_wp2
      go_roundw
      case rel => exact ⟨j + 1, by omega, by go_num, HB4.out⟩
      case measure => simp [intOf]; omega
    · obtain rfl : j = N := by omega
      go_wp2
      go_ret
      exact ⟨rfl, HBW.out⟩
set_option maxHeartbeats 1000000 in
theorem eqTargetS_none (a1 a2 : Option Addr) (c1 c2 : Nat) (w : World) :
    Calls Try.prog 8 #[.slice a1 0 c1, .slice a2 0 c2] w fun e w' => e = .returned (.bool true) ∧ Below w.heap.size w w' := by
  go_enter Try.func8, Try.ntmps8
  go_wp2
  go_loopw [5] (fun i wr => i = .int .i64 0 ∧ wr = w) (fun _ _ => 0)
  case atStart => exact ⟨rfl, rfl⟩
  case round =>
    obtain ⟨rfl, rfl⟩ := hrel
    go_wp2
    go_ret
    exact ⟨rfl, Below.refl _ _⟩
theorem eqTargetS_all (a1 a2 : Option Addr) (N c1 c2 : Nat) (f : Nat → Tg) (w : World) (hN : N ≤ 1048576) (hx : ∀ i, i < N → (f i).N ≤ 1048576 ∧ (f i).M ≤ 1048576) (h1 : TgsA w a1 N f) (h2 : TgsA w a2 N f) :
    Calls Try.prog 8 #[.slice a1 N c1, .slice a2 N c2] w fun e w' => e = .returned (.bool true) ∧ Below w.heap.size w w' := by
  rcases h1 with rfl | ⟨a, rfl, l1, k1⟩
  · exact eqTargetS_none a1 a2 c1 c2 w
  · rcases h2 with rfl | ⟨b, rfl, l2, k2⟩
    · exact eqTargetS_none (some a) a2 c1 c2 w
    · exact eqTargetS_any a b N c1 c2 f w hN hx l1 l2 k1 k2
end Go.Proofs.Ytkdedehneopgbaa
