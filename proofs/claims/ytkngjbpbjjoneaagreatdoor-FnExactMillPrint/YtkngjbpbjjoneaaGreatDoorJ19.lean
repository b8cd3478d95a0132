import Derived.Deep.RegionWith
import Derived.Test.YtkngjbpbjjoneaaGreatDoorJ11
import Derived.Test.YtkngjbpbjjoneaaGreatDoorJ03
import Derived.Test.YtkngjbpbjjoneaaGreatDoorJ10
import Derived.Test.YtkngjbpbjjoneaaGreatDoorJ12
import Derived.Test.YtkngjbpbjjoneaaGreatDoorJ04
/-! Printed by gen_fld.py. -/
namespace Go.Proofs.YtkngjbpbjjoneaaGreatDoor.Q
open Go.RowKit Go.Shelf
set_option maxRecDepth 20000
set_option maxHeartbeats 4000000 in
theorem fld_E (k : Int) (hk : k < 1 ∨ 24 < k) : PF k := by
  intro op ty n kids t w ht
  have hn : ∀ x : Int, 1 ≤ x → x ≤ 24 → (k == x) = false := fun x h1 h2 => by rw [beq_eq_false_iff_ne]; omega
  have n1 := hn 1 (by decide) (by decide)
  have n2 := hn 2 (by decide) (by decide)
  have n3 := hn 3 (by decide) (by decide)
  have n4 := hn 4 (by decide) (by decide)
  have n5 := hn 5 (by decide) (by decide)
  have n6 := hn 6 (by decide) (by decide)
  have n7 := hn 7 (by decide) (by decide)
  have n8 := hn 8 (by decide) (by decide)
  have n9 := hn 9 (by decide) (by decide)
  have n10 := hn 10 (by decide) (by decide)
  have n11 := hn 11 (by decide) (by decide)
  have n12 := hn 12 (by decide) (by decide)
  have n13 := hn 13 (by decide) (by decide)
  have n14 := hn 14 (by decide) (by decide)
  have n15 := hn 15 (by decide) (by decide)
  have n16 := hn 16 (by decide) (by decide)
  have n17 := hn 17 (by decide) (by decide)
  have n18 := hn 18 (by decide) (by decide)
  have n19 := hn 19 (by decide) (by decide)
  have n20 := hn 20 (by decide) (by decide)
  have n21 := hn 21 (by decide) (by decide)
  have n22 := hn 22 (by decide) (by decide)
  have n23 := hn 23 (by decide) (by decide)
  have n24 := hn 24 (by decide) (by decide)
  clear hn
  have HPL := hid (plain_E k op ty n kids t hk)
  have HU := hid (uses_E k hk)
  have HNM := hid (named_E k hk)
  clear hk
  unfold ndV
  have HT := hid ht
  clear ht
  cases hx : t.toList.isEmpty
  all_goals go_enter Tryz.func21, Tryz.ntmps21
  all_goals go_wp2_with (first
    | (go_at_call 37; refine (HU.out _).mono ?_; rintro e w' ⟨rfl, rfl⟩)
    | (go_at_call 38; refine (HNM.out _).mono ?_; rintro e w' ⟨rfl, rfl⟩)
    | (go_at_call 39; refine (l10NameOk_any t _ HT.out).mono ?_; rintro e w1 ⟨hs, hb⟩; obtain ⟨k0, k1, k2, k3, k4, k5⟩ := six_new hb; have HB1 := hid hb; clear hb; rcases hs.get with ⟨rfl, hp⟩ | ⟨rfl, hp⟩))
  all_goals go_ret
  all_goals refine ⟨⟨_, rfl, ?_⟩, ?_⟩
  all_goals first
    | exact (Below.refl w.heap.size w).alloc (Nat.le_refl _) _
    | (rw [HPL.out]; simp [*]; done)
    | (rw [HPL.out]; simp; omega)
    | (rw [HPL.out]; simp [*]; omega)
set_option maxHeartbeats 4000000 in
theorem fld_1 : PF 1 := by
  intro op ty n kids t w ht
  unfold ndV
  have HP0 := hid (plain_1 op ty n kids t)
  clear ht
  by_cases ho : op = 0
  · subst ho
    cases hx : t.toList.isEmpty
    · have HN : Hid (¬ PlainNd ⟨1, 0, ty, n, t, kids⟩) := fun h => by
        have := (HP0.out.1 h).2.1
        rw [hx] at this; cases this
      go_enter Tryz.func21, Tryz.ntmps21
      go_wp2_with (go_at_call 37; refine (uses_1 _).mono ?_; rintro e w' ⟨rfl, rfl⟩)
      go_ret
      exact ⟨says_f HN.out, (Below.refl w.heap.size w).alloc (Nat.le_refl _) _⟩
    · by_cases hT : 3 ≤ ty ∧ ty ≤ 10
      · obtain ⟨T, rfl⟩ := Int.eq_ofNat_of_zero_le (show 0 ≤ ty by omega)
        have h3 : 3 ≤ T := by omega
        have h10 : T ≤ 10 := by omega
        have HI : Hid (∀ W, Calls Tryz.prog 40 #[.int .i64 T] W fun e w' => e = .returned (.bool true) ∧ w' = W) := fun W => (l10Integer_int T W).mono fun e w' ⟨h1, h2⟩ => ⟨by rw [h1]; exact ret_bool (by simp; omega), h2⟩
        rw [num_T T h3 h10 n, hx] at HP0
        clear hT
        go_enter Tryz.func21, Tryz.ntmps21
        go_wp2_with (first
          | (go_at_call 37; refine (uses_1 _).mono ?_; rintro e w' ⟨rfl, rfl⟩)
          | (go_at_call 38; refine (named_1 _).mono ?_; rintro e w' ⟨rfl, rfl⟩))
        go_quiet (first | (go_at_call 40; exact Calls.quiet_of_same (HI.out _)) | (go_at_call 41; exact Calls.quiet_of_same (l10Max_any T h3 h10 _)))
        all_goals go_wp2
        all_goals go_ret
        all_goals refine ⟨⟨_, rfl, ?_⟩, below_drewN ((Below.refl w.heap.size w).alloc (Nat.le_refl _) _) nq⟩
        all_goals rw [HP0.out]
        all_goals simp
      · have HI : Hid (∀ W, Calls Tryz.prog 40 #[.int .i64 ty] W fun e w' => e = .returned (.bool false) ∧ w' = W) := fun W => (l10Integer_int ty W).mono fun e w' ⟨h1, h2⟩ => ⟨by rw [h1]; exact ret_bool (by simp; omega), h2⟩
        have HN : Hid (¬ PlainNd ⟨1, 0, ty, n, t, kids⟩) := fun h => by
          obtain ⟨_, _, T, e, h3, h10, _⟩ := HP0.out.1 h
          omega
        clear hT
        go_enter Tryz.func21, Tryz.ntmps21
        go_wp2_with (first
          | (go_at_call 37; refine (uses_1 _).mono ?_; rintro e w' ⟨rfl, rfl⟩)
          | (go_at_call 38; refine (named_1 _).mono ?_; rintro e w' ⟨rfl, rfl⟩))
        go_quiet (first | (go_at_call 40; exact Calls.quiet_of_same (HI.out _)))
        all_goals go_wp2
        all_goals go_ret
        all_goals exact ⟨says_f HN.out, below_drewN ((Below.refl w.heap.size w).alloc (Nat.le_refl _) _) nq⟩
  · have HN : Hid (¬ PlainNd ⟨1, op, ty, n, t, kids⟩) := fun h => ho (HP0.out.1 h).1
    have hne : (op != 0) = true := by rw [bne_iff_ne]; exact ho
    clear ho
    go_enter Tryz.func21, Tryz.ntmps21
    go_wp2_with (go_at_call 37; refine (uses_1 _).mono ?_; rintro e w' ⟨rfl, rfl⟩)
    all_goals go_ret
    all_goals exact ⟨says_f HN.out, (Below.refl w.heap.size w).alloc (Nat.le_refl _) _⟩
end Go.Proofs.YtkngjbpbjjoneaaGreatDoor.Q
/-! Printed by gen_fit.py. -/
namespace Go.Proofs.YtkngjbpbjjoneaaGreatDoor.Q
open Go.RowKit Go.Shelf
set_option maxRecDepth 20000
/-- What the program reads of its table of built words: how many kids each has. -/
def EnvB (w : World) : Prop := 1 < w.heap.size ∧ w.cell? ⟨1, 3, none⟩ = some (.int .i64 1) ∧ w.cell? ⟨1, 5, none⟩ = some (.int .i64 1) ∧ w.cell? ⟨1, 7, none⟩ = some (.int .i64 1) ∧ w.cell? ⟨1, 9, none⟩ = some (.int .i64 2) ∧ w.cell? ⟨1, 11, none⟩ = some (.int .i64 0) ∧ w.cell? ⟨1, 13, none⟩ = some (.int .i64 1) ∧ w.cell? ⟨1, 15, none⟩ = some (.int .i64 2) ∧ w.cell? ⟨1, 17, none⟩ = some (.int .i64 3) ∧ w.cell? ⟨1, 19, none⟩ = some (.int .i64 2) ∧ w.cell? ⟨1, 21, none⟩ = some (.int .i64 1) ∧ w.cell? ⟨1, 23, none⟩ = some (.int .i64 1) ∧ w.cell? ⟨1, 25, none⟩ = some (.int .i64 1)
theorem EnvB.below {w w' : World} (h : EnvB w) (hb : Below w.heap.size w w') : EnvB w' := by
  obtain ⟨h0, h1, h2, h3, h4, h5, h6, h7, h8, h9, h10, h11, h12⟩ := h
  exact ⟨Nat.lt_of_lt_of_le h0 hb.size, (hb.cell (p := ⟨1, 3, none⟩) h0).trans h1, (hb.cell (p := ⟨1, 5, none⟩) h0).trans h2, (hb.cell (p := ⟨1, 7, none⟩) h0).trans h3, (hb.cell (p := ⟨1, 9, none⟩) h0).trans h4, (hb.cell (p := ⟨1, 11, none⟩) h0).trans h5, (hb.cell (p := ⟨1, 13, none⟩) h0).trans h6, (hb.cell (p := ⟨1, 15, none⟩) h0).trans h7, (hb.cell (p := ⟨1, 17, none⟩) h0).trans h8, (hb.cell (p := ⟨1, 19, none⟩) h0).trans h9, (hb.cell (p := ⟨1, 21, none⟩) h0).trans h10, (hb.cell (p := ⟨1, 23, none⟩) h0).trans h11, (hb.cell (p := ⟨1, 25, none⟩) h0).trans h12⟩
/-- What millKidsFit owes for a kind. -/
def KF (k : Int) : Prop := ∀ (op ty n kids : Int) (t : ByteArray) (ad : Option Addr) (m c : Nat) (st : Nat → Int) (sh : Nat → Nat) (w : World), m ≤ 12001 → (k = 8 → 1 ≤ op ∧ op ≤ 12) → m ≤ c → c ≤ maxLen → StA w ad m st sh → EnvB w →
    Calls Tryz.prog 28 #[ndV ⟨k, op, ty, n, t, kids⟩, .slice ad m c] w fun e w' => Says e (KidsOk ⟨k, op, ty, n, t, kids⟩ m st) ∧ Below w.heap.size w w'
set_option maxHeartbeats 1000000 in
theorem askFits_any (g o c : Nat) (st : Nat → Int) (sh : Nat → Nat) (w : World) (hc : 2 ≤ c) (hg : g < w.heap.size) (hs : StandAt w g o 2 st sh) :
    Calls Tryz.prog 52 #[.slice (some ⟨g, o, none⟩) 2 c] w fun e w' => Says e (mE (st 0) ∧ st 1 = 21) ∧ Below w.heap.size w w' := by
  have HF : Hid (StA w (some ⟨g, o, none⟩) 1 st sh) := .inr ⟨g, o, rfl, hg, hs.front (by omega)⟩
  have HC : Hid (∀ W, Below w.heap.size w W → W.cell? ⟨g, o + 2, none⟩ = some (.int .i64 (st 1))) := fun W hb => (hb.cell (p := ⟨g, o + 2, none⟩) hg).trans (hs 1 (by omega)).1
  clear hs
  by_cases h1 : st 1 = 21
  · have e1 : (st 1 == 21) = true := by rw [h1]; rfl
    have H1 := hid h1
    clear h1
    go_enter Tryz.func52, Tryz.ntmps52
    go_wp2_with (go_at_call 51; refine (areE_any (some ⟨g, o, none⟩) 1 _ _ _ st sh _ (by omega) HF.out).mono ?_; rintro e w1 ⟨hs1, hb1⟩; have c1 := HC.out _ hb1; have HB1 := hid hb1; clear hb1; rcases hs1.get with ⟨rfl, hP1⟩ | ⟨rfl, hP1⟩; all_goals (have HP1 := hid hP1; clear hP1 hs1))
    all_goals go_ret
    · exact ⟨says_t ⟨HP1.out.2.2 0 (by omega), H1.out⟩, HB1.out⟩
    · exact ⟨says_f (fun h => HP1.out ⟨by omega, by omega, (allE_1 st).2 h.1⟩), HB1.out⟩
  · have e1 : (st 1 == 21) = false := by rw [beq_eq_false_iff_ne]; exact h1
    have H1 := hid h1
    clear h1
    go_enter Tryz.func52, Tryz.ntmps52
    go_wp2_with (go_at_call 51; refine (areE_any (some ⟨g, o, none⟩) 1 _ _ _ st sh _ (by omega) HF.out).mono ?_; rintro e w1 ⟨hs1, hb1⟩; have c1 := HC.out _ hb1; have HB1 := hid hb1; clear hb1; rcases hs1.get with ⟨rfl, hP1⟩ | ⟨rfl, hP1⟩; all_goals (have HP1 := hid hP1; clear hP1 hs1))
    all_goals go_ret
    all_goals exact ⟨says_f (fun h => H1.out h.2), HB1.out⟩
end Go.Proofs.YtkngjbpbjjoneaaGreatDoor.Q
namespace Go.Proofs.YtkngjbpbjjoneaaGreatDoor.Q
open Go.RowKit Go.Shelf
set_option maxRecDepth 20000
set_option maxHeartbeats 1000000 in
theorem eqNode_same (x : Nd) (w : World) :
    Calls Tryz.prog 36 #[ndV x, ndV x] w fun e w' => e = .returned (.bool true) ∧ Below w.heap.size w w' := by
  obtain ⟨k, op, ty, n, t, kids⟩ := x
  unfold ndV
  have h1 : (k != k) = false := by simp
  have h2 : (op != op) = false := by simp
  have h3 : (n != n) = false := by simp
  have h6 : (ty != ty) = false := by simp
  have h4 : (kids != kids) = false := by simp
  have h5 : (t.toList != t.toList) = false := by simp
  go_enter Tryz.func36, Tryz.ntmps36
  go_wp2
  go_ret
  exact ⟨rfl, below_two' _ _ _⟩
set_option maxHeartbeats 1000000 in
theorem eqNodeS_same (g1 g2 N : Nat) (nd : Nat → Nd) (w : World) (hN : N ≤ 1048576) (hl1 : g1 < w.heap.size) (hl2 : g2 < w.heap.size) (h1 : NodesAt w g1 N nd) (h2 : NodesAt w g2 N nd) :
    Calls Tryz.prog 19 #[.slice (some ⟨g1, 0, none⟩) N N, .slice (some ⟨g2, 0, none⟩) N N] w fun e w' => e = .returned (.bool true) ∧ Below w.heap.size w w' := by
  have H1 := hid h1
  have H2 := hid h2
  clear h1 h2
  have hne : ((N : Int) != (N : Int)) = false := by simp
  go_enter Tryz.func19, Tryz.ntmps19
  go_wp2
  go_loopw [5] (fun i wr => ∃ j : Nat, j ≤ N ∧ i = .int .i64 j ∧ Below w.heap.size w wr) (fun i _ => N - (intOf i).toNat)
  case atStart => exact ⟨0, Nat.zero_le _, rfl, Below.refl _ _⟩
  case round =>
    obtain ⟨j, hj, rfl, hbw⟩ := hrel
    have HBW := hid hbw
    clear hbw
    by_cases hlt : j < N
    · have F1 : ∀ p : Gr wr, NodeAt p.W g1 j (nd j) := fun p => (H1.out.below (HBW.out.trans (p.h.mono HBW.out.size)) hl1) j hlt
      have F2 : ∀ p : Gr wr, NodeAt p.W g2 j (nd j) := fun p => (H2.out.below (HBW.out.trans (p.h.mono HBW.out.size)) hl2) j hlt
      have a0 := fun p : Gr wr => (F1 p).1
      have a1 := fun p : Gr wr => (F1 p).2.1
      have a2 := fun p : Gr wr => (F1 p).2.2.1
      have a3 := fun p : Gr wr => (F1 p).2.2.2.1
      have a4 := fun p : Gr wr => (F1 p).2.2.2.2.1
      have a5 := fun p : Gr wr => (F1 p).2.2.2.2.2
      have b0 := fun p : Gr wr => (F2 p).1
      have b1 := fun p : Gr wr => (F2 p).2.1
      have b2 := fun p : Gr wr => (F2 p).2.2.1
      have b3 := fun p : Gr wr => (F2 p).2.2.2.1
      have b4 := fun p : Gr wr => (F2 p).2.2.2.2.1
      have b5 := fun p : Gr wr => (F2 p).2.2.2.2.2
      clear F1 F2
      go_wp2_with fail
      have hne2 : Nonempty (Gr wr) := ⟨⟨wr, Below.refl _ _⟩⟩
      refine wp_region_gr (by kernel_rfl) (by kernel_rfl) ?_
      repeat (quiet_step (first | (go_at_call 36; refine Calls.gr_of (v := .bool true) fun _ => ?_; exact eqNode_same (nd j) _)))
      refine wpQuiet_nil ?_
      intro _ hw'
      obtain ⟨pw, rfl⟩ := hw'
      have HB4 := hid (HBW.out.trans (pw.h.mono HBW.out.size))
      clear a0 a1 a2 a3 a4 a5 b0 b1 b2 b3 b4 b5
      go_wp2
      go_roundw
      case rel => exact ⟨j + 1, by omega, by go_num, HB4.out⟩
      case measure => simp [intOf]; omega
    · obtain rfl : j = N := by omega
      go_wp2
      go_ret
      exact ⟨rfl, HBW.out⟩
end Go.Proofs.YtkngjbpbjjoneaaGreatDoor.Q
/-! Printed by gen_fld.py. -/
namespace Go.Proofs.YtkngjbpbjjoneaaGreatDoor.Q
open Go.RowKit Go.Shelf
set_option maxRecDepth 20000
set_option maxHeartbeats 8000000 in
theorem us_12 : UF 12 := by
  intro op ty n kids t r w ht hr
  clear ht hr
  unfold ndV
  go_enter Tryz.func27, Tryz.ntmps27
  go_wp2
  all_goals go_ret
  all_goals first
    | (refine ⟨says_t ?_, below_two _ _ _⟩; rw [plain_12]; simp [*]; done)
    | (refine ⟨says_f ?_, below_two _ _ _⟩; rw [plain_12]; simp [*]; done)
    | (refine ⟨says_t ?_, below_two _ _ _⟩; rw [plain_12]; (try simp [*]); omega)
    | (refine ⟨says_f ?_, below_two _ _ _⟩; rw [plain_12]; (try simp [*]); (try intros); omega)
set_option maxHeartbeats 8000000 in
theorem us_13 : UF 13 := by
  intro op ty n kids t r w ht hr
  clear ht hr
  unfold ndV
  go_enter Tryz.func27, Tryz.ntmps27
  go_wp2
  all_goals go_ret
  all_goals first
    | (refine ⟨says_t ?_, below_two _ _ _⟩; rw [plain_13]; simp [*]; done)
    | (refine ⟨says_f ?_, below_two _ _ _⟩; rw [plain_13]; simp [*]; done)
    | (refine ⟨says_t ?_, below_two _ _ _⟩; rw [plain_13]; (try simp [*]); omega)
    | (refine ⟨says_f ?_, below_two _ _ _⟩; rw [plain_13]; (try simp [*]); (try intros); omega)
set_option maxHeartbeats 8000000 in
theorem us_14 : UF 14 := by
  intro op ty n kids t r w ht hr
  clear ht hr
  unfold ndV
  go_enter Tryz.func27, Tryz.ntmps27
  go_wp2
  all_goals go_ret
  all_goals first
    | (refine ⟨says_t ?_, below_two _ _ _⟩; rw [plain_14]; simp [*]; done)
    | (refine ⟨says_f ?_, below_two _ _ _⟩; rw [plain_14]; simp [*]; done)
    | (refine ⟨says_t ?_, below_two _ _ _⟩; rw [plain_14]; (try simp [*]); omega)
    | (refine ⟨says_f ?_, below_two _ _ _⟩; rw [plain_14]; (try simp [*]); (try intros); omega)
set_option maxHeartbeats 8000000 in
theorem us_15 : UF 15 := by
  intro op ty n kids t r w ht hr
  clear ht hr
  unfold ndV
  go_enter Tryz.func27, Tryz.ntmps27
  go_wp2
  all_goals go_ret
  all_goals first
    | (refine ⟨says_t ?_, below_two _ _ _⟩; rw [plain_15]; simp [*]; done)
    | (refine ⟨says_f ?_, below_two _ _ _⟩; rw [plain_15]; simp [*]; done)
    | (refine ⟨says_t ?_, below_two _ _ _⟩; rw [plain_15]; (try simp [*]); omega)
    | (refine ⟨says_f ?_, below_two _ _ _⟩; rw [plain_15]; (try simp [*]); (try intros); omega)
set_option maxHeartbeats 8000000 in
theorem us_16 : UF 16 := by
  intro op ty n kids t r w ht hr
  clear ht hr
  unfold ndV
  go_enter Tryz.func27, Tryz.ntmps27
  go_wp2
  all_goals go_ret
  all_goals first
    | (refine ⟨says_t ?_, below_two _ _ _⟩; rw [plain_16]; simp [*]; done)
    | (refine ⟨says_f ?_, below_two _ _ _⟩; rw [plain_16]; simp [*]; done)
    | (refine ⟨says_t ?_, below_two _ _ _⟩; rw [plain_16]; (try simp [*]); omega)
    | (refine ⟨says_f ?_, below_two _ _ _⟩; rw [plain_16]; (try simp [*]); (try intros); omega)
set_option maxHeartbeats 8000000 in
theorem us_17 : UF 17 := by
  intro op ty n kids t r w ht hr
  clear ht hr
  unfold ndV
  go_enter Tryz.func27, Tryz.ntmps27
  go_wp2
  all_goals go_ret
  all_goals first
    | (refine ⟨says_t ?_, below_two _ _ _⟩; rw [plain_17]; simp [*]; done)
    | (refine ⟨says_f ?_, below_two _ _ _⟩; rw [plain_17]; simp [*]; done)
    | (refine ⟨says_t ?_, below_two _ _ _⟩; rw [plain_17]; (try simp [*]); omega)
    | (refine ⟨says_f ?_, below_two _ _ _⟩; rw [plain_17]; (try simp [*]); (try intros); omega)
set_option maxHeartbeats 8000000 in
theorem us_18 : UF 18 := by
  intro op ty n kids t r w ht hr
  clear ht hr
  unfold ndV
  go_enter Tryz.func27, Tryz.ntmps27
  go_wp2
  all_goals go_ret
  all_goals first
    | (refine ⟨says_t ?_, below_two _ _ _⟩; rw [plain_18]; simp [*]; done)
    | (refine ⟨says_f ?_, below_two _ _ _⟩; rw [plain_18]; simp [*]; done)
    | (refine ⟨says_t ?_, below_two _ _ _⟩; rw [plain_18]; (try simp [*]); omega)
    | (refine ⟨says_f ?_, below_two _ _ _⟩; rw [plain_18]; (try simp [*]); (try intros); omega)
set_option maxHeartbeats 8000000 in
theorem us_19 : UF 19 := by
  intro op ty n kids t r w ht hr
  clear ht hr
  unfold ndV
  go_enter Tryz.func27, Tryz.ntmps27
  go_wp2
  all_goals go_ret
  all_goals first
    | (refine ⟨says_t ?_, below_two _ _ _⟩; rw [plain_19]; simp [*]; done)
    | (refine ⟨says_f ?_, below_two _ _ _⟩; rw [plain_19]; simp [*]; done)
    | (refine ⟨says_t ?_, below_two _ _ _⟩; rw [plain_19]; (try simp [*]); omega)
    | (refine ⟨says_f ?_, below_two _ _ _⟩; rw [plain_19]; (try simp [*]); (try intros); omega)
set_option maxHeartbeats 8000000 in
theorem us_20 : UF 20 := by
  intro op ty n kids t r w ht hr
  clear ht hr
  unfold ndV
  go_enter Tryz.func27, Tryz.ntmps27
  go_wp2
  all_goals go_ret
  all_goals first
    | (refine ⟨says_t ?_, below_two _ _ _⟩; rw [plain_20]; simp [*]; done)
    | (refine ⟨says_f ?_, below_two _ _ _⟩; rw [plain_20]; simp [*]; done)
    | (refine ⟨says_t ?_, below_two _ _ _⟩; rw [plain_20]; (try simp [*]); omega)
    | (refine ⟨says_f ?_, below_two _ _ _⟩; rw [plain_20]; (try simp [*]); (try intros); omega)
set_option maxHeartbeats 8000000 in
theorem us_21 : UF 21 := by
  intro op ty n kids t r w ht hr
  clear ht hr
  unfold ndV
  go_enter Tryz.func27, Tryz.ntmps27
  go_wp2
  all_goals go_ret
  all_goals first
    | (refine ⟨says_t ?_, below_two _ _ _⟩; rw [plain_21]; simp [*]; done)
    | (refine ⟨says_f ?_, below_two _ _ _⟩; rw [plain_21]; simp [*]; done)
    | (refine ⟨says_t ?_, below_two _ _ _⟩; rw [plain_21]; (try simp [*]); omega)
    | (refine ⟨says_f ?_, below_two _ _ _⟩; rw [plain_21]; (try simp [*]); (try intros); omega)
set_option maxHeartbeats 8000000 in
theorem us_24 : UF 24 := by
  intro op ty n kids t r w ht hr
  clear ht hr
  unfold ndV
  go_enter Tryz.func27, Tryz.ntmps27
  go_wp2
  all_goals go_ret
  all_goals first
    | (refine ⟨says_t ?_, below_two _ _ _⟩; rw [plain_24]; simp [*]; done)
    | (refine ⟨says_f ?_, below_two _ _ _⟩; rw [plain_24]; simp [*]; done)
    | (refine ⟨says_t ?_, below_two _ _ _⟩; rw [plain_24]; (try simp [*]); omega)
    | (refine ⟨says_f ?_, below_two _ _ _⟩; rw [plain_24]; (try simp [*]); (try intros); omega)
end Go.Proofs.YtkngjbpbjjoneaaGreatDoor.Q
/-! Printed by gen_fld.py. -/
namespace Go.Proofs.YtkngjbpbjjoneaaGreatDoor.Q
open Go.RowKit Go.Shelf
set_option maxRecDepth 20000
set_option maxHeartbeats 8000000 in
theorem us_2 : UF 2 := by
  intro op ty n kids t r w ht hr
  clear ht hr
  unfold ndV
  go_enter Tryz.func27, Tryz.ntmps27
  go_wp2
  all_goals go_ret
  all_goals first
    | (refine ⟨says_t ?_, below_two _ _ _⟩; rw [plain_2]; simp [*]; done)
    | (refine ⟨says_f ?_, below_two _ _ _⟩; rw [plain_2]; simp [*]; done)
    | (refine ⟨says_t ?_, below_two _ _ _⟩; rw [plain_2]; (try simp [*]); omega)
    | (refine ⟨says_f ?_, below_two _ _ _⟩; rw [plain_2]; (try simp [*]); (try intros); omega)
set_option maxHeartbeats 8000000 in
theorem us_3 : UF 3 := by
  intro op ty n kids t r w ht hr
  clear ht hr
  unfold ndV
  go_enter Tryz.func27, Tryz.ntmps27
  go_wp2
  all_goals go_ret
  all_goals first
    | (refine ⟨says_t ?_, below_two _ _ _⟩; rw [plain_3]; simp [*]; done)
    | (refine ⟨says_f ?_, below_two _ _ _⟩; rw [plain_3]; simp [*]; done)
    | (refine ⟨says_t ?_, below_two _ _ _⟩; rw [plain_3]; (try simp [*]); omega)
    | (refine ⟨says_f ?_, below_two _ _ _⟩; rw [plain_3]; (try simp [*]); (try intros); omega)
set_option maxHeartbeats 8000000 in
theorem us_5 : UF 5 := by
  intro op ty n kids t r w ht hr
  clear ht hr
  unfold ndV
  go_enter Tryz.func27, Tryz.ntmps27
  go_wp2
  all_goals go_ret
  all_goals first
    | (refine ⟨says_t ?_, below_two _ _ _⟩; rw [plain_5]; simp [*]; done)
    | (refine ⟨says_f ?_, below_two _ _ _⟩; rw [plain_5]; simp [*]; done)
    | (refine ⟨says_t ?_, below_two _ _ _⟩; rw [plain_5]; (try simp [*]); omega)
    | (refine ⟨says_f ?_, below_two _ _ _⟩; rw [plain_5]; (try simp [*]); (try intros); omega)
set_option maxHeartbeats 8000000 in
theorem us_6 : UF 6 := by
  intro op ty n kids t r w ht hr
  clear ht hr
  unfold ndV
  go_enter Tryz.func27, Tryz.ntmps27
  go_wp2
  all_goals go_ret
  all_goals first
    | (refine ⟨says_t ?_, below_two _ _ _⟩; rw [plain_6]; simp [*]; done)
    | (refine ⟨says_f ?_, below_two _ _ _⟩; rw [plain_6]; simp [*]; done)
    | (refine ⟨says_t ?_, below_two _ _ _⟩; rw [plain_6]; (try simp [*]); omega)
    | (refine ⟨says_f ?_, below_two _ _ _⟩; rw [plain_6]; (try simp [*]); (try intros); omega)
set_option maxHeartbeats 8000000 in
theorem us_8 : UF 8 := by
  intro op ty n kids t r w ht hr
  clear ht hr
  unfold ndV
  go_enter Tryz.func27, Tryz.ntmps27
  go_wp2
  all_goals go_ret
  all_goals first
    | (refine ⟨says_t ?_, below_two _ _ _⟩; rw [plain_8]; simp [*]; done)
    | (refine ⟨says_f ?_, below_two _ _ _⟩; rw [plain_8]; simp [*]; done)
    | (refine ⟨says_t ?_, below_two _ _ _⟩; rw [plain_8]; (try simp [*]); omega)
    | (refine ⟨says_f ?_, below_two _ _ _⟩; rw [plain_8]; (try simp [*]); (try intros); omega)
set_option maxHeartbeats 8000000 in
theorem us_9 : UF 9 := by
  intro op ty n kids t r w ht hr
  clear ht hr
  unfold ndV
  go_enter Tryz.func27, Tryz.ntmps27
  go_wp2_with (first
    | (go_at_call 49; refine (millIsInteger_int ty _).mono ?_; rintro e w' ⟨rfl, hw⟩; have hw2 := hw.symm; clear hw; subst hw2))
  all_goals go_ret
  all_goals first
    | (refine ⟨says_t ?_, below_two _ _ _⟩; rw [plain_9]; simp [*]; done)
    | (refine ⟨says_f ?_, below_two _ _ _⟩; rw [plain_9]; simp [*]; done)
    | (refine ⟨says_t ?_, below_two _ _ _⟩; rw [plain_9]; (try simp [*]); omega)
    | (refine ⟨says_f ?_, below_two _ _ _⟩; rw [plain_9]; (try simp [*]); (try intros); omega)
end Go.Proofs.YtkngjbpbjjoneaaGreatDoor.Q
