import Derived.Test.YtabefhpgeaihgaaDoorVBltI
import Derived.Test.YtabefhpgeaihgaaDoorVBltS
import Derived.Test.YtabefhpgeaihgaaDoorVQuiet
/-! The program's MillBuilt, and the law's comparison. Printed by gen_vbltl.py. -/
namespace Go.Proofs.YtabefhpgeaihgaaDoor.V
open Go.RowKit Go.Shelf
set_option maxRecDepth 20000
set_option maxHeartbeats 4000000 in
theorem implB_any (op : Int) (g N : Nat) (vl : Nat → Vl) (hN : N ≤ 1048576) (p q r : Addr) (w : World) (hg : g < w.heap.size) (hv : ValsAt w g N vl) (hbd : ∀ i, i < N → -9223372036854775808 ≤ (vl i).n ∧ (vl i).n ≤ 9223372036854775807) (hE : EnvT w p q r) :
    Calls Tryd.prog 7 #[.int .i64 op, .slice (some ⟨g, 0, none⟩) N N] w fun e w' => SEnd op N vl w e w' := by
  have HO : Hid (∀ W, Below w.heap.size w W → Calls Tryd.prog 20 #[.int .i64 op, .slice (some ⟨g, 0, none⟩) N N] W fun e w' => IEnd op N vl p q r W e w') := fun W hW => ofB_any op g N vl hN p q r W (Nat.lt_of_lt_of_le hg hW.size) (hv.below hW hg) hbd (hE.next hW)
  have HE := hid hE
  have HS0 : Hid (Bs w g N vl (w.alloc (vbox 0 0 wNone))) := ⟨alloc_below _ _, hv.below (alloc_below w _) hg, heap_new w _⟩
  clear hv hbd hE
  go_enter Tryd.func7, Tryd.ntmps7
  go_wp2_with fail
  refine (HO.out _ (alloc_below _ _)).mono ?_
  rintro e w1 ⟨hb1, he⟩
  have HS1 := hid (HS0.out.next hg hb1)
  have HE1 := hid (HE.out.next HS1.out.lo)
  clear hb1 HS0 HO
  rcases he with ⟨y, z, st, rfl, hx⟩ | ⟨rfl, hx⟩ | ⟨rfl, hx⟩ | ⟨rfl, hx⟩
  · have HX := hid hx
    clear hx
    go_wp2_with fail
    refine (answer_nil y z st _).mono ?_
    rintro e w2 ⟨rfl, hb2⟩
    have HS2 := hid (HS1.out.next hg hb2)
    clear hb2
    obtain ⟨r0, r1, r2, f0, f1, f2⟩ := six HS2.out.rb
    go_wp2
    exact bodyPost_ret (v := ans y z st wNone) (by simp [results, Tryd.results7, go_sem, r0, r1, r2]) rfl ⟨_, _, _, _, rfl, HX.out, setr (Nat.le_refl _) HS2.out.lo _ _ _⟩
  · have HX := hid hx
    clear hx
    go_wp2_with fail
    refine (answer_err 0 0 wNone p wType _ HE1.out.ty.cell HE1.out.ty.la).mono ?_
    rintro e w2 ⟨rfl, hb2⟩
    have HS2 := hid (HS1.out.next hg hb2)
    clear hb2
    obtain ⟨r0, r1, r2, f0, f1, f2⟩ := six HS2.out.rb
    go_wp2
    exact bodyPost_ret (v := ans 0 0 wNone wType) (by simp [results, Tryd.results7, go_sem, r0, r1, r2]) rfl ⟨_, _, _, _, rfl, HX.out, setr (Nat.le_refl _) HS2.out.lo _ _ _⟩
  · have HX := hid hx
    clear hx
    go_wp2_with fail
    refine (answer_err 0 0 wNone q wRange _ HE1.out.rg.cell HE1.out.rg.la).mono ?_
    rintro e w2 ⟨rfl, hb2⟩
    have HS2 := hid (HS1.out.next hg hb2)
    clear hb2
    obtain ⟨r0, r1, r2, f0, f1, f2⟩ := six HS2.out.rb
    go_wp2
    exact bodyPost_ret (v := ans 0 0 wNone wRange) (by simp [results, Tryd.results7, go_sem, r0, r1, r2]) rfl ⟨_, _, _, _, rfl, HX.out, setr (Nat.le_refl _) HS2.out.lo _ _ _⟩
  · have HX := hid hx
    clear hx
    go_wp2_with fail
    refine (answer_err 0 0 wNone r wNumber _ HE1.out.nu.cell HE1.out.nu.la).mono ?_
    rintro e w2 ⟨rfl, hb2⟩
    have HS2 := hid (HS1.out.next hg hb2)
    clear hb2
    obtain ⟨r0, r1, r2, f0, f1, f2⟩ := six HS2.out.rb
    go_wp2
    exact bodyPost_ret (v := ans 0 0 wNone wNumber) (by simp [results, Tryd.results7, go_sem, r0, r1, r2]) rfl ⟨_, _, _, _, rfl, HX.out, setr (Nat.le_refl _) HS2.out.lo _ _ _⟩
set_option maxHeartbeats 1000000 in
theorem eqValS_same (g1 g2 N : Nat) (vl : Nat → Vl) (w : World) (hN : N ≤ 1048576) (hl1 : g1 < w.heap.size) (hl2 : g2 < w.heap.size) (h1 : ValsAt w g1 N vl) (h2 : ValsAt w g2 N vl) :
    Calls Tryd.prog 9 #[.slice (some ⟨g1, 0, none⟩) N N, .slice (some ⟨g2, 0, none⟩) N N] w fun e w' => e = .returned (.bool true) ∧ Below w.heap.size w w' := by
  have H1 := hid h1
  have H2 := hid h2
  clear h1 h2
  have hne : ((N : Int) != (N : Int)) = false := by simp
  go_enter Tryd.func9, Tryd.ntmps9
  go_wp2
  go_loopw [5] (fun i wr => ∃ j : Nat, j ≤ N ∧ i = .int .i64 j ∧ Below w.heap.size w wr) (fun i _ => N - (intOf i).toNat)
  case atStart => exact ⟨0, Nat.zero_le _, rfl, Below.refl _ _⟩
  case round =>
    obtain ⟨j, hj, rfl, hbw⟩ := hrel
    have HBW := hid hbw
    clear hbw
    by_cases hlt : j < N
    · have F1 : ∀ p : Gr wr, ValAt p.W g1 j (vl j) := fun p => (H1.out.below (HBW.out.trans (p.h.mono HBW.out.size)) hl1) j hlt
      have F2 : ∀ p : Gr wr, ValAt p.W g2 j (vl j) := fun p => (H2.out.below (HBW.out.trans (p.h.mono HBW.out.size)) hl2) j hlt
      have a0 := fun p : Gr wr => (F1 p).1
      have a1 := fun p : Gr wr => (F1 p).2.1
      have a2 := fun p : Gr wr => (F1 p).2.2
      have b0 := fun p : Gr wr => (F2 p).1
      have b1 := fun p : Gr wr => (F2 p).2.1
      have b2 := fun p : Gr wr => (F2 p).2.2
      clear F1 F2
      go_wp2_with fail
      have hne2 : Nonempty (Gr wr) := ⟨⟨wr, Below.refl _ _⟩⟩
      refine wp_region_gr (by kernel_rfl) (by kernel_rfl) ?_
      repeat (go_big_quiet_step (first | (go_at_call 8; refine Calls.gr_of (v := .bool true) fun _ => ?_; exact eqVal_any (vl j).t (vl j).n (vl j).s _)))
      refine wpQuiet_nil ?_
      intro _ hw'
      obtain ⟨pw, rfl⟩ := hw'
      have HB4 := hid (HBW.out.trans (pw.h.mono HBW.out.size))
      clear a0 a1 a2 b0 b1 b2
      go_wp2
      go_roundw
      case rel => exact ⟨j + 1, by omega, by go_num, HB4.out⟩
      case measure => simp [intOf]; omega
    · obtain rfl : j = N := by omega
      go_wp2
      go_ret
      exact ⟨rfl, HBW.out⟩
set_option maxHeartbeats 1000000 in
theorem szValS_nil (ad : Option Addr) (cap : Nat) (w : World) :
    Calls Tryd.prog 4 #[.slice ad (0 : Nat) cap, .int .i64 1048576] w fun e w' => (∃ r, e = .returned (.int .i64 r) ∧ (0 ≤ r → (0 : Nat) ≤ 1048576)) ∧ Below w.heap.size w w' := by
  go_enter Tryd.func4, Tryd.ntmps4
  go_wp2
  go_loopw [1, 5] (fun l i wr => i = .int .i64 0 ∧ (∃ r : Int, l = .int .i64 r) ∧ Below w.heap.size w wr) (fun _ _ _ => 0)
  case atStart => exact ⟨rfl, ⟨_, rfl⟩, Below.refl _ _⟩
  case round =>
    obtain ⟨rfl, ⟨r, rfl⟩, hbw⟩ := hrel
    go_wp2
    go_ret
    exact ⟨⟨r, rfl, fun _ => by omega⟩, hbw⟩
set_option maxHeartbeats 1000000 in
theorem toValS_nil (ad : Option Addr) (cap : Nat) (vl : Nat → Vl) (w : World) :
    Calls Tryd.prog 6 #[.slice ad (0 : Nat) cap] w fun e w' => e = .returned (.slice (some ⟨w.heap.size, 0, none⟩) (0 : Nat) (0 : Nat)) ∧ ValsAt w' w.heap.size 0 vl ∧ w.heap.size < w'.heap.size ∧ Below w.heap.size w w' := by
  obtain ⟨i0, hi, hz0, hz1, hz2⟩ := info_parts info_vl
  have HHI := hid (And.intro hi (And.intro hz0 (And.intro hz1 hz2)))
  clear hi hz0 hz1
  go_enter Tryd.func6, Tryd.ntmps6
  go_wp2_with (at_make; refine wpList_make_full _ rfl _ _ 28 rfl w.heap.size 25 i0 (.agg #[.int .i64 0, .int .i64 0, .string ⟨#[]⟩]) 3 Tryd.underlying28 HHI.out.1 HHI.out.2.1 HHI.out.2.2.1 _ _ _ _ 0 rfl rfl rfl rfl (by rw [hz2]; omega) (by unfold maxLen; omega) (Nat.le_refl _) ?_; intro w1 o1 g1)
  have HL0 : Hid (w.heap.size < w1.heap.size) := by
    obtain ⟨h1, ⟨h2, _⟩ | ⟨g, c, cur, e, _, h4, _, _, h7, _⟩⟩ := o1
    · cases h2
    · cases e
      exact (Array.getElem?_eq_some_iff.1 h4).1
  have HB0 := hid ((Below.refl w.heap.size w).grown g1 (Nat.le_refl _) (fun q e => by cases e))
  clear o1 g1
  go_loopw [4] (fun i wr => i = .int .i64 0 ∧ w.heap.size < wr.heap.size ∧ Below w.heap.size w wr) (fun _ _ => 0)
  case atStart => exact ⟨rfl, HL0.out, HB0.out⟩
  case round =>
    obtain ⟨rfl, hl, hbw⟩ := hrel
    have HLL := hid hl
    have HBW := hid hbw
    clear hl hbw
    go_wp2
    go_ret
    exact ⟨rfl, fun i h => absurd h (Nat.not_lt_zero _), HLL.out, HBW.out⟩
end Go.Proofs.YtabefhpgeaihgaaDoor.V
