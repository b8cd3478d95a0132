import Derived.Test.YtfbfmhmpoaplaaaDoorUTo
import Derived.Test.YtfbfmhmpoaplaaaDoorQuiet
namespace Go.Proofs.YtfbfmhmpoaplaaaDoor
open Go.RowKit
set_option maxRecDepth 20000
set_option maxHeartbeats 1000000 in
theorem eqAtom_same (x : At) (w : World) :
    Calls Tryd.prog 38 #[atV x, atV x] w fun e w' => e = .returned (.bool true) ∧ Below w.heap.size w w' := by
  obtain ⟨k, n, t, kids⟩ := x
  unfold atV
  have h1 : (k != k) = false := by simp
  have h3 : (n != n) = false := by simp
  have h4 : (kids != kids) = false := by simp
  have h5 : (t.toList != t.toList) = false := by simp
  go_enter Tryd.func38, Tryd.ntmps38
  go_wp2
  go_ret
  exact ⟨rfl, below_two' _ _ _⟩
/-- Atoms that lie at an address, if there are any. -/
def AtomsB (W : World) (ad : Option Addr) (l : List At) : Prop := l = [] ∨ ∃ g o, ad = some ⟨g, o, none⟩ ∧ g < W.heap.size ∧ AtomsAt W g o l
theorem AtomsB.below {W W' : World} {ad : Option Addr} {l : List At} (h : AtomsB W ad l) (hb : Below W.heap.size W W') : AtomsB W' ad l := by
  rcases h with h | ⟨g, o, rfl, h1, h2⟩
  · exact .inl h
  · exact .inr ⟨g, o, rfl, Nat.lt_of_lt_of_le h1 hb.size, h2.below hb h1⟩
set_option maxHeartbeats 1000000 in
theorem eqAtomS_same (g1 o1 g2 o2 N c1 c2 : Nat) (l : List At) (w : World) (hl : l.length = N) (hN : N ≤ 1048576) (hl1 : g1 < w.heap.size) (hl2 : g2 < w.heap.size) (h1 : AtomsAt w g1 o1 l) (h2 : AtomsAt w g2 o2 l) :
    Calls Tryd.prog 21 #[.slice (some ⟨g1, o1, none⟩) N c1, .slice (some ⟨g2, o2, none⟩) N c2] w fun e w' => e = .returned (.bool true) ∧ Below w.heap.size w w' := by
  have H1 := hid h1
  have H2 := hid h2
  have HL := hid hl
  clear h1 h2 hl
  have hne : ((N : Int) != (N : Int)) = false := by simp
  go_enter Tryd.func21, Tryd.ntmps21
  go_wp2
  go_loopw [5] (fun i wr => ∃ j : Nat, j ≤ N ∧ i = .int .i64 j ∧ Below w.heap.size w wr) (fun i _ => N - (intOf i).toNat)
  case atStart => exact ⟨0, Nat.zero_le _, rfl, Below.refl _ _⟩
  case round =>
    obtain ⟨j, hj, rfl, hbw⟩ := hrel
    have HBW := hid hbw
    clear hbw
    by_cases hlt : j < N
    · have hjl : j < l.length := by rw [HL.out]; exact hlt
      obtain ⟨x, hx⟩ : ∃ x, l[j]? = some x := ⟨_, List.getElem?_eq_getElem hjl⟩
      have F1 : ∀ p : Gr wr, FourAt p.W g1 (o1 + j * 4) x := fun p => (H1.out.below (HBW.out.trans (p.h.mono HBW.out.size)) hl1) j x hx
      have F2 : ∀ p : Gr wr, FourAt p.W g2 (o2 + j * 4) x := fun p => (H2.out.below (HBW.out.trans (p.h.mono HBW.out.size)) hl2) j x hx
      have a0 := fun p : Gr wr => (F1 p).1
      have a1 := fun p : Gr wr => (F1 p).2.1
      have a2 := fun p : Gr wr => (F1 p).2.2.1
      have a3 := fun p : Gr wr => (F1 p).2.2.2
      have b0 := fun p : Gr wr => (F2 p).1
      have b1 := fun p : Gr wr => (F2 p).2.1
      have b2 := fun p : Gr wr => (F2 p).2.2.1
      have b3 := fun p : Gr wr => (F2 p).2.2.2
      clear F1 F2 hx
      go_wp2_with fail
      have hne2 : Nonempty (Gr wr) := ⟨⟨wr, Below.refl _ _⟩⟩
      refine wp_region_gr (by kernel_rfl) (by kernel_rfl) ?_
      repeat (quiet_step (first | (go_at_call 38; refine Calls.gr_of (v := .bool true) fun _ => ?_; exact eqAtom_same x _)))
      refine wpQuiet_nil ?_
      intro _ hw'
      obtain ⟨pw, rfl⟩ := hw'
      have HB4 := hid (HBW.out.trans (pw.h.mono HBW.out.size))
      clear a0 a1 a2 a3 b0 b1 b2 b3
      go_wp2
      go_roundw
      case rel => exact ⟨j + 1, by omega, by go_num, HB4.out⟩
      case measure => simp [intOf]; omega
    · obtain rfl : j = N := by omega
      go_wp2
      go_ret
      exact ⟨rfl, HBW.out⟩
set_option maxHeartbeats 1000000 in
theorem eqAtomS_none (a1 a2 : Option Addr) (c1 c2 : Nat) (w : World) :
    Calls Tryd.prog 21 #[.slice a1 0 c1, .slice a2 0 c2] w fun e w' => e = .returned (.bool true) ∧ Below w.heap.size w w' := by
  go_enter Tryd.func21, Tryd.ntmps21
  go_wp2
  go_loopw [5] (fun i wr => i = .int .i64 0 ∧ wr = w) (fun _ _ => 0)
  case atStart => exact ⟨rfl, rfl⟩
  case round =>
    obtain ⟨rfl, rfl⟩ := hrel
    go_wp2
    go_ret
    exact ⟨rfl, Below.refl _ _⟩
theorem eqAtomS_all (a1 a2 : Option Addr) (N c1 c2 : Nat) (l : List At) (w : World) (hl : l.length = N) (hN : N ≤ 1048576) (h1 : AtomsB w a1 l) (h2 : AtomsB w a2 l) :
    Calls Tryd.prog 21 #[.slice a1 N c1, .slice a2 N c2] w fun e w' => e = .returned (.bool true) ∧ Below w.heap.size w w' := by
  rcases h1 with rfl | ⟨g1, o1, rfl, h1a, h1b⟩
  · cases hl; exact eqAtomS_none a1 a2 c1 c2 w
  · rcases h2 with rfl | ⟨g2, o2, rfl, h2a, h2b⟩
    · cases hl; exact eqAtomS_none _ a2 c1 c2 w
    · exact eqAtomS_same g1 o1 g2 o2 N c1 c2 l w hl hN h1a h2a h1b h2b
set_option maxHeartbeats 1000000 in
theorem eqValue_same (a1 a2 : Option Addr) (N c1 c2 : Nat) (l : List At) (w : World) (hl : l.length = N) (hN : N ≤ 1048576) (h1 : AtomsB w a1 l) (h2 : AtomsB w a2 l) :
    Calls Tryd.prog 10 #[.agg #[.slice a1 N c1], .agg #[.slice a2 N c2]] w fun e w' => e = .returned (.bool true) ∧ Below w.heap.size w w' := by
  have HB := hid (below_two' w (.cells #[.slice a1 N c1] 29) (.cells #[.slice a2 N c2] 29))
  have H1 := hid (h1.below HB.out)
  have H2 := hid (h2.below HB.out)
  have HL := hid hl
  clear h1 h2 hl
  go_enter Tryd.func10, Tryd.ntmps10
  go_wp2_with (go_at_call 21; refine (eqAtomS_all a1 a2 N c1 c2 l _ HL.out hN H1.out H2.out).mono ?_; rintro e w1 ⟨rfl, hb1⟩; have HB1 := hid (HB.out.trans (hb1.mono (by simp; omega))); clear hb1)
  go_ret
  exact ⟨rfl, HB1.out⟩
end Go.Proofs.YtfbfmhmpoaplaaaDoor
