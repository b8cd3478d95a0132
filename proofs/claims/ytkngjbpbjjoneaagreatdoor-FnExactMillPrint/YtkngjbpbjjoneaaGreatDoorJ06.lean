import Derived.Test.YtkngjbpbjjoneaaGreatDoorJ05
namespace Go.Proofs.YtkngjbpbjjoneaaGreatDoor.Q
open Go.RowKit Go.Shelf
set_option maxRecDepth 20000
/-- The two cells of a node that stands open. -/
def TwoAt (W : World) (g o : Nat) (k : Int) (h : Nat) : Prop := W.cell? ⟨g, o, none⟩ = some (.int .i64 k) ∧ W.cell? ⟨g, o + 1, none⟩ = some (.int .i64 h)
theorem TwoAt.below {W W' : World} {B g o h : Nat} {k : Int} (hs : TwoAt W g o k h) (hb : Below B W W') (hB : g < B) : TwoAt W' g o k h := by
  obtain ⟨h0, h1⟩ := hs
  exact ⟨(hb.cell (p := ⟨g, _, none⟩) hB).trans h0, (hb.cell (p := ⟨g, _, none⟩) hB).trans h1⟩
/-- m standing nodes from place o of block g on. -/
def StandAt (W : World) (g o m : Nat) (st : Nat → Int) (hi : Nat → Nat) : Prop := ∀ i, i < m → TwoAt W g (o + i * 2) (st i) (hi i)
theorem StandAt.below {W W' : World} {B g o m : Nat} {st : Nat → Int} {hi : Nat → Nat} (h : StandAt W g o m st hi) (hb : Below B W W') (hB : g < B) : StandAt W' g o m st hi := fun i hm => (h i hm).below hb hB
set_option maxHeartbeats 1000000 in
theorem highAbove_any (g o m c : Nat) (st : Nat → Int) (hi : Nat → Nat) (w : World) (hm : m ≤ 12001) (hh : ∀ i, i < m → hi i ≤ 12001) (hg : g < w.heap.size) (hs : StandAt w g o m st hi) :
    Calls Tryz.prog 29 #[.slice (some ⟨g, o, none⟩) m c] w fun e w' => e = .returned (.int .i64 (upK ((List.range m).map hi))) ∧ Below w.heap.size w w' := by
  have HS := hid hs
  clear hs
  go_enter Tryz.func29, Tryz.ntmps29
  go_wp2
  go_loopw [3, 8] (fun h i wr => ∃ j : Nat, j ≤ m ∧ i = .int .i64 j ∧ h = .int .i64 (upK ((List.range j).map hi)) ∧ upK ((List.range j).map hi) ≤ 12002 ∧ Below w.heap.size w wr) (fun _ i _ => m - (intOf i).toNat)
  case atStart => exact ⟨0, Nat.zero_le _, rfl, rfl, by simp [upK], Below.refl _ _⟩
  case round =>
    obtain ⟨j, hj, rfl, rfl, hu, hbw⟩ := hrel
    have HBW := hid hbw
    clear hbw
    by_cases hlt : j < m
    · obtain ⟨a0, a1⟩ := (HS.out.below HBW.out hg) j hlt
      have HU : Hid (upK ((List.range (j + 1)).map hi) = max (upK ((List.range j).map hi)) (hi j + 1)) := by
        show _ = _
        rw [List.range_succ, List.map_append, ← upK_snoc]; rfl
      have hhj := hh j hlt
      generalize upK ((List.range j).map hi) = u at *
      go_wp2
      go_roundw
      case rel => exact ⟨j + 1, by omega, by go_num, by rw [HU.out]; congr 1; split <;> omega, by rw [HU.out]; omega, HBW.out.alloc HBW.out.size _⟩
      case measure => simp [intOf]; omega
    · obtain rfl : j = m := by omega
      go_wp2
      go_ret
      exact ⟨rfl, HBW.out⟩
set_option maxHeartbeats 400000 in
theorem highAbove_none (ad : Option Addr) (c : Nat) (w : World) :
    Calls Tryz.prog 29 #[.slice ad 0 c] w fun e w' => e = .returned (.int .i64 0) ∧ w' = w := by
  go_enter Tryz.func29, Tryz.ntmps29
  go_wp2
  go_loopw [3, 8] (fun h i wr => i = .int .i64 0 ∧ h = .int .i64 0 ∧ wr = w) (fun _ _ _ => 0)
  case atStart => exact ⟨rfl, rfl, rfl⟩
  case round =>
    obtain ⟨rfl, rfl, rfl⟩ := hrel
    go_wp2
    go_ret
    exact ⟨rfl, rfl⟩
/-- A slice of m standing nodes, by its address: nothing is asked where it is empty. -/
def StA (W : World) (ad : Option Addr) (m : Nat) (st : Nat → Int) (hi : Nat → Nat) : Prop := m = 0 ∨ ∃ g o, ad = some ⟨g, o, none⟩ ∧ g < W.heap.size ∧ StandAt W g o m st hi
theorem StA.below {W W' : World} {ad : Option Addr} {m : Nat} {st : Nat → Int} {hi : Nat → Nat} (h : StA W ad m st hi) (hb : Below W.heap.size W W') : StA W' ad m st hi := by
  rcases h with h | ⟨g, o, rfl, h1, h2⟩
  · exact .inl h
  · exact .inr ⟨g, o, rfl, Nat.lt_of_lt_of_le h1 hb.size, h2.below hb h1⟩
theorem highAbove_all (ad : Option Addr) (m c : Nat) (st : Nat → Int) (hi : Nat → Nat) (w : World) (hm : m ≤ 12001) (hh : ∀ i, i < m → hi i ≤ 12001) (hs : StA w ad m st hi) :
    Calls Tryz.prog 29 #[.slice ad m c] w fun e w' => e = .returned (.int .i64 (upK ((List.range m).map hi))) ∧ Below w.heap.size w w' := by
  rcases hs with rfl | ⟨g, o, rfl, h1, h2⟩
  · refine (highAbove_none ad c w).mono ?_
    rintro e w' ⟨rfl, rfl⟩
    exact ⟨rfl, Below.refl _ _⟩
  · exact highAbove_any g o m c st hi w hm hh h1 h2
theorem StandAt.front {W : World} {g o m f : Nat} {st : Nat → Int} {sh : Nat → Nat} (h : StandAt W g o m st sh) (hf : f ≤ m) : StandAt W g o f st sh := fun i hi => h i (by omega)
theorem StandAt.back {W : World} {g o m f : Nat} {st : Nat → Int} {sh : Nat → Nat} (h : StandAt W g o m st sh) : StandAt W g (o + f * 2) (m - f) (fun i => st (f + i)) (fun i => sh (f + i)) := fun i hi => by
  have := h (f + i) (by omega)
  rw [show o + (f + i) * 2 = o + f * 2 + i * 2 by omega] at this
  exact this
theorem StA.front {W : World} {ad : Option Addr} {m f : Nat} {st : Nat → Int} {sh : Nat → Nat} (h : StA W ad m st sh) (hf : f ≤ m) : StA W ad f st sh := by
  rcases h with h | ⟨g, o, h1, h2, h3⟩
  · exact .inl (by omega)
  · exact .inr ⟨g, o, h1, h2, h3.front hf⟩
end Go.Proofs.YtkngjbpbjjoneaaGreatDoor.Q
