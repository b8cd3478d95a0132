import Derived.Test.YtdhcjmlcpnljiaaDoorLEq
namespace Go.Proofs.YtdhcjmlcpnljiaaDoor
open Go.RowKit
theorem markText_int (a : Int) (w : World) (h0 : 0 < a) (h1 : a ≤ 100000) :
    Calls Tryd.prog 20 #[.int .i64 a] w fun e w' => e = .returned (.string (mtxt a.toNat)) ∧ Below w.heap.size w w' := by
  obtain ⟨k, rfl⟩ := Int.eq_ofNat_of_zero_le (show 0 ≤ a by omega)
  rw [Int.toNat_natCast]
  exact markText_any k w (by omega) (by omega)
set_option maxRecDepth 20000 in
set_option maxHeartbeats 1000000 in
theorem held_row (g n cap : Nat) (w : World) (hn : n ≤ 8001) (hg : g < w.heap.size)
    (hc : ∀ i, i < n → w.cell? ⟨g, i * 4, none⟩ = some (.int .i64 (1 + 4 * i : Nat)) ∧ w.cell? ⟨g, i * 4 + 1, none⟩ = some (.string (mtxt (2 + 4 * i))) ∧ w.cell? ⟨g, i * 4 + 2, none⟩ = some (.int .i64 (3 + 4 * i : Nat)) ∧ w.cell? ⟨g, i * 4 + 3, none⟩ = some (.int .i64 (4 + 4 * i : Nat))) :
    Calls Tryd.prog 16 #[.slice (some ⟨g, 0, none⟩) n cap, .int .i64 1] w fun e w' => e = .returned (.int .i64 (1 + 4 * n : Nat)) ∧ Below w.heap.size w w' := by
  have HC := hid hc
  clear hc
  go_enter Tryd.func16, Tryd.ntmps16
  go_wp2
  go_loopw [1, 5] (fun k i wr => ∃ (j : Nat), i = .int .i64 j ∧ k = .int .i64 (1 + 4 * j : Nat) ∧ j ≤ n ∧ Below w.heap.size w wr) (fun _ i _ => n - (intOf i).toNat)
  case atStart => exact ⟨0, rfl, rfl, Nat.zero_le _, Below.refl _ _⟩
  case round =>
    obtain ⟨j, rfl, rfl, hj, hb⟩ := hrel
    have HB := hid hb
    by_cases hlt : j < n
    · obtain ⟨c0, c1, c2, c3⟩ := HC.out j hlt
      rw [← hb.cell (p := ⟨g, _, none⟩) hg] at c0 c1 c2 c3
      have hgr : g < wr.heap.size := Nat.lt_of_lt_of_le hg hb.size
      have HTN : Hid ((1 + 4 * (j : Int) + 1).toNat = 2 + 4 * j) := by show _ = _; omega
      clear hb
      go_wp2
      go_region_with (go_at_call 20; refine (markText_int _ _ (by omega) (by omega)).mono ?_; rintro e w1 ⟨rfl, hb1⟩; rw [HTN.out]; have HB1 := hid hb1; have x1 : w1.cell? ⟨g, j * 4 + 1, none⟩ = some (.string (mtxt (2 + 4 * j))) := (hb1.cell (p := ⟨g, j * 4 + 1, none⟩) hgr).trans c1; have x2 : w1.cell? ⟨g, j * 4 + 2, none⟩ = some (.int .i64 (3 + 4 * j : Nat)) := (hb1.cell (p := ⟨g, j * 4 + 2, none⟩) hgr).trans c2; have x3 : w1.cell? ⟨g, j * 4 + 3, none⟩ = some (.int .i64 (4 + 4 * j : Nat)) := (hb1.cell (p := ⟨g, j * 4 + 3, none⟩) hgr).trans c3; clear hb1)
      all_goals go_wp2
      all_goals
        go_roundw
        case rel => exact ⟨j + 1, by go_num, by go_num, by omega, HB.out.drew.trans (HB1.out.mono HB.out.size)⟩
        case measure => simp [intOf]; omega
    · clear hb
      go_wp2
      go_ret
      exact ⟨ret_int (by omega), HB.out⟩
set_option maxHeartbeats 1000000 in
theorem held_nil (w : World) :
    Calls Tryd.prog 16 #[.slice none 0 0, .int .i64 1] w fun e w' => e = .returned (.int .i64 1) ∧ w' = w := by
  go_enter Tryd.func16, Tryd.ntmps16
  go_wp2
  go_loop [1, 5] (fun k i => k = .int .i64 1 ∧ i = .int .i64 0) (fun _ _ => 0)
  case atStart => exact ⟨rfl, rfl⟩
  case round =>
    obtain ⟨rfl, rfl⟩ := hrel
    go_wp2
    go_ret
    exact ⟨rfl, rfl⟩
set_option maxHeartbeats 1000000 in
theorem mark_nil (w : World) :
    Calls Tryd.prog 15 #[.slice none 0 0, .int .i64 1] w fun e w' => e = .returned (.int .i64 1) ∧ w' = w := by
  go_enter Tryd.func15, Tryd.ntmps15
  go_wp2
  go_loop [1, 5] (fun k i => k = .int .i64 1 ∧ i = .int .i64 0) (fun _ _ => 0)
  case atStart => exact ⟨rfl, rfl⟩
  case round =>
    obtain ⟨rfl, rfl⟩ := hrel
    go_wp2
    go_ret
    exact ⟨rfl, rfl⟩
theorem grown_set {w wr : World} {g : Nat} (h : w.grownBy wr (some g)) (i : Nat) (v : Value) : w.grownBy (wr.setCell ⟨g, i, none⟩ v) (some g) :=
  ⟨h.os, h.tape, h.output, Nat.le_trans h.size (KeepsOthers.setCell wr ⟨g, i, none⟩ v).size, fun k hk hne => (Below.heap_setCell wr ⟨g, i, none⟩ v k (fun e => hne (by rw [e]))).trans (h.block k hk hne)⟩
theorem grown_below {w wr w1 : World} {g : Nat} (h : w.grownBy wr (some g)) (hb : Below wr.heap.size wr w1) : w.grownBy w1 (some g) :=
  ⟨hb.os.trans h.os, hb.tape.trans h.tape, hb.output.trans h.output, Nat.le_trans h.size hb.size, fun k hk hne => (hb.block k (Nat.lt_of_lt_of_le hk h.size)).trans (h.block k hk hne)⟩
/-- Four stores in a row's place j, the others as they were. -/
theorem set_four (cu : Array Value) (j : Nat) (a b c d : Value) (h : j * 4 + 3 < cu.size) :
    let r := (((cu.setIfInBounds (j * 4) a).setIfInBounds (j * 4 + 1) b).setIfInBounds (j * 4 + 2) c).setIfInBounds (j * 4 + 3) d
    r.size = cu.size ∧ r[j * 4]? = some a ∧ r[j * 4 + 1]? = some b ∧ r[j * 4 + 2]? = some c ∧ r[j * 4 + 3]? = some d ∧ ∀ i, i < j * 4 → r[i]? = cu[i]? := by
  intro r
  have h0 : j * 4 < cu.size := by omega
  have h1 : j * 4 + 1 < cu.size := by omega
  have h2 : j * 4 + 2 < cu.size := by omega
  refine ⟨by simp [r], ?_, ?_, ?_, ?_, fun i hi => ?_⟩
  · simp [r, h0]
  · simp [r, h1]
  · simp [r, h2]
  · simp [r, h]
  · have e0 : ¬ j * 4 = i := by omega
    have e1 : ¬ j * 4 + 1 = i := by omega
    have e2 : ¬ j * 4 + 2 = i := by omega
    have e3 : ¬ j * 4 + 3 = i := by omega
    simp [r, e0, e1, e2, e3]
set_option maxRecDepth 20000 in
set_option maxHeartbeats 1000000 in
theorem mark_row (g n cap : Nat) (w : World) (hn : n ≤ 8001) (cur : Array Value) (hg : w.heap[g]? = some (.cells cur 49 (0, 0))) (hsz : n * 4 ≤ cur.size) :
    Calls Tryd.prog 15 #[.slice (some ⟨g, 0, none⟩) n cap, .int .i64 1] w fun e w' => e = .returned (.int .i64 (1 + 4 * n : Nat)) ∧ w.grownBy w' (some g) ∧
      ∃ cur', w'.heap[g]? = some (.cells cur' 49 (0, 0)) ∧ cur'.size = cur.size ∧ ∀ i, i < n → cur'[i * 4]? = some (.int .i64 (1 + 4 * i : Nat)) ∧ cur'[i * 4 + 1]? = some (.string (mtxt (2 + 4 * i))) ∧ cur'[i * 4 + 2]? = some (.int .i64 (3 + 4 * i : Nat)) ∧ cur'[i * 4 + 3]? = some (.int .i64 (4 + 4 * i : Nat)) := by
  go_enter Tryd.func15, Tryd.ntmps15
  go_wp2
  go_loopw [1, 5] (fun k i wr => ∃ (j : Nat) (cu : Array Value), i = .int .i64 j ∧ k = .int .i64 (1 + 4 * j : Nat) ∧ j ≤ n ∧ w.grownBy wr (some g) ∧ wr.heap[g]? = some (.cells cu 49 (0, 0)) ∧ cu.size = cur.size ∧
      ∀ i, i < j → cu[i * 4]? = some (.int .i64 (1 + 4 * i : Nat)) ∧ cu[i * 4 + 1]? = some (.string (mtxt (2 + 4 * i))) ∧ cu[i * 4 + 2]? = some (.int .i64 (3 + 4 * i : Nat)) ∧ cu[i * 4 + 3]? = some (.int .i64 (4 + 4 * i : Nat))) (fun _ i _ => n - (intOf i).toNat)
  case atStart => exact ⟨0, cur, rfl, rfl, Nat.zero_le _, ⟨rfl, rfl, rfl, Nat.le_refl _, fun _ _ _ => rfl⟩, hg, rfl, fun i h => absurd h (Nat.not_lt_zero _)⟩
  case round =>
    obtain ⟨j, cu, rfl, rfl, hj, hgw, hh, hcs, hall⟩ := hrel
    have HG := hid hgw
    have HH := hid hh
    have HALL := hid hall
    have HCS := hid hcs
    clear hgw hall hcs
    by_cases hlt : j < n
    · have f0 : ∀ o, wr.frozen? ⟨g, o, none⟩ = false := fun o => frozen_heap hh o
      have c0 : ∃ v, wr.cell? ⟨g, j * 4, none⟩ = some v := ⟨_, (cell_heap hh (j * 4)).trans (Array.getElem?_eq_getElem (by have := HCS.out; omega))⟩
      obtain ⟨v0, c0⟩ := c0
      have HTN : Hid ((1 + 4 * (j : Int) + 1).toNat = 2 + 4 * j) := by show _ = _; omega
      have hgr : g < wr.heap.size := (Array.getElem?_eq_some_iff.1 hh).1
      clear hh
      go_wp2_with (go_at_call 20; refine (markText_int _ _ (by omega) (by omega)).mono ?_; rintro e w1 ⟨rfl, hb1⟩; rw [HTN.out]; have HB1 := hid hb1; have hw1 := (hb1.block g (by simp; exact hgr)).trans (heap_setCell_same wr g (j * 4) cu 49 _ HH.out); have f1 : ∀ o, w1.frozen? ⟨g, o, none⟩ = false := fun o => frozen_heap hw1 o; obtain ⟨v1, x1⟩ : ∃ v, w1.cell? ⟨g, j * 4 + 1, none⟩ = some v := ⟨_, (cell_heap hw1 (j * 4 + 1)).trans (Array.getElem?_eq_getElem (by rw [Array.size_setIfInBounds, HCS.out]; omega))⟩; obtain ⟨v2, x2⟩ : ∃ v, w1.cell? ⟨g, j * 4 + 2, none⟩ = some v := ⟨_, (cell_heap hw1 (j * 4 + 2)).trans (Array.getElem?_eq_getElem (by rw [Array.size_setIfInBounds, HCS.out]; omega))⟩; obtain ⟨v3, x3⟩ : ∃ v, w1.cell? ⟨g, j * 4 + 3, none⟩ = some v := ⟨_, (cell_heap hw1 (j * 4 + 3)).trans (Array.getElem?_eq_getElem (by rw [Array.size_setIfInBounds, HCS.out]; omega))⟩; have HW1 := hid hw1; clear hb1 hw1)
      have hfin := heap_setCell_same _ g (j * 4 + 3) _ 49 (.int .i64 (1 + 4 * (j : Int) + 1 + 1 + 1)) (heap_setCell_same _ g (j * 4 + 2) _ 49 (.int .i64 (1 + 4 * (j : Int) + 1 + 1)) (heap_setCell_same w1 g (j * 4 + 1) _ 49 (.string (mtxt (2 + 4 * j))) HW1.out))
      have hgrn := grown_set (grown_set (grown_set (grown_below (grown_set HG.out (j * 4) _) HB1.out) (j * 4 + 1) (.string (mtxt (2 + 4 * j)))) (j * 4 + 2) (.int .i64 (1 + 4 * (j : Int) + 1 + 1))) (j * 4 + 3) (.int .i64 (1 + 4 * (j : Int) + 1 + 1 + 1))
      have h4 := fun a => set_four cu j a (.string (mtxt (2 + 4 * j))) (.int .i64 (1 + 4 * (j : Int) + 1 + 1)) (.int .i64 (1 + 4 * (j : Int) + 1 + 1 + 1)) (by rw [HCS.out]; omega)
      have HF := hid hfin
      have HGR := hid hgrn
      have H4 := hid (h4 (.int .i64 (1 + 4 * (j : Int))))
      clear hfin hgrn h4
      go_roundw
      case rel =>
        refine ⟨j + 1, _, by go_num, by go_num, by omega, HGR.out, HF.out, (H4.out.1).trans HCS.out, fun i hi => ?_⟩
        rcases Nat.lt_or_eq_of_le (Nat.lt_succ_iff.1 hi) with h | h
        · have h5 := H4.out.2.2.2.2.2
          have h6 := HALL.out i h
          exact ⟨(h5 _ (by omega)).trans h6.1, (h5 _ (by omega)).trans h6.2.1, (h5 _ (by omega)).trans h6.2.2.1, (h5 _ (by omega)).trans h6.2.2.2⟩
        · subst h
          refine ⟨H4.out.2.1.trans ?_, H4.out.2.2.1, H4.out.2.2.2.1.trans ?_, H4.out.2.2.2.2.1.trans ?_⟩
          · go_num
          · go_num
          · go_num
      case measure => simp [intOf]; omega
    · go_wp2
      go_ret
      exact ⟨ret_int (by omega), HG.out, cu, HH.out, HCS.out, fun i hi => HALL.out i (by omega)⟩
end Go.Proofs.YtdhcjmlcpnljiaaDoor
