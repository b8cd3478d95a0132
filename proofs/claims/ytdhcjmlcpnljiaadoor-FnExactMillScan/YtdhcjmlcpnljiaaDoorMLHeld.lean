import Derived.Test.YtdhcjmlcpnljiaaDoorMIScan
import Derived.Test.YtdhcjmlcpnljiaaDoorLHeld
/-! Printed by gen_law.py. -/
namespace Go.Proofs.YtdhcjmlcpnljiaaDoor
open Go.RowKit
set_option maxHeartbeats 1000000 in
theorem eqMTok_any (k y n p : Int) (t : ByteArray) (w : World) :
    Calls Tryd.prog 19 #[.agg #[.int .i64 k, .string t, .int .i64 y, .int .i64 n, .int .i64 p], .agg #[.int .i64 k, .string t, .int .i64 y, .int .i64 n, .int .i64 p]] w fun e w' => e = .returned (.bool true) ∧ Below w.heap.size w w' := by
  go_enter Tryd.func19, Tryd.ntmps19
  go_wp2
  go_ret
  exact ⟨rfl, ((Below.refl w.heap.size w).alloc (Nat.le_refl _) _).alloc (by simp) _⟩
set_option maxHeartbeats 1000000 in
theorem eqMFlt_any (c p : Int) (w : World) :
    Calls Tryd.prog 8 #[.agg #[.int .i64 c, .int .i64 p], .agg #[.int .i64 c, .int .i64 p]] w fun e w' => e = .returned (.bool true) ∧ Below w.heap.size w w' := by
  go_enter Tryd.func8, Tryd.ntmps8
  go_wp2
  go_ret
  exact ⟨rfl, ((Below.refl w.heap.size w).alloc (Nat.le_refl _) _).alloc (by simp) _⟩
set_option maxRecDepth 20000 in
set_option maxHeartbeats 1000000 in
theorem mheld_row (g n cap : Nat) (w : World) (hn : n ≤ 12001) (hg : g < w.heap.size)
    (hc : ∀ i, i < n → w.cell? ⟨g, i * 5, none⟩ = some (.int .i64 (1 + 5 * i : Nat)) ∧ w.cell? ⟨g, i * 5 + 1, none⟩ = some (.string (mtxt (2 + 5 * i))) ∧ w.cell? ⟨g, i * 5 + 2, none⟩ = some (.int .i64 (3 + 5 * i : Nat)) ∧ w.cell? ⟨g, i * 5 + 3, none⟩ = some (.int .i64 (4 + 5 * i : Nat)) ∧ w.cell? ⟨g, i * 5 + 4, none⟩ = some (.int .i64 (5 + 5 * i : Nat))) :
    Calls Tryd.prog 10 #[.slice (some ⟨g, 0, none⟩) n cap, .int .i64 1] w fun e w' => e = .returned (.int .i64 (1 + 5 * n : Nat)) ∧ Below w.heap.size w w' := by
  have HC := hid hc
  clear hc
  go_enter Tryd.func10, Tryd.ntmps10
  go_wp2
  go_loopw [1, 5] (fun k i wr => ∃ (j : Nat), i = .int .i64 j ∧ k = .int .i64 (1 + 5 * j : Nat) ∧ j ≤ n ∧ Below w.heap.size w wr) (fun _ i _ => n - (intOf i).toNat)
  case atStart => exact ⟨0, rfl, rfl, Nat.zero_le _, Below.refl _ _⟩
  case round =>
    obtain ⟨j, rfl, rfl, hj, hb⟩ := hrel
    have HB := hid hb
    by_cases hlt : j < n
    · obtain ⟨c0, c1, c2, c3, c4⟩ := HC.out j hlt
      rw [← hb.cell (p := ⟨g, _, none⟩) hg] at c0 c1 c2 c3 c4
      have hgr : g < wr.heap.size := Nat.lt_of_lt_of_le hg hb.size
      have HTN : Hid ((1 + 5 * (j : Int) + 1).toNat = 2 + 5 * j) := by show _ = _; omega
      clear hb
      go_wp2
      go_region_with (go_at_call 20; refine (markText_int _ _ (by omega) (by omega)).mono ?_; rintro e w1 ⟨rfl, hb1⟩; rw [HTN.out]; have HB1 := hid hb1; have x1 : w1.cell? ⟨g, j * 5 + 1, none⟩ = some (.string (mtxt (2 + 5 * j))) := (hb1.cell (p := ⟨g, j * 5 + 1, none⟩) hgr).trans c1; have x2 : w1.cell? ⟨g, j * 5 + 2, none⟩ = some (.int .i64 (3 + 5 * j : Nat)) := (hb1.cell (p := ⟨g, j * 5 + 2, none⟩) hgr).trans c2; have x3 : w1.cell? ⟨g, j * 5 + 3, none⟩ = some (.int .i64 (4 + 5 * j : Nat)) := (hb1.cell (p := ⟨g, j * 5 + 3, none⟩) hgr).trans c3; have x4 : w1.cell? ⟨g, j * 5 + 4, none⟩ = some (.int .i64 (5 + 5 * j : Nat)) := (hb1.cell (p := ⟨g, j * 5 + 4, none⟩) hgr).trans c4; clear hb1)
      all_goals go_wp2
      all_goals
        go_roundw
        case rel => exact ⟨j + 1, by go_num, by go_num, by omega, HB.out.drew.trans (HB1.out.mono HB.out.size)⟩
        case measure => simp [intOf]; omega
    · clear hb
      go_wp2
      go_ret
      exact ⟨ret_int (by omega), HB.out⟩
set_option maxHeartbeats 1000000 in
theorem mheld_nil (w : World) :
    Calls Tryd.prog 10 #[.slice none 0 0, .int .i64 1] w fun e w' => e = .returned (.int .i64 1) ∧ w' = w := by
  go_enter Tryd.func10, Tryd.ntmps10
  go_wp2
  go_loop [1, 5] (fun k i => k = .int .i64 1 ∧ i = .int .i64 0) (fun _ _ => 0)
  case atStart => exact ⟨rfl, rfl⟩
  case round =>
    obtain ⟨rfl, rfl⟩ := hrel
    go_wp2
    go_ret
    exact ⟨rfl, rfl⟩
set_option maxHeartbeats 1000000 in
theorem mmark_nil (w : World) :
    Calls Tryd.prog 9 #[.slice none 0 0, .int .i64 1] w fun e w' => e = .returned (.int .i64 1) ∧ w' = w := by
  go_enter Tryd.func9, Tryd.ntmps9
  go_wp2
  go_loop [1, 5] (fun k i => k = .int .i64 1 ∧ i = .int .i64 0) (fun _ _ => 0)
  case atStart => exact ⟨rfl, rfl⟩
  case round =>
    obtain ⟨rfl, rfl⟩ := hrel
    go_wp2
    go_ret
    exact ⟨rfl, rfl⟩
/-- Five stores in a row's place j, the others as they were. -/
theorem set_five (cu : Array Value) (j : Nat) (a b c d e : Value) (h : j * 5 + 4 < cu.size) :
    let r := ((((cu.setIfInBounds (j * 5) a).setIfInBounds (j * 5 + 1) b).setIfInBounds (j * 5 + 2) c).setIfInBounds (j * 5 + 3) d).setIfInBounds (j * 5 + 4) e
    r.size = cu.size ∧ r[j * 5]? = some a ∧ r[j * 5 + 1]? = some b ∧ r[j * 5 + 2]? = some c ∧ r[j * 5 + 3]? = some d ∧ r[j * 5 + 4]? = some e ∧ ∀ i, i < j * 5 → r[i]? = cu[i]? := by
  intro r
  have h0 : j * 5 < cu.size := by omega
  have h1 : j * 5 + 1 < cu.size := by omega
  have h2 : j * 5 + 2 < cu.size := by omega
  have h3 : j * 5 + 3 < cu.size := by omega
  refine ⟨by simp [r], ?_, ?_, ?_, ?_, ?_, fun i hi => ?_⟩
  · simp [r, h0]
  · simp [r, h1]
  · simp [r, h2]
  · simp [r, h3]
  · simp [r, h]
  · have e0 : ¬ j * 5 = i := by omega
    have e1 : ¬ j * 5 + 1 = i := by omega
    have e2 : ¬ j * 5 + 2 = i := by omega
    have e3 : ¬ j * 5 + 3 = i := by omega
    have e4 : ¬ j * 5 + 4 = i := by omega
    simp [r, e0, e1, e2, e3, e4]
set_option maxRecDepth 20000 in
set_option maxHeartbeats 2000000 in
theorem mmark_row (g n cap : Nat) (w : World) (hn : n ≤ 12001) (cur : Array Value) (hg : w.heap[g]? = some (.cells cur 39 (0, 0))) (hsz : n * 5 ≤ cur.size) :
    Calls Tryd.prog 9 #[.slice (some ⟨g, 0, none⟩) n cap, .int .i64 1] w fun e w' => e = .returned (.int .i64 (1 + 5 * n : Nat)) ∧ w.grownBy w' (some g) ∧
      ∃ cur', w'.heap[g]? = some (.cells cur' 39 (0, 0)) ∧ cur'.size = cur.size ∧ ∀ i, i < n → cur'[i * 5]? = some (.int .i64 (1 + 5 * i : Nat)) ∧ cur'[i * 5 + 1]? = some (.string (mtxt (2 + 5 * i))) ∧ cur'[i * 5 + 2]? = some (.int .i64 (3 + 5 * i : Nat)) ∧ cur'[i * 5 + 3]? = some (.int .i64 (4 + 5 * i : Nat)) ∧ cur'[i * 5 + 4]? = some (.int .i64 (5 + 5 * i : Nat)) := by
  go_enter Tryd.func9, Tryd.ntmps9
  go_wp2
  go_loopw [1, 5] (fun k i wr => ∃ (j : Nat) (cu : Array Value), i = .int .i64 j ∧ k = .int .i64 (1 + 5 * j : Nat) ∧ j ≤ n ∧ w.grownBy wr (some g) ∧ wr.heap[g]? = some (.cells cu 39 (0, 0)) ∧ cu.size = cur.size ∧
      ∀ i, i < j → cu[i * 5]? = some (.int .i64 (1 + 5 * i : Nat)) ∧ cu[i * 5 + 1]? = some (.string (mtxt (2 + 5 * i))) ∧ cu[i * 5 + 2]? = some (.int .i64 (3 + 5 * i : Nat)) ∧ cu[i * 5 + 3]? = some (.int .i64 (4 + 5 * i : Nat)) ∧ cu[i * 5 + 4]? = some (.int .i64 (5 + 5 * i : Nat))) (fun _ i _ => n - (intOf i).toNat)
  case atStart => exact ⟨0, cur, rfl, rfl, Nat.zero_le _, ⟨rfl, rfl, rfl, Nat.le_refl _, fun _ _ _ => rfl⟩, hg, rfl, fun i h => absurd h (Nat.not_lt_zero _)⟩
  case round =>
    obtain ⟨j, cu, rfl, rfl, hj, hgw, hh, hcs, hall⟩ := hrel
    have HG := hid hgw
    have HH := hid hh
    have HALL := hid hall
    have HCS := hid hcs
    clear hgw hall hcs
    by_cases hlt : j < n
    · have f0 : ∀ o, wr.frozen? ⟨g, o, none⟩ = false := fun o => frozen_heap hh o
      have c0 : ∃ v, wr.cell? ⟨g, j * 5, none⟩ = some v := ⟨_, (cell_heap hh (j * 5)).trans (Array.getElem?_eq_getElem (by have := HCS.out; omega))⟩
      obtain ⟨v0, c0⟩ := c0
      have HTN : Hid ((1 + 5 * (j : Int) + 1).toNat = 2 + 5 * j) := by show _ = _; omega
      have hgr : g < wr.heap.size := (Array.getElem?_eq_some_iff.1 hh).1
      clear hh
      go_wp2_with (go_at_call 20; refine (markText_int _ _ (by omega) (by omega)).mono ?_; rintro e w1 ⟨rfl, hb1⟩; rw [HTN.out]; have HB1 := hid hb1; have hw1 := (hb1.block g (by simp; exact hgr)).trans (heap_setCell_same wr g (j * 5) cu 39 _ HH.out); have f1 : ∀ o, w1.frozen? ⟨g, o, none⟩ = false := fun o => frozen_heap hw1 o; obtain ⟨v1, x1⟩ : ∃ v, w1.cell? ⟨g, j * 5 + 1, none⟩ = some v := ⟨_, (cell_heap hw1 (j * 5 + 1)).trans (Array.getElem?_eq_getElem (by rw [Array.size_setIfInBounds, HCS.out]; omega))⟩; obtain ⟨v2, x2⟩ : ∃ v, w1.cell? ⟨g, j * 5 + 2, none⟩ = some v := ⟨_, (cell_heap hw1 (j * 5 + 2)).trans (Array.getElem?_eq_getElem (by rw [Array.size_setIfInBounds, HCS.out]; omega))⟩; obtain ⟨v3, x3⟩ : ∃ v, w1.cell? ⟨g, j * 5 + 3, none⟩ = some v := ⟨_, (cell_heap hw1 (j * 5 + 3)).trans (Array.getElem?_eq_getElem (by rw [Array.size_setIfInBounds, HCS.out]; omega))⟩; obtain ⟨v4, x4⟩ : ∃ v, w1.cell? ⟨g, j * 5 + 4, none⟩ = some v := ⟨_, (cell_heap hw1 (j * 5 + 4)).trans (Array.getElem?_eq_getElem (by rw [Array.size_setIfInBounds, HCS.out]; omega))⟩; have HW1 := hid hw1; clear hb1 hw1)
      have hfin := heap_setCell_same _ g (j * 5 + 4) _ 39 (.int .i64 (1 + 5 * (j : Int) + 1 + 1 + 1 + 1)) (heap_setCell_same _ g (j * 5 + 3) _ 39 (.int .i64 (1 + 5 * (j : Int) + 1 + 1 + 1)) (heap_setCell_same _ g (j * 5 + 2) _ 39 (.int .i64 (1 + 5 * (j : Int) + 1 + 1)) (heap_setCell_same w1 g (j * 5 + 1) _ 39 (.string (mtxt (2 + 5 * j))) HW1.out)))
      have hgrn := grown_set (grown_set (grown_set (grown_set (grown_below (grown_set HG.out (j * 5) _) HB1.out) (j * 5 + 1) (.string (mtxt (2 + 5 * j)))) (j * 5 + 2) (.int .i64 (1 + 5 * (j : Int) + 1 + 1))) (j * 5 + 3) (.int .i64 (1 + 5 * (j : Int) + 1 + 1 + 1))) (j * 5 + 4) (.int .i64 (1 + 5 * (j : Int) + 1 + 1 + 1 + 1))
      have h4 := fun a => set_five cu j a (.string (mtxt (2 + 5 * j))) (.int .i64 (1 + 5 * (j : Int) + 1 + 1)) (.int .i64 (1 + 5 * (j : Int) + 1 + 1 + 1)) (.int .i64 (1 + 5 * (j : Int) + 1 + 1 + 1 + 1)) (by rw [HCS.out]; omega)
      have HF := hid hfin
      have HGR := hid hgrn
      have H4 := hid (h4 (.int .i64 (1 + 5 * (j : Int))))
      clear hfin hgrn h4
      go_roundw
      case rel =>
        refine ⟨j + 1, _, by go_num, by go_num, by omega, HGR.out, HF.out, (H4.out.1).trans HCS.out, fun i hi => ?_⟩
        rcases Nat.lt_or_eq_of_le (Nat.lt_succ_iff.1 hi) with h | h
        · have h5 := H4.out.2.2.2.2.2.2
          have h6 := HALL.out i h
          exact ⟨(h5 _ (by omega)).trans h6.1, (h5 _ (by omega)).trans h6.2.1, (h5 _ (by omega)).trans h6.2.2.1, (h5 _ (by omega)).trans h6.2.2.2.1, (h5 _ (by omega)).trans h6.2.2.2.2⟩
        · subst h
          refine ⟨H4.out.2.1.trans ?_, H4.out.2.2.1, H4.out.2.2.2.1.trans ?_, H4.out.2.2.2.2.1.trans ?_, H4.out.2.2.2.2.2.1.trans ?_⟩
          · go_num
          · go_num
          · go_num
          · go_num
      case measure => simp [intOf]; omega
    · go_wp2
      go_ret
      exact ⟨ret_int (by omega), HG.out, cu, HH.out, HCS.out, fun i hi => HALL.out i (by omega)⟩
end Go.Proofs.YtdhcjmlcpnljiaaDoor
