import Derived.Test.YtpobfklbbkdglaaDoorJScope
import Derived.Test.YtpobfklbbkdglaaDoorJTree
namespace Go.Proofs.YtpobfklbbkdglaaDoor
open Go.RowKit
set_option maxRecDepth 20000
theorem cell_hp {W : World} {k : Nat} {cs : Array Value} {t : TypeId} (h : W.heap[k]? = some (.cells cs t (0, 0))) (i : Nat) : W.cell? ⟨k, i, none⟩ = cs[i]? := by unfold World.cell?; rw [h]; rfl
theorem frozen_hp {W : World} {k : Nat} {cs : Array Value} {t : TypeId} (h : W.heap[k]? = some (.cells cs t (0, 0))) (i : Nat) : W.frozen? ⟨k, i, none⟩ = false := by unfold World.frozen?; rw [h]; simp
set_option maxHeartbeats 1000000 in
theorem eqFlt_any (c p : Int) (w : World) :
    Calls Tryd.prog 11 #[.agg #[.int .i64 c, .int .i64 p], .agg #[.int .i64 c, .int .i64 p]] w fun e w' => e = .returned (.bool true) ∧ Below w.heap.size w w' := by
  go_enter Tryd.func11, Tryd.ntmps11
  go_wp2
  go_ret
  exact ⟨rfl, ((Below.refl w.heap.size w).alloc (Nat.le_refl _) _).alloc (by simp) _⟩
/-- A slice of numbers. -/
def IntsA (W : World) (ad : Option Addr) (M : Nat) (bn : Nat → Int) : Prop := M = 0 ∨ ∃ g cur, ad = some ⟨g, 0, none⟩ ∧ W.heap[g]? = some (.cells cur 3 (0, 0)) ∧ ∀ i, i < M → cur[i]? = some (.int .i64 (bn i))
theorem IntsA.below {W W' : World} {ad : Option Addr} {M B : Nat} {bn : Nat → Int} (h : IntsA W ad M bn) (hb : Below B W W') (hB : ∀ g, ad = some ⟨g, 0, none⟩ → g < B) : IntsA W' ad M bn := by
  rcases h with h | ⟨g, cur, rfl, h1, h2⟩
  · exact .inl h
  · exact .inr ⟨g, cur, rfl, (hb.block g (hB g rfl)).trans h1, h2⟩
theorem IntsA.sv {S : Nat → Prop} {W W' : World} {ad : Option Addr} {M : Nat} {bn : Nat → Int} (h : IntsA W ad M bn) (hb : Sv S W W') (hS : ∀ g, ad = some ⟨g, 0, none⟩ → ¬ S g) : IntsA W' ad M bn := by
  rcases h with h | ⟨g, cur, rfl, h1, h2⟩
  · exact .inl h
  · exact .inr ⟨g, cur, rfl, (hb.block g (Array.getElem?_eq_some_iff.1 h1).1 (hS g rfl)).trans h1, h2⟩
set_option maxHeartbeats 1000000 in
theorem eqInts_row (g1 g2 M c1 c2 : Nat) (bn : Nat → Int) (w : World) (hM : M ≤ 1048576) (h1 : ∀ i, i < M → w.cell? ⟨g1, i, none⟩ = some (.int .i64 (bn i))) (h2 : ∀ i, i < M → w.cell? ⟨g2, i, none⟩ = some (.int .i64 (bn i))) :
    Calls Tryd.prog 15 #[.slice (some ⟨g1, 0, none⟩) M c1, .slice (some ⟨g2, 0, none⟩) M c2] w fun e w' => e = .returned (.bool true) ∧ Below w.heap.size w w' := by
  have H1 := hid h1
  have H2 := hid h2
  clear h1 h2
  go_enter Tryd.func15, Tryd.ntmps15
  go_wp2
  go_loopw [5] (fun i wr => ∃ (j : Nat), i = .int .i64 j ∧ j ≤ M ∧ Below w.heap.size w wr) (fun i _ => M - (intOf i).toNat)
  case atStart => exact ⟨0, rfl, Nat.zero_le _, Below.refl _ _⟩
  case round =>
    obtain ⟨j, rfl, hj, hb⟩ := hrel
    have HB := hid hb
    by_cases hlt : j < M
    · have c1 := H1.out j hlt
      have c2 := H2.out j hlt
      rw [← hb.cell (p := ⟨g1, j, none⟩) (World.block_lt_of_cell? w _ c1)] at c1
      rw [← hb.cell (p := ⟨g2, j, none⟩) (World.block_lt_of_cell? w _ c2)] at c2
      clear hb
      go_wp2
      go_region
      all_goals go_wp2
      all_goals
        go_roundw
        case rel => exact ⟨j + 1, by go_num, by omega, HB.out.drew⟩
        case measure => simp [intOf]; omega
    · clear hb
      go_wp2
      go_ret
      exact ⟨rfl, HB.out⟩
set_option maxHeartbeats 1000000 in
theorem eqInts_nil (a1 a2 : Option Addr) (c1 c2 : Nat) (w : World) :
    Calls Tryd.prog 15 #[.slice a1 0 c1, .slice a2 0 c2] w fun e w' => e = .returned (.bool true) ∧ Below w.heap.size w w' := by
  go_enter Tryd.func15, Tryd.ntmps15
  go_wp2
  go_loop [5] (fun i => i = .int .i64 0) (fun _ => 0)
  case atStart => exact rfl
  case round =>
    subst hrel
    go_wp2
    go_ret
    exact ⟨rfl, Below.refl _ _⟩
theorem eqInts_any {a1 a2 : Option Addr} {M : Nat} {bn : Nat → Int} {w : World} (c1 c2 : Nat) (hM : M ≤ 1048576) (h1 : IntsA w a1 M bn) (h2 : IntsA w a2 M bn) :
    Calls Tryd.prog 15 #[.slice a1 M c1, .slice a2 M c2] w fun e w' => e = .returned (.bool true) ∧ Below w.heap.size w w' := by
  rcases h1 with rfl | ⟨g1, cur1, rfl, h1, k1⟩
  · exact eqInts_nil a1 a2 c1 c2 w
  · rcases h2 with rfl | ⟨g2, cur2, rfl, h2, k2⟩
    · exact eqInts_nil _ a2 c1 c2 w
    · exact eqInts_row g1 g2 M c1 c2 bn w hM (fun i hi => (cell_hp h1 i).trans (k1 i hi)) (fun i hi => (cell_hp h2 i).trans (k2 i hi))
set_option maxHeartbeats 1000000 in
theorem heldInts_row (g M c : Nat) (w : World) (hM : M ≤ 1048576) (h : ∀ i : Nat, i < M → w.cell? ⟨g, i, none⟩ = some (.int .i64 (1 + i : Nat))) :
    Calls Tryd.prog 18 #[.slice (some ⟨g, 0, none⟩) M c, .int .i64 1] w fun e w' => e = .returned (.int .i64 (1 + M : Nat)) ∧ Below w.heap.size w w' := by
  have H1 := hid h
  clear h
  go_enter Tryd.func18, Tryd.ntmps18
  go_wp2
  go_loopw [1, 5] (fun k i wr => ∃ (j : Nat), i = .int .i64 j ∧ k = .int .i64 (1 + j : Nat) ∧ j ≤ M ∧ Below w.heap.size w wr) (fun _ i _ => M - (intOf i).toNat)
  case atStart => exact ⟨0, rfl, rfl, Nat.zero_le _, Below.refl _ _⟩
  case round =>
    obtain ⟨j, rfl, rfl, hj, hb⟩ := hrel
    have HB := hid hb
    by_cases hlt : j < M
    · have c1 := H1.out j hlt
      rw [← hb.cell (p := ⟨g, j, none⟩) (World.block_lt_of_cell? w _ c1)] at c1
      clear hb
      go_wp2
      go_roundw
      case rel => exact ⟨j + 1, by go_num, by go_num, by omega, HB.out⟩
      case measure => simp [intOf]; omega
    · clear hb
      go_wp2
      go_ret
      exact ⟨ret_int (by omega), HB.out⟩
set_option maxHeartbeats 1000000 in
theorem heldInts_nil (a : Option Addr) (c : Nat) (w : World) :
    Calls Tryd.prog 18 #[.slice a 0 c, .int .i64 1] w fun e w' => e = .returned (.int .i64 1) ∧ w' = w := by
  go_enter Tryd.func18, Tryd.ntmps18
  go_wp2
  go_loop [1, 5] (fun k i => k = .int .i64 1 ∧ i = .int .i64 0) (fun _ _ => 0)
  case atStart => exact ⟨rfl, rfl⟩
  case round =>
    obtain ⟨rfl, rfl⟩ := hrel
    go_wp2
    go_ret
    exact ⟨rfl, rfl⟩
set_option maxHeartbeats 1000000 in
theorem markInts_nil (a : Option Addr) (c : Nat) (w : World) :
    Calls Tryd.prog 17 #[.slice a 0 c, .int .i64 1] w fun e w' => e = .returned (.int .i64 1) ∧ w' = w := by
  go_enter Tryd.func17, Tryd.ntmps17
  go_wp2
  go_loop [1, 5] (fun k i => k = .int .i64 1 ∧ i = .int .i64 0) (fun _ _ => 0)
  case atStart => exact ⟨rfl, rfl⟩
  case round =>
    obtain ⟨rfl, rfl⟩ := hrel
    go_wp2
    go_ret
    exact ⟨rfl, rfl⟩
set_option maxHeartbeats 1000000 in
theorem markInts_row (g M c : Nat) (w : World) (hM : M ≤ 1048576) (cur : Array Value) (hg : w.heap[g]? = some (.cells cur 3 (0, 0))) (hs : M ≤ cur.size) :
    Calls Tryd.prog 17 #[.slice (some ⟨g, 0, none⟩) M c, .int .i64 1] w fun e w' => e = .returned (.int .i64 (1 + M : Nat)) ∧ Sv (fun k => k = g) w w' ∧ ∃ cur', w'.heap[g]? = some (.cells cur' 3 (0, 0)) ∧ ∀ i : Nat, i < M → cur'[i]? = some (.int .i64 (1 + i : Nat)) := by
  go_enter Tryd.func17, Tryd.ntmps17
  go_wp2
  go_loopw [1, 5] (fun k i wr => ∃ (j : Nat) (cu : Array Value), i = .int .i64 j ∧ k = .int .i64 (1 + j : Nat) ∧ j ≤ M ∧ Sv (fun k => k = g) w wr ∧ wr.heap[g]? = some (.cells cu 3 (0, 0)) ∧ cu.size = cur.size ∧ ∀ i : Nat, i < j → cu[i]? = some (.int .i64 (1 + i : Nat))) (fun _ i _ => M - (intOf i).toNat)
  case atStart => exact ⟨0, cur, rfl, rfl, Nat.zero_le _, Sv.refl _ _, hg, rfl, fun i h => absurd h (Nat.not_lt_zero _)⟩
  case round =>
    obtain ⟨j, cu, rfl, rfl, hj, hsv, hh, hcs, hall⟩ := hrel
    have HS := hid hsv
    have HH := hid hh
    have HALL := hid hall
    have HCS := hid hcs
    clear hsv hall hcs
    by_cases hlt : j < M
    · have f0 : wr.frozen? ⟨g, j, none⟩ = false := frozen_hp hh j
      obtain ⟨v0, c0⟩ : ∃ v, wr.cell? ⟨g, j, none⟩ = some v := ⟨_, (cell_hp hh j).trans (Array.getElem?_eq_getElem (by have := HCS.out; omega))⟩
      clear hh
      go_wp2
      go_roundw
      case rel =>
        refine ⟨j + 1, _, by go_num, by go_num, by omega, HS.out.setCell (p := ⟨g, j, none⟩) (.inl rfl) _, set_at _ HH.out, by rw [Array.size_setIfInBounds]; exact HCS.out, fun i hi => ?_⟩
        have hj2 : j < cu.size := by have := HCS.out; omega
        rw [Array.getElem?_setIfInBounds]
        by_cases e : j = i
        · subst e; rw [if_pos rfl, if_pos hj2]; simp
        · rw [if_neg e]; exact HALL.out i (by omega)
      case measure => simp [intOf]; omega
    · obtain rfl : j = M := by omega
      clear hh
      go_wp2
      go_ret
      exact ⟨rfl, HS.out, cu, HH.out, HALL.out⟩
end Go.Proofs.YtpobfklbbkdglaaDoor
namespace Go.Proofs.YtpobfklbbkdglaaDoor
open Go.RowKit
set_option maxRecDepth 20000
set_option maxHeartbeats 2000000 in
theorem toNodeSX_any (a : Addr) (N cap : Nat) (nd : Nat → Nd) (w : World) (hN : N ≤ 1048576) (ha : a.block < w.heap.size) (hn : ∀ i, i < N → FiveA w (a.add (i * 5)) (nd i)) :
    Calls Tryd.prog 27 #[.slice (some a) N cap] w fun e w' => e = .returned (.slice (some ⟨w.heap.size, 0, none⟩) N N) ∧ Filling w' w.heap.size N N nd ∧ w.heap.size < w'.heap.size ∧ Below w.heap.size w w' := by
  have HN := hid hn
  clear hn
  obtain ⟨i0, hi, hz0, hz1, hz2⟩ := info_parts info_nd
  have HHI := hid (And.intro hi (And.intro hz0 (And.intro hz1 hz2)))
  clear hi hz0 hz1
  go_enter Tryd.func27, Tryd.ntmps27
  go_wp2_with (at_make; refine wpList_make_full _ rfl _ _ 29 rfl w.heap.size 58 i0 (.agg #[.int .i64 0, .int .i64 0, .int .i64 0, .string ⟨#[]⟩, .int .i64 0]) 5 Tryd.underlying29 HHI.out.1 HHI.out.2.1 HHI.out.2.2.1 _ _ _ _ N rfl rfl rfl rfl (by rw [hz2]; omega) (by unfold maxLen; omega) (Nat.le_refl _) ?_; intro w1 o1 g1)
  have HF0 : Hid (Filling w1 w.heap.size N 0 nd) := by
    obtain ⟨h1, ⟨h2, _⟩ | ⟨g, c, cur, e, _, h4, _, _, h7, _⟩⟩ := o1
    · cases h2
    · cases e
      exact ⟨⟨cur, h4, h7⟩, fun i h => absurd h (Nat.not_lt_zero _)⟩
  have HB0 := hid ((Below.refl w.heap.size w).grown g1 (Nat.le_refl _) (fun q e => by cases e))
  clear o1 g1
  go_loopw [4] (fun i wr => ∃ j : Nat, j ≤ N ∧ i = .int .i64 j ∧ Filling wr w.heap.size N j nd ∧ Below w.heap.size w wr) (fun i _ => N - (intOf i).toNat)
  case atStart => exact ⟨0, Nat.zero_le _, rfl, HF0.out, HB0.out⟩
  case round =>
    obtain ⟨j, hj, rfl, hfi, hbw⟩ := hrel
    have HFI := hid hfi
    have HBW := hid hbw
    clear hfi hbw
    by_cases hlt : j < N
    · obtain ⟨c0, c1, c2, c3, c4⟩ : FiveA wr (a.add (j * 5)) (nd j) := by
        rcases NodesA.below (.inr ⟨a, rfl, ha, HN.out⟩ : NodesA w (some a) N nd) HBW.out with h | ⟨a', e, _, h2⟩
        · omega
        · cases e; exact h2 j hlt
      go_wp2_with fail
      refine (toNode_any (nd j) _).mono ?_
      rintro e w2 ⟨rfl, hb2⟩
      have HB2 := hid hb2
      obtain ⟨⟨cur, hcur, hsz⟩, hno⟩ := HFI.out
      have hcur2 := (hb2.block _ (Array.getElem?_eq_some_iff.1 hcur).1).trans hcur
      have hidx : j * 5 + 4 < cur.size := by rw [hsz]; omega
      have HCUR := hid (And.intro hcur2 hsz)
      obtain ⟨⟨v0, x0⟩, ⟨v1, x1⟩, ⟨v2, x2⟩, ⟨v3, x3⟩, ⟨v4, x4⟩, y0, y1, y2, y3, y4⟩ := five_room hcur2 hidx
      clear hb2 hcur hcur2 hno
      simp only [ndV]
      go_wp2
      have HNX := hid (fill_step HCUR.out (HFI.out.2.below (HB2.out) (by have := HBW.out.size; obtain ⟨⟨_, hc, _⟩, _⟩ := HFI.out; exact (Array.getElem?_eq_some_iff.1 hc).1)) hlt)
      have HBX := hid (HBW.out.trans (HB2.out.mono HBW.out.size))
      go_roundw
      case rel => exact ⟨j + 1, by omega, by go_num, HNX.out, below_set (below_set (below_set (below_set (below_set HBX.out _ _ (Nat.le_refl _) _) _ _ (Nat.le_refl _) _) _ _ (Nat.le_refl _) _) _ _ (Nat.le_refl _) _) _ _ (Nat.le_refl _) _⟩
      case measure => simp [intOf]; omega
    · obtain rfl : j = N := by omega
      go_wp2
      go_ret
      exact ⟨rfl, HFI.out, by have := HBW.out.size; obtain ⟨⟨cur, hc, _⟩, _⟩ := HFI.out; exact (Array.getElem?_eq_some_iff.1 hc).1, HBW.out⟩
set_option maxHeartbeats 1000000 in
theorem toNodeSX_none (ad : Option Addr) (cap : Nat) (nd : Nat → Nd) (w : World) :
    Calls Tryd.prog 27 #[.slice ad 0 cap] w fun e w' => e = .returned (.slice (some ⟨w.heap.size, 0, none⟩) 0 0) ∧ Filling w' w.heap.size 0 0 nd ∧ w.heap.size < w'.heap.size ∧ Below w.heap.size w w' := by
  obtain ⟨i0, hi, hz0, hz1, hz2⟩ := info_parts info_nd
  have HHI := hid (And.intro hi (And.intro hz0 hz1))
  clear hi hz0 hz1
  go_enter Tryd.func27, Tryd.ntmps27
  go_wp2_with (at_make; refine wpList_make_full _ rfl _ _ 29 rfl w.heap.size 58 i0 (.agg #[.int .i64 0, .int .i64 0, .int .i64 0, .string ⟨#[]⟩, .int .i64 0]) 5 Tryd.underlying29 HHI.out.1 HHI.out.2.1 HHI.out.2.2 _ _ _ _ 0 rfl rfl rfl rfl (by omega) (by unfold maxLen; omega) (Nat.le_refl _) ?_; intro w1 o1 g1)
  have HSZ : Hid (w.heap.size < w1.heap.size ∧ ∃ cur, w1.heap[w.heap.size]? = some (.cells cur 58 (0, 0)) ∧ cur.size = 0 * 5) := by
    obtain ⟨h1, ⟨h2, _⟩ | ⟨g, c, cur, e, _, h4, _, _, h7, _⟩⟩ := o1
    · cases h2
    · cases e
      exact ⟨(Array.getElem?_eq_some_iff.1 h4).1, cur, h4, h7⟩
  have HB0 := hid ((Below.refl w.heap.size w).grown g1 (Nat.le_refl _) (fun q e => by cases e))
  clear o1 g1
  go_loopw [4] (fun i wr => i = .int .i64 0 ∧ wr = w1) (fun _ _ => 0)
  case atStart => exact ⟨rfl, rfl⟩
  case round =>
    obtain ⟨rfl, rfl⟩ := hrel
    go_wp2
    go_ret
    exact ⟨rfl, ⟨HSZ.out.2, fun i h => absurd h (Nat.not_lt_zero _)⟩, HSZ.out.1, HB0.out⟩
theorem toNodeSX_all (ad : Option Addr) (N cap : Nat) (nd : Nat → Nd) (w : World) (hN : N ≤ 1048576) (hn : NodesA w ad N nd) :
    Calls Tryd.prog 27 #[.slice ad N cap] w fun e w' => e = .returned (.slice (some ⟨w.heap.size, 0, none⟩) N N) ∧ Filling w' w.heap.size N N nd ∧ w.heap.size < w'.heap.size ∧ Below w.heap.size w w' := by
  rcases hn with rfl | ⟨a, rfl, h1, h2⟩
  · exact toNodeSX_none ad cap nd w
  · exact toNodeSX_any a N cap nd w hN h1 h2
set_option maxHeartbeats 1000000 in
theorem toTreeX_any (ad : Option Addr) (N cap : Nat) (nd : Nat → Nd) (w : World) (hN : N ≤ 1048576) (hn : NodesA w ad N nd) :
    Calls Tryd.prog 9 #[.agg #[.slice ad N cap]] w fun e w' => ∃ g, e = .returned (.agg #[.slice (some ⟨g, 0, none⟩) N N]) ∧ Filling w' g N N nd ∧ g < w'.heap.size ∧ w.heap.size ≤ g ∧ Below w.heap.size w w' := by
  have HB := hid ((Below.refl w.heap.size w).alloc (Nat.le_refl _) (.cells #[.slice ad N cap] 24))
  have HN := hid hn
  clear hn
  go_enter Tryd.func9, Tryd.ntmps9
  go_wp2_with fail
  have HB3 := hid (((HB.out.alloc (by simp) (.cells #[.slice none 0 0] 31))).alloc (by simp; omega) (.cells #[.slice none 0 0] 31))
  refine (toNodeSX_all ad N cap nd _ hN (HN.out.below HB3.out)).mono ?_
  rintro e w1 ⟨rfl, hno, hlt, hb1⟩
  obtain ⟨⟨x1, y1⟩, ⟨x2, y2⟩⟩ := three_rows hb1
  have HNO := hid hno
  have HLT := hid hlt
  have HB1 := hid (HB3.out.trans (hb1.mono (by simp; omega)))
  clear hno hlt hb1
  go_wp2
  refine bodyPost_ret (v := .agg #[.slice (some ⟨w.heap.size + 1 + 1 + 1, 0, none⟩) N N]) (by simp [results, Tryd.results9, go_sem, x1]) rfl ⟨w.heap.size + 1 + 1 + 1, rfl, ?_, ?_, by omega, ?_⟩
  · have h3 := HNO.out
    simp only [World.size_alloc] at h3
    exact ⟨(by obtain ⟨cur, hc, hs⟩ := h3.1; exact ⟨cur, (Below.heap_setCell _ _ _ _ (by show _ ≠ _; simp only; omega)).trans ((Below.heap_setCell _ _ _ _ (by show _ ≠ _; simp only; omega)).trans hc), hs⟩), (h3.2.set (by omega) _).set (by omega) _⟩
  · have := HLT.out
    simp only [World.size_alloc] at this
    simpa using this
  · exact below_set (below_set HB1.out _ _ (by omega) _) _ _ (by omega) _
end Go.Proofs.YtpobfklbbkdglaaDoor
namespace Go.Proofs.YtpobfklbbkdglaaDoor
open Go.RowKit
/-- The decimal digits, the last one last; by fuel. -/
def decF : Nat → Nat → List UInt8 → List UInt8
  | 0, _, acc => acc
  | f + 1, k, acc => if k = 0 then acc else decF f (k / 10) ((48 + k % 10).toUInt8 :: acc)
def mtxt (k : Nat) : ByteArray := ⟨(109 :: decF k k []).toArray⟩
theorem conv_one (W : World) (d : Int) (b : UInt8) (hd : (b.toNat : Int) = d) : (convert 111 9 (.slice (some ⟨W.heap.size, 0, none⟩) 1 1)).run Tryd.prog (W.alloc (.cells #[.int .u8 d] 5)) = .ok (.string ⟨[b].toArray⟩) (W.alloc (.cells #[.int .u8 d] 5)) := by
  refine run_convert_bytes_back (W.alloc (.cells #[.int .u8 d] 5)) 111 9 5 ⟨W.heap.size, 0, none⟩ 1 [b] Tryd.underlying111 Tryd.underlying5 Tryd.underlying9 ?_
  intro j hj
  obtain rfl : j = 0 := by simpa using hj
  have h := cell_new_row W #[.int .u8 d] 5 0
  subst hd
  exact h
theorem cons_bytes (b : UInt8) (acc : List UInt8) : ((⟨#[b]⟩ : ByteArray) ++ ⟨acc.toArray⟩) = ⟨(b :: acc).toArray⟩ := by
  apply ByteArray.ext
  rw [ByteArray.data_append]
  simp
theorem digit_byte (j : Nat) : (((48 + j % 10).toUInt8).toNat : Int) = 48 + (j : Int) % 10 := by
  have h : (48 + j % 10) < 256 := by omega
  simp [Nat.mod_eq_of_lt h]
set_option maxRecDepth 20000 in
set_option maxHeartbeats 100000000 in
theorem markText_any (k : Nat) (w : World) (h0 : 0 < k) (h1 : k ≤ 10000000) :
    Calls Tryd.prog 54 #[.int .i64 k] w fun e w' => e = .returned (.string (mtxt k)) ∧ Below w.heap.size w w' := by
  go_enter Tryd.func54, Tryd.ntmps54
  go_wp2
  go_loopw [0, 3] (fun i o wr => ∃ (j f : Nat) (acc : List UInt8), i = .int .i64 j ∧ j ≤ f ∧ acc.length + j ≤ k ∧ o = .string ⟨acc.toArray⟩ ∧ Below w.heap.size w wr ∧ decF f j acc = decF k k []) (fun i _ _ => (intOf i).toNat)
  case atStart => exact ⟨k, k, [], rfl, Nat.le_refl _, by simp, rfl, Below.refl _ _, rfl⟩
  case round =>
    obtain ⟨j, f, acc, rfl, hf, hj, rfl, hb, hd⟩ := hrel
    have HD := hid hd
    have HB := hid hb
    clear hd hb
    have hal : acc.length ≤ 10000000 := by omega
    by_cases hj0 : 0 < j
    · obtain ⟨f, rfl⟩ : ∃ f', f = f' + 1 := ⟨f - 1, by omega⟩
      have hconv := conv_one wr (48 + (j : Int) % 10) (48 + j % 10).toUInt8 (digit_byte j)
      have NX : Hid (decF f (j / 10) ((48 + j % 10).toUInt8 :: acc) = decF k k []) := by
        show _ = _; rw [← HD.out]; simp only [decF]; rw [if_neg (by omega)]
      generalize (48 + j % 10).toUInt8 = b at *
      go_wp2
      go_roundw
      case rel => exact ⟨j / 10, f, b :: acc, by go_num, by omega, by simp; omega, by rw [cons_bytes], HB.out.alloc HB.out.size _, NX.out⟩
      case measure => simp [intOf]; omega
    · have HE : Hid (decF k k [] = acc) := by
        show _ = _; rw [← HD.out]
        obtain rfl : j = 0 := by omega
        cases f <;> rfl
      go_wp2
      go_ret
      exact ⟨by unfold mtxt; rw [HE.out, ← cons_bytes]; rfl, HB.out⟩
theorem markText_int (a : Int) (w : World) (h0 : 0 < a) (h1 : a ≤ 10000000) :
    Calls Tryd.prog 54 #[.int .i64 a] w fun e w' => e = .returned (.string (mtxt a.toNat)) ∧ Below w.heap.size w w' := by
  obtain ⟨k, rfl⟩ := Int.eq_ofNat_of_zero_le (show 0 ≤ a by omega)
  rw [Int.toNat_natCast]
  exact markText_any k w (by omega) (by omega)
/-- Nodes that are marked. -/
def mkNd (i : Nat) : Nd := ⟨((1 + 5 * i : Nat) : Int), ((2 + 5 * i : Nat) : Int), ((3 + 5 * i : Nat) : Int), mtxt (4 + 5 * i), ((5 + 5 * i : Nat) : Int)⟩
/-- Five stores in a row's place j, the others as they were. -/
theorem set_five (cu : Array Value) (j : Nat) (a b c d f : Value) (h : j * 5 + 4 < cu.size) :
    let r := ((((cu.setIfInBounds (j * 5) a).setIfInBounds (j * 5 + 1) b).setIfInBounds (j * 5 + 2) c).setIfInBounds (j * 5 + 3) d).setIfInBounds (j * 5 + 4) f
    r.size = cu.size ∧ r[j * 5]? = some a ∧ r[j * 5 + 1]? = some b ∧ r[j * 5 + 2]? = some c ∧ r[j * 5 + 3]? = some d ∧ r[j * 5 + 4]? = some f ∧ ∀ i, i < j * 5 → r[i]? = cu[i]? := by
  intro r
  have h0 : j * 5 < cu.size := by omega
  have h1 : j * 5 + 1 < cu.size := by omega
  have h2 : j * 5 + 2 < cu.size := by omega
  have h3 : j * 5 + 3 < cu.size := by omega
  refine ⟨by simp [r], ?_, ?_, ?_, ?_, ?_, fun i hi => ?_⟩
  · simp [r, h0]
  · simp [r, h1]
  · simp [r, h2]
  · simp [r, h3]
  · simp [r, h]
  · have e0 : ¬ j * 5 = i := by omega
    have e1 : ¬ j * 5 + 1 = i := by omega
    have e2 : ¬ j * 5 + 2 = i := by omega
    have e3 : ¬ j * 5 + 3 = i := by omega
    have e4 : ¬ j * 5 + 4 = i := by omega
    simp [r, e0, e1, e2, e3, e4]
theorem filling_arr {W : World} {g N j : Nat} {nd : Nat → Nd} {cu : Array Value} {a b c d f : Value} (hold : ∀ i, i < j → cu[i * 5]? = some (.int .i64 (nd i).kind) ∧ cu[i * 5 + 1]? = some (.int .i64 (nd i).op) ∧ cu[i * 5 + 2]? = some (.int .i64 (nd i).n) ∧ cu[i * 5 + 3]? = some (.string (nd i).text) ∧ cu[i * 5 + 4]? = some (.int .i64 (nd i).kids)) (hs : cu.size = N * 5) (hj : j < N)
    (h : W.heap[g]? = some (.cells (((((cu.setIfInBounds (j * 5) a).setIfInBounds (j * 5 + 1) b).setIfInBounds (j * 5 + 2) c).setIfInBounds (j * 5 + 3) d).setIfInBounds (j * 5 + 4) f) 58 (0, 0))) (ea : a = .int .i64 (nd j).kind) (eb : b = .int .i64 (nd j).op) (ec : c = .int .i64 (nd j).n) (ed : d = .string (nd j).text) (ef : f = .int .i64 (nd j).kids) : Filling W g N (j + 1) nd := by
  obtain ⟨s0, s1, s2, s3, s4, s5, s6⟩ := set_five cu j a b c d f (by rw [hs]; omega)
  refine ⟨⟨_, h, s0.trans hs⟩, fun i hi => ?_⟩
  rcases Nat.lt_or_eq_of_le (Nat.lt_succ_iff.1 hi) with hh | hh
  · obtain ⟨o0, o1, o2, o3, o4⟩ := hold i hh
    exact ⟨(cell_hp h _).trans ((s6 _ (by omega)).trans o0), (cell_hp h _).trans ((s6 _ (by omega)).trans o1), (cell_hp h _).trans ((s6 _ (by omega)).trans o2), (cell_hp h _).trans ((s6 _ (by omega)).trans o3), (cell_hp h _).trans ((s6 _ (by omega)).trans o4)⟩
  · subst hh
    exact ⟨(cell_hp h _).trans (s1.trans (by rw [ea])), (cell_hp h _).trans (s2.trans (by rw [eb])), (cell_hp h _).trans (s3.trans (by rw [ec])), (cell_hp h _).trans (s4.trans (by rw [ed])), (cell_hp h _).trans (s5.trans (by rw [ef]))⟩
theorem Filling.arr {W : World} {g N j : Nat} {nd : Nat → Nd} (h : Filling W g N j nd) : ∃ cu, W.heap[g]? = some (.cells cu 58 (0, 0)) ∧ cu.size = N * 5 ∧ ∀ i, i < j → cu[i * 5]? = some (.int .i64 (nd i).kind) ∧ cu[i * 5 + 1]? = some (.int .i64 (nd i).op) ∧ cu[i * 5 + 2]? = some (.int .i64 (nd i).n) ∧ cu[i * 5 + 3]? = some (.string (nd i).text) ∧ cu[i * 5 + 4]? = some (.int .i64 (nd i).kids) := by
  obtain ⟨⟨cu, h1, h2⟩, h3⟩ := h
  refine ⟨cu, h1, h2, fun i hi => ?_⟩
  obtain ⟨d0, d1, d2, d3, d4⟩ := h3 i hi
  exact ⟨(cell_hp h1 _).symm.trans d0, (cell_hp h1 _).symm.trans d1, (cell_hp h1 _).symm.trans d2, (cell_hp h1 _).symm.trans d3, (cell_hp h1 _).symm.trans d4⟩
set_option maxRecDepth 20000 in
set_option maxHeartbeats 2000000 in
theorem markNodes_any (g N cap : Nat) (nd : Nat → Nd) (w : World) (hN : N ≤ 1048576) (hg : Filling w g N N nd) :
    Calls Tryd.prog 31 #[.slice (some ⟨g, 0, none⟩) N cap, .int .i64 1] w fun e w' => e = .returned (.int .i64 (1 + 5 * N : Nat)) ∧ Sv (fun k => k = g) w w' ∧ Filling w' g N N mkNd := by
  obtain ⟨cur, hcur, hsz⟩ := hg.1
  clear hg
  go_enter Tryd.func31, Tryd.ntmps31
  go_wp2
  go_loopw [1, 5] (fun k i wr => ∃ (j : Nat), i = .int .i64 j ∧ k = .int .i64 (1 + 5 * j : Nat) ∧ j ≤ N ∧ Sv (fun k => k = g) w wr ∧ Filling wr g N j mkNd) (fun _ i _ => N - (intOf i).toNat)
  case atStart => exact ⟨0, rfl, rfl, Nat.zero_le _, Sv.refl _ _, ⟨cur, hcur, hsz⟩, fun i h => absurd h (Nat.not_lt_zero _)⟩
  case round =>
    obtain ⟨j, rfl, rfl, hj, hsv, hfi⟩ := hrel
    have HS := hid hsv
    have HFI := hid hfi
    clear hsv hfi hcur hsz
    by_cases hlt : j < N
    · obtain ⟨cu, hh, hcs, hold⟩ := HFI.out.arr
      have HOLD := hid hold
      have HH := hid hh
      have HCS := hid hcs
      have hidx : j * 5 + 4 < cu.size := by rw [hcs]; omega
      obtain ⟨⟨v0, x0⟩, ⟨v1, x1⟩, ⟨v2, x2⟩, ⟨v3, x3⟩, ⟨v4, x4⟩, y0, y1, y2, y3, y4⟩ := five_room hh hidx
      have HTN : Hid ((1 + 5 * (j : Int) + 1 + 1 + 1).toNat = 4 + 5 * j) := by show _ = _; omega
      have hgr : g < wr.heap.size := (Array.getElem?_eq_some_iff.1 hh).1
      clear hh hcs hold x3 x4 y3 y4
      go_wp2_with (go_at_call 54; refine (markText_int _ _ (by omega) (by omega)).mono ?_; rintro e w1 ⟨rfl, hb1⟩; rw [HTN.out]; have HB1 := hid hb1; have hw1 := (hb1.block g (by simp; exact hgr)).trans (set_at _ (set_at _ (set_at _ HH.out))); have y3 : w1.frozen? ⟨g, j * 5 + 3, none⟩ = false := frozen_hp hw1 _; have y4 : w1.frozen? ⟨g, j * 5 + 4, none⟩ = false := frozen_hp hw1 _; obtain ⟨v3, x3⟩ : ∃ v, w1.cell? ⟨g, j * 5 + 3, none⟩ = some v := ⟨_, (cell_hp hw1 (j * 5 + 3)).trans (Array.getElem?_eq_getElem (by simp only [Array.size_setIfInBounds]; omega))⟩; obtain ⟨v4, x4⟩ : ∃ v, w1.cell? ⟨g, j * 5 + 4, none⟩ = some v := ⟨_, (cell_hp hw1 (j * 5 + 4)).trans (Array.getElem?_eq_getElem (by simp only [Array.size_setIfInBounds]; omega))⟩; have HW1 := hid hw1; clear hb1 hw1)
      have HF := hid (set_at (i := j * 5 + 4) (.int .i64 (1 + 5 * (j : Int) + 1 + 1 + 1 + 1)) (set_at (i := j * 5 + 3) (.string (mtxt (4 + 5 * j))) HW1.out))
      have HSV := hid ((((((HS.out.setCell (p := ⟨g, j * 5, none⟩) (.inl rfl) (.int .i64 (1 + 5 * (j : Int)))).setCell (p := ⟨g, j * 5 + 1, none⟩) (.inl rfl) (.int .i64 (1 + 5 * (j : Int) + 1))).setCell (p := ⟨g, j * 5 + 2, none⟩) (.inl rfl) (.int .i64 (1 + 5 * (j : Int) + 1 + 1))).trans (Sv.of_below HB1.out)).setCell (p := ⟨g, j * 5 + 3, none⟩) (.inl rfl) (.string (mtxt (4 + 5 * j)))).setCell (p := ⟨g, j * 5 + 4, none⟩) (.inl rfl) (.int .i64 (1 + 5 * (j : Int) + 1 + 1 + 1 + 1)))
      go_roundw
      case rel => exact ⟨j + 1, by go_num, by go_num, by omega, HSV.out, filling_arr HOLD.out HCS.out hlt HF.out (by unfold mkNd; go_num) (by unfold mkNd; go_num) (by unfold mkNd; go_num) rfl (by unfold mkNd; go_num)⟩
      case measure => simp [intOf]; omega
    · obtain rfl : j = N := by omega
      go_wp2
      go_ret
      exact ⟨ret_int (by omega), HS.out, HFI.out⟩
set_option maxHeartbeats 1000000 in
theorem markTree_any (g N cap : Nat) (nd : Nat → Nd) (w : World) (hN : N ≤ 1048576) (hg : Filling w g N N nd) :
    Calls Tryd.prog 16 #[.agg #[.slice (some ⟨g, 0, none⟩) N cap], .int .i64 1] w fun e w' => e = .returned (.int .i64 (1 + 5 * N : Nat)) ∧ Sv (fun k => k = g) w w' ∧ Filling w' g N N mkNd := by
  obtain ⟨cur, hcur, hsz⟩ := hg.1
  have hgr : g < w.heap.size := (Array.getElem?_eq_some_iff.1 hcur).1
  have HF0 : Hid (Filling (w.alloc (.cells #[.slice (some ⟨g, 0, none⟩) N cap] 31)) g N N nd) := ⟨⟨cur, (Below.heap_alloc _ _ _ hgr).trans hcur, hsz⟩, hg.2.below ((Below.refl _ _).alloc (Nat.le_refl _) _) hgr⟩
  clear hg hcur hsz
  go_enter Tryd.func16, Tryd.ntmps16
  go_wp2_with fail
  refine (markNodes_any g N cap nd _ hN HF0.out).mono ?_
  rintro e w1 ⟨rfl, hsv, hfi⟩
  have HS := hid (((Sv.refl (fun k => k = g) w).alloc _).trans hsv)
  have HFI := hid hfi
  clear hsv hfi
  go_wp2
  go_ret
  exact ⟨rfl, HS.out, HFI.out⟩
end Go.Proofs.YtpobfklbbkdglaaDoor
