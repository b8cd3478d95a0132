import Derived.Test.YtjbhadpdbcelcaaDoorQLSz
import Derived.OwnWalk
namespace Go.Proofs.YtjbhadpdbcelcaaDoor.Q
open Go.RowKit Go.Shelf
set_option maxRecDepth 20000
theorem info_nd : (Tryd.prog.info? 39).map (fun i => (i.zero, i.size, i.bytes)) = some (some (.agg #[.int .i64 0, .int .i64 0, .int .i64 0, .int .i64 0, .string ⟨#[]⟩, .int .i64 0]), 6, 56) := by kernel_rfl
/-- A row of n nodes that is being filled: block g has n * 6 cells; the first j nodes are there. -/
def Filling (W : World) (g n j : Nat) (nd : Nat → Nd) : Prop := (∃ cur, W.heap[g]? = some (.cells cur 39 (0, 0)) ∧ cur.size = n * 6) ∧ NodesAt W g j nd
theorem six_room {W : World} {g j : Nat} {cur : Array Value} {t : TypeId} (h : W.heap[g]? = some (.cells cur t (0, 0))) (hj : j * 6 + 5 < cur.size) :
    (∃ v, W.cell? ⟨g, j * 6, none⟩ = some v) ∧ (∃ v, W.cell? ⟨g, j * 6 + 1, none⟩ = some v) ∧ (∃ v, W.cell? ⟨g, j * 6 + 2, none⟩ = some v) ∧ (∃ v, W.cell? ⟨g, j * 6 + 3, none⟩ = some v) ∧ (∃ v, W.cell? ⟨g, j * 6 + 4, none⟩ = some v) ∧ (∃ v, W.cell? ⟨g, j * 6 + 5, none⟩ = some v) ∧
    W.frozen? ⟨g, j * 6, none⟩ = false ∧ W.frozen? ⟨g, j * 6 + 1, none⟩ = false ∧ W.frozen? ⟨g, j * 6 + 2, none⟩ = false ∧ W.frozen? ⟨g, j * 6 + 3, none⟩ = false ∧ W.frozen? ⟨g, j * 6 + 4, none⟩ = false ∧ W.frozen? ⟨g, j * 6 + 5, none⟩ = false := by
  have c : ∀ i, i < cur.size → ∃ v, W.cell? ⟨g, i, none⟩ = some v := fun i hi => ⟨cur[i], by unfold World.cell?; rw [h]; simp [hi]⟩
  have f : ∀ i, W.frozen? ⟨g, i, none⟩ = false := fun i => by unfold World.frozen?; rw [h]; simp
  exact ⟨c _ (by omega), c _ (by omega), c _ (by omega), c _ (by omega), c _ (by omega), c _ (by omega), f _, f _, f _, f _, f _, f _⟩
theorem set_at {W : World} {g i : Nat} {cur : Array Value} {t : TypeId} (v : Value) (h : W.heap[g]? = some (.cells cur t (0, 0))) : (W.setCell ⟨g, i, none⟩ v).heap[g]? = some (.cells (cur.setIfInBounds i v) t (0, 0)) := by
  unfold World.setCell
  simp only [Array.getElem?_modify, h]
  simp
theorem fill_step {W : World} {g N j : Nat} {nd : Nat → Nd} {cur : Array Value} (h : W.heap[g]? = some (.cells cur 39 (0, 0)) ∧ cur.size = N * 6) (hno : NodesAt W g j nd) (hj : j < N) :
    Filling ((((((W.setCell ⟨g, j * 6, none⟩ (.int .i64 (nd j).kind)).setCell ⟨g, j * 6 + 1, none⟩ (.int .i64 (nd j).op)).setCell ⟨g, j * 6 + 2, none⟩ (.int .i64 (nd j).ty)).setCell ⟨g, j * 6 + 3, none⟩ (.int .i64 (nd j).n)).setCell ⟨g, j * 6 + 4, none⟩ (.string (nd j).text)).setCell ⟨g, j * 6 + 5, none⟩ (.int .i64 (nd j).kids)) g N (j + 1) nd := by
  obtain ⟨h1, h2⟩ := h
  have e := (set_at (.int .i64 (nd j).kids) (i := j * 6 + 5) (set_at (.string (nd j).text) (i := j * 6 + 4) (set_at (.int .i64 (nd j).n) (i := j * 6 + 3) (set_at (.int .i64 (nd j).ty) (i := j * 6 + 2) (set_at (.int .i64 (nd j).op) (i := j * 6 + 1) (set_at (.int .i64 (nd j).kind) (i := j * 6) h1))))))
  refine ⟨⟨_, e, by simp [h2]⟩, ?_⟩
  have c : ∀ i, World.cell? ((((((W.setCell ⟨g, j * 6, none⟩ (.int .i64 (nd j).kind)).setCell ⟨g, j * 6 + 1, none⟩ (.int .i64 (nd j).op)).setCell ⟨g, j * 6 + 2, none⟩ (.int .i64 (nd j).ty)).setCell ⟨g, j * 6 + 3, none⟩ (.int .i64 (nd j).n)).setCell ⟨g, j * 6 + 4, none⟩ (.string (nd j).text)).setCell ⟨g, j * 6 + 5, none⟩ (.int .i64 (nd j).kids)) ⟨g, i, none⟩ = (((((((cur.setIfInBounds (j * 6) (.int .i64 (nd j).kind)).setIfInBounds (j * 6 + 1) (.int .i64 (nd j).op)).setIfInBounds (j * 6 + 2) (.int .i64 (nd j).ty)).setIfInBounds (j * 6 + 3) (.int .i64 (nd j).n)).setIfInBounds (j * 6 + 4) (.string (nd j).text)).setIfInBounds (j * 6 + 5) (.int .i64 (nd j).kids)))[i]? := fun i => by
    unfold World.cell?
    rw [e]; rfl
  have o : ∀ i, W.cell? ⟨g, i, none⟩ = cur[i]? := fun i => by
    unfold World.cell?
    rw [h1]; rfl
  have low : ∀ i, i < j * 6 → World.cell? ((((((W.setCell ⟨g, j * 6, none⟩ (.int .i64 (nd j).kind)).setCell ⟨g, j * 6 + 1, none⟩ (.int .i64 (nd j).op)).setCell ⟨g, j * 6 + 2, none⟩ (.int .i64 (nd j).ty)).setCell ⟨g, j * 6 + 3, none⟩ (.int .i64 (nd j).n)).setCell ⟨g, j * 6 + 4, none⟩ (.string (nd j).text)).setCell ⟨g, j * 6 + 5, none⟩ (.int .i64 (nd j).kids)) ⟨g, i, none⟩ = W.cell? ⟨g, i, none⟩ := fun i hi => by
    rw [c, o, Array.getElem?_setIfInBounds_ne (by omega), Array.getElem?_setIfInBounds_ne (by omega), Array.getElem?_setIfInBounds_ne (by omega), Array.getElem?_setIfInBounds_ne (by omega), Array.getElem?_setIfInBounds_ne (by omega), Array.getElem?_setIfInBounds_ne (by omega)]
  intro i hi
  rcases Nat.lt_or_eq_of_le (Nat.lt_succ_iff.1 hi) with h | h
  · obtain ⟨d0, d1, d2, d3, d4, d5⟩ := hno i h
    exact ⟨(low _ (by omega)).trans d0, (low _ (by omega)).trans d1, (low _ (by omega)).trans d2, (low _ (by omega)).trans d3, (low _ (by omega)).trans d4, (low _ (by omega)).trans d5⟩
  · subst h
    have hb : i * 6 + 5 < cur.size := by rw [h2]; omega
    refine ⟨?_, ?_, ?_, ?_, ?_, ?_⟩
    · rw [c, Array.getElem?_setIfInBounds_ne (by omega), Array.getElem?_setIfInBounds_ne (by omega), Array.getElem?_setIfInBounds_ne (by omega), Array.getElem?_setIfInBounds_ne (by omega), Array.getElem?_setIfInBounds_ne (by omega), Array.getElem?_setIfInBounds_self_of_lt (by omega)]
    · rw [c, Array.getElem?_setIfInBounds_ne (by omega), Array.getElem?_setIfInBounds_ne (by omega), Array.getElem?_setIfInBounds_ne (by omega), Array.getElem?_setIfInBounds_ne (by omega), Array.getElem?_setIfInBounds_self_of_lt (by simp; omega)]
    · rw [c, Array.getElem?_setIfInBounds_ne (by omega), Array.getElem?_setIfInBounds_ne (by omega), Array.getElem?_setIfInBounds_ne (by omega), Array.getElem?_setIfInBounds_self_of_lt (by simp; omega)]
    · rw [c, Array.getElem?_setIfInBounds_ne (by omega), Array.getElem?_setIfInBounds_ne (by omega), Array.getElem?_setIfInBounds_self_of_lt (by simp; omega)]
    · rw [c, Array.getElem?_setIfInBounds_ne (by omega), Array.getElem?_setIfInBounds_self_of_lt (by simp; omega)]
    · rw [c, Array.getElem?_setIfInBounds_self_of_lt (by simp; omega)]
theorem below_set {B : Nat} {w w' : World} (h : Below B w w') (g i : Nat) (hg : B ≤ g) (v : Value) : Below B w (w'.setCell ⟨g, i, none⟩ v) := h.setCell hg v
set_option maxHeartbeats 2000000 in
theorem toNodeS_any (a : Addr) (N cap : Nat) (nd : Nat → Nd) (w : World) (hN : N ≤ 1048576) (ha : a.block < w.heap.size) (hn : ∀ i, i < N → NodeA w (a.add (i * 6)) (nd i)) :
    Calls Tryd.prog 13 #[.slice (some a) N cap] w fun e w' => e = .returned (.slice (some ⟨w.heap.size, 0, none⟩) N N) ∧ NodesAt w' w.heap.size N nd ∧ w.heap.size < w'.heap.size ∧ Below w.heap.size w w' := by
  have HN := hid hn
  clear hn
  obtain ⟨i0, hi, hz0, hz1, hz2⟩ := info_parts info_nd
  have HHI := hid (And.intro hi (And.intro hz0 (And.intro hz1 hz2)))
  clear hi hz0 hz1
  go_enter Tryd.func13, Tryd.ntmps13
  go_wp2_with (at_make; refine wpList_make_full _ rfl _ _ 27 rfl w.heap.size 39 i0 (.agg #[.int .i64 0, .int .i64 0, .int .i64 0, .int .i64 0, .string ⟨#[]⟩, .int .i64 0]) 6 Tryd.underlying27 HHI.out.1 HHI.out.2.1 HHI.out.2.2.1 _ _ _ _ N rfl rfl rfl rfl (by rw [hz2]; omega) (by unfold maxLen; omega) (Nat.le_refl _) ?_; intro w1 o1 g1)
  have HF0 : Hid (Filling w1 w.heap.size N 0 nd) := by
    obtain ⟨h1, ⟨h2, _⟩ | ⟨g, c, cur, e, _, h4, _, _, h7, _⟩⟩ := o1
    · cases h2
    · cases e
      exact ⟨⟨cur, h4, h7⟩, fun i h => absurd h (Nat.not_lt_zero _)⟩
  have HB0 := hid ((Below.refl w.heap.size w).grown g1 (Nat.le_refl _) (fun q e => by cases e))
  clear o1 g1
  go_loopw [4] (fun i wr => ∃ j : Nat, j ≤ N ∧ i = .int .i64 j ∧ Filling wr w.heap.size N j nd ∧ Below w.heap.size w wr) (fun i _ => N - (intOf i).toNat)
  case atStart => exact ⟨0, Nat.zero_le _, rfl, HF0.out, HB0.out⟩
  case round =>
    obtain ⟨j, hj, rfl, hfi, hbw⟩ := hrel
    have HFI := hid hfi
    have HBW := hid hbw
    clear hfi hbw
    by_cases hlt : j < N
    · obtain ⟨c0, c1, c2, c3, c4, c5⟩ : NodeA wr (a.add (j * 6)) (nd j) := by
        rcases NodesA.below (.inr ⟨a, rfl, ha, HN.out⟩ : NodesA w (some a) N nd) HBW.out with h | ⟨a', e, _, h2⟩
        · omega
        · cases e; exact h2 j hlt
      go_wp2_with fail
      refine (toNode_any (nd j) _).mono ?_
      rintro e w2 ⟨rfl, hb2⟩
      have HB2 := hid hb2
      obtain ⟨⟨cur, hcur, hsz⟩, hno⟩ := HFI.out
      have hcur2 := (hb2.block _ (Array.getElem?_eq_some_iff.1 hcur).1).trans hcur
      have hidx : j * 6 + 5 < cur.size := by rw [hsz]; omega
      have HCUR := hid (And.intro hcur2 hsz)
      obtain ⟨⟨v0, x0⟩, ⟨v1, x1⟩, ⟨v2, x2⟩, ⟨v3, x3⟩, ⟨v4, x4⟩, ⟨v5, x5⟩, y0, y1, y2, y3, y4, y5⟩ := six_room hcur2 hidx
      clear hb2 hcur hcur2 hno
      simp only [ndV]
      go_wp2
      have HNX := hid (fill_step HCUR.out (HFI.out.2.below (HB2.out) (by have := HBW.out.size; obtain ⟨⟨_, hc, _⟩, _⟩ := HFI.out; exact (Array.getElem?_eq_some_iff.1 hc).1)) hlt)
      have HBX := hid (HBW.out.trans (HB2.out.mono HBW.out.size))
      go_roundw
      case rel => exact ⟨j + 1, by omega, by go_num, HNX.out, below_set (below_set (below_set (below_set (below_set (below_set HBX.out _ _ (Nat.le_refl _) _) _ _ (Nat.le_refl _) _) _ _ (Nat.le_refl _) _) _ _ (Nat.le_refl _) _) _ _ (Nat.le_refl _) _) _ _ (Nat.le_refl _) _⟩
      case measure => simp [intOf]; omega
    · obtain rfl : j = N := by omega
      go_wp2
      go_ret
      exact ⟨rfl, HFI.out.2, by have := HBW.out.size; obtain ⟨⟨cur, hc, _⟩, _⟩ := HFI.out; exact (Array.getElem?_eq_some_iff.1 hc).1, HBW.out⟩
end Go.Proofs.YtjbhadpdbcelcaaDoor.Q
