import Derived.OwnWalk
import Derived.Maps.AppendAt
import Derived.Deep.RegionLaw
import Derived.Lib.Slices
import Derived.Lib.Strings
import Derived.Lib.BufferRead
import Derived.Test.YtkngjbpbjjoneaaGreatDoorJ07
import Derived.Test.YtkngjbpbjjoneaaGreatDoorJ04
import Derived.Test.YtkngjbpbjjoneaaGreatDoorJ06b
import Derived.Test.YtkngjbpbjjoneaaGreatDoorJ05
import Derived.Test.YtkngjbpbjjoneaaGreatDoorJ06
import Derived.Test.YtkngjbpbjjoneaaGreatDoorJ08
namespace Go.Proofs.YtkngjbpbjjoneaaGreatDoor.Q
open Go.RowKit Go.Shelf
set_option maxRecDepth 20000
theorem info_nd : (Tryz.prog.info? 63).map (fun i => (i.zero, i.size, i.bytes)) = some (some (.agg #[.int .i64 0, .int .i64 0, .int .i64 0, .int .i64 0, .string ⟨#[]⟩, .int .i64 0]), 6, 56) := by kernel_rfl
/-- A row of n nodes that is being filled: block g has n * 6 cells; the first j nodes are there. -/
def Filling (W : World) (g n j : Nat) (nd : Nat → Nd) : Prop := (∃ cur, W.heap[g]? = some (.cells cur 63 (0, 0)) ∧ cur.size = n * 6) ∧ NodesAt W g j nd
theorem six_room {W : World} {g j : Nat} {cur : Array Value} {t : TypeId} (h : W.heap[g]? = some (.cells cur t (0, 0))) (hj : j * 6 + 5 < cur.size) :
    (∃ v, W.cell? ⟨g, j * 6, none⟩ = some v) ∧ (∃ v, W.cell? ⟨g, j * 6 + 1, none⟩ = some v) ∧ (∃ v, W.cell? ⟨g, j * 6 + 2, none⟩ = some v) ∧ (∃ v, W.cell? ⟨g, j * 6 + 3, none⟩ = some v) ∧ (∃ v, W.cell? ⟨g, j * 6 + 4, none⟩ = some v) ∧ (∃ v, W.cell? ⟨g, j * 6 + 5, none⟩ = some v) ∧
    W.frozen? ⟨g, j * 6, none⟩ = false ∧ W.frozen? ⟨g, j * 6 + 1, none⟩ = false ∧ W.frozen? ⟨g, j * 6 + 2, none⟩ = false ∧ W.frozen? ⟨g, j * 6 + 3, none⟩ = false ∧ W.frozen? ⟨g, j * 6 + 4, none⟩ = false ∧ W.frozen? ⟨g, j * 6 + 5, none⟩ = false := by
  have c : ∀ i, i < cur.size → ∃ v, W.cell? ⟨g, i, none⟩ = some v := fun i hi => ⟨cur[i], by unfold World.cell?; rw [h]; simp [hi]⟩
  have f : ∀ i, W.frozen? ⟨g, i, none⟩ = false := fun i => by unfold World.frozen?; rw [h]; simp
  exact ⟨c _ (by omega), c _ (by omega), c _ (by omega), c _ (by omega), c _ (by omega), c _ (by omega), f _, f _, f _, f _, f _, f _⟩
theorem set_at {W : World} {g i : Nat} {cur : Array Value} {t : TypeId} (v : Value) (h : W.heap[g]? = some (.cells cur t (0, 0))) : (W.setCell ⟨g, i, none⟩ v).heap[g]? = some (.cells (cur.setIfInBounds i v) t (0, 0)) := by
  unfold World.setCell
  simp only [Array.getElem?_modify, h]
  simp
theorem fill_step {W : World} {g N j : Nat} {nd : Nat → Nd} {cur : Array Value} (h : W.heap[g]? = some (.cells cur 63 (0, 0)) ∧ cur.size = N * 6) (hno : NodesAt W g j nd) (hj : j < N) :
    Filling ((((((W.setCell ⟨g, j * 6, none⟩ (.int .i64 (nd j).kind)).setCell ⟨g, j * 6 + 1, none⟩ (.int .i64 (nd j).op)).setCell ⟨g, j * 6 + 2, none⟩ (.int .i64 (nd j).ty)).setCell ⟨g, j * 6 + 3, none⟩ (.int .i64 (nd j).n)).setCell ⟨g, j * 6 + 4, none⟩ (.string (nd j).text)).setCell ⟨g, j * 6 + 5, none⟩ (.int .i64 (nd j).kids)) g N (j + 1) nd := by
  obtain ⟨h1, h2⟩ := h
  have e := (set_at (.int .i64 (nd j).kids) (i := j * 6 + 5) (set_at (.string (nd j).text) (i := j * 6 + 4) (set_at (.int .i64 (nd j).n) (i := j * 6 + 3) (set_at (.int .i64 (nd j).ty) (i := j * 6 + 2) (set_at (.int .i64 (nd j).op) (i := j * 6 + 1) (set_at (.int .i64 (nd j).kind) (i := j * 6) h1))))))
  refine ⟨⟨_, e, by simp [h2]⟩, ?_⟩
  have c : ∀ i, World.cell? ((((((W.setCell ⟨g, j * 6, none⟩ (.int .i64 (nd j).kind)).setCell ⟨g, j * 6 + 1, none⟩ (.int .i64 (nd j).op)).setCell ⟨g, j * 6 + 2, none⟩ (.int .i64 (nd j).ty)).setCell ⟨g, j * 6 + 3, none⟩ (.int .i64 (nd j).n)).setCell ⟨g, j * 6 + 4, none⟩ (.string (nd j).text)).setCell ⟨g, j * 6 + 5, none⟩ (.int .i64 (nd j).kids)) ⟨g, i, none⟩ = (((((((cur.setIfInBounds (j * 6) (.int .i64 (nd j).kind)).setIfInBounds (j * 6 + 1) (.int .i64 (nd j).op)).setIfInBounds (j * 6 + 2) (.int .i64 (nd j).ty)).setIfInBounds (j * 6 + 3) (.int .i64 (nd j).n)).setIfInBounds (j * 6 + 4) (.string (nd j).text)).setIfInBounds (j * 6 + 5) (.int .i64 (nd j).kids)))[i]? := fun i => by
    unfold World.cell?
    rw [e]; rfl
  have o : ∀ i, W.cell? ⟨g, i, none⟩ = cur[i]? := fun i => by
    unfold World.cell?
    rw [h1]; rfl
  have low : ∀ i, i < j * 6 → World.cell? ((((((W.setCell ⟨g, j * 6, none⟩ (.int .i64 (nd j).kind)).setCell ⟨g, j * 6 + 1, none⟩ (.int .i64 (nd j).op)).setCell ⟨g, j * 6 + 2, none⟩ (.int .i64 (nd j).ty)).setCell ⟨g, j * 6 + 3, none⟩ (.int .i64 (nd j).n)).setCell ⟨g, j * 6 + 4, none⟩ (.string (nd j).text)).setCell ⟨g, j * 6 + 5, none⟩ (.int .i64 (nd j).kids)) ⟨g, i, none⟩ = W.cell? ⟨g, i, none⟩ := fun i hi => by
    rw [c, o, Array.getElem?_setIfInBounds_ne (by omega), Array.getElem?_setIfInBounds_ne (by omega), Array.getElem?_setIfInBounds_ne (by omega), Array.getElem?_setIfInBounds_ne (by omega), Array.getElem?_setIfInBounds_ne (by omega), Array.getElem?_setIfInBounds_ne (by omega)]
  intro i hi
  rcases Nat.lt_or_eq_of_le (Nat.lt_succ_iff.1 hi) with h | h
  · obtain ⟨d0, d1, d2, d3, d4, d5⟩ := hno i h
    exact ⟨(low _ (by omega)).trans d0, (low _ (by omega)).trans d1, (low _ (by omega)).trans d2, (low _ (by omega)).trans d3, (low _ (by omega)).trans d4, (low _ (by omega)).trans d5⟩
  · subst h
    have hb : i * 6 + 5 < cur.size := by rw [h2]; omega
    refine ⟨?_, ?_, ?_, ?_, ?_, ?_⟩
    · rw [c, Array.getElem?_setIfInBounds_ne (by omega), Array.getElem?_setIfInBounds_ne (by omega), Array.getElem?_setIfInBounds_ne (by omega), Array.getElem?_setIfInBounds_ne (by omega), Array.getElem?_setIfInBounds_ne (by omega), Array.getElem?_setIfInBounds_self_of_lt (by omega)]
    · rw [c, Array.getElem?_setIfInBounds_ne (by omega), Array.getElem?_setIfInBounds_ne (by omega), Array.getElem?_setIfInBounds_ne (by omega), Array.getElem?_setIfInBounds_ne (by omega), Array.getElem?_setIfInBounds_self_of_lt (by simp; omega)]
    · rw [c, Array.getElem?_setIfInBounds_ne (by omega), Array.getElem?_setIfInBounds_ne (by omega), Array.getElem?_setIfInBounds_ne (by omega), Array.getElem?_setIfInBounds_self_of_lt (by simp; omega)]
    · rw [c, Array.getElem?_setIfInBounds_ne (by omega), Array.getElem?_setIfInBounds_ne (by omega), Array.getElem?_setIfInBounds_self_of_lt (by simp; omega)]
    · rw [c, Array.getElem?_setIfInBounds_ne (by omega), Array.getElem?_setIfInBounds_self_of_lt (by simp; omega)]
    · rw [c, Array.getElem?_setIfInBounds_self_of_lt (by simp; omega)]
theorem below_set {B : Nat} {w w' : World} (h : Below B w w') (g i : Nat) (hg : B ≤ g) (v : Value) : Below B w (w'.setCell ⟨g, i, none⟩ v) := h.setCell hg v
set_option maxHeartbeats 2000000 in
theorem toNodeS_any (a : Addr) (N cap : Nat) (nd : Nat → Nd) (w : World) (hN : N ≤ 1048576) (ha : a.block < w.heap.size) (hn : ∀ i, i < N → NodeA w (a.add (i * 6)) (nd i)) :
    Calls Tryz.prog 13 #[.slice (some a) N cap] w fun e w' => e = .returned (.slice (some ⟨w.heap.size, 0, none⟩) N N) ∧ NodesAt w' w.heap.size N nd ∧ w.heap.size < w'.heap.size ∧ Below w.heap.size w w' := by
  have HN := hid hn
  clear hn
  obtain ⟨i0, hi, hz0, hz1, hz2⟩ := info_parts info_nd
  have HHI := hid (And.intro hi (And.intro hz0 (And.intro hz1 hz2)))
  clear hi hz0 hz1
  go_enter Tryz.func13, Tryz.ntmps13
  go_wp2_with (at_make; refine wpList_make_full _ rfl _ _ 27 rfl w.heap.size 63 i0 (.agg #[.int .i64 0, .int .i64 0, .int .i64 0, .int .i64 0, .string ⟨#[]⟩, .int .i64 0]) 6 Tryz.underlying27 HHI.out.1 HHI.out.2.1 HHI.out.2.2.1 _ _ _ _ N rfl rfl rfl rfl (by rw [hz2]; omega) (by unfold maxLen; omega) (Nat.le_refl _) ?_; intro w1 o1 g1)
  have HF0 : Hid (Filling w1 w.heap.size N 0 nd) := by
    obtain ⟨h1, ⟨h2, _⟩ | ⟨g, c, cur, e, _, h4, _, _, h7, _⟩⟩ := o1
    · cases h2
    · cases e
      exact ⟨⟨cur, h4, h7⟩, fun i h => absurd h (Nat.not_lt_zero _)⟩
  have HB0 := hid ((Below.refl w.heap.size w).grown g1 (Nat.le_refl _) (fun q e => by cases e))
  clear o1 g1
  go_loopw [4] (fun i wr => ∃ j : Nat, j ≤ N ∧ i = .int .i64 j ∧ Filling wr w.heap.size N j nd ∧ Below w.heap.size w wr) (fun i _ => N - (intOf i).toNat)
  case atStart => exact ⟨0, Nat.zero_le _, rfl, HF0.out, HB0.out⟩
  case round =>
    obtain ⟨j, hj, rfl, hfi, hbw⟩ := hrel
    have HFI := hid hfi
    have HBW := hid hbw
    clear hfi hbw
    by_cases hlt : j < N
    · obtain ⟨c0, c1, c2, c3, c4, c5⟩ : NodeA wr (a.add (j * 6)) (nd j) := by
        rcases NodesA.below (.inr ⟨a, rfl, ha, HN.out⟩ : NodesA w (some a) N nd) HBW.out with h | ⟨a', e, _, h2⟩
        · omega
        · cases e; exact h2 j hlt
      go_wp2_with fail
      refine (toNode_any (nd j) _).mono ?_
      rintro e w2 ⟨rfl, hb2⟩
      have HB2 := hid hb2
      obtain ⟨⟨cur, hcur, hsz⟩, hno⟩ := HFI.out
      have hcur2 := (hb2.block _ (Array.getElem?_eq_some_iff.1 hcur).1).trans hcur
      have hidx : j * 6 + 5 < cur.size := by rw [hsz]; omega
      have HCUR := hid (And.intro hcur2 hsz)
      obtain ⟨⟨v0, x0⟩, ⟨v1, x1⟩, ⟨v2, x2⟩, ⟨v3, x3⟩, ⟨v4, x4⟩, ⟨v5, x5⟩, y0, y1, y2, y3, y4, y5⟩ := six_room hcur2 hidx
      clear hb2 hcur hcur2 hno
      simp only [ndV]
      go_wp2
      have HNX := hid (fill_step HCUR.out (HFI.out.2.below (HB2.out) (by have := HBW.out.size; obtain ⟨⟨_, hc, _⟩, _⟩ := HFI.out; exact (Array.getElem?_eq_some_iff.1 hc).1)) hlt)
      have HBX := hid (HBW.out.trans (HB2.out.mono HBW.out.size))
      go_roundw
      case rel => exact ⟨j + 1, by omega, by go_num, HNX.out, below_set (below_set (below_set (below_set (below_set (below_set HBX.out _ _ (Nat.le_refl _) _) _ _ (Nat.le_refl _) _) _ _ (Nat.le_refl _) _) _ _ (Nat.le_refl _) _) _ _ (Nat.le_refl _) _) _ _ (Nat.le_refl _) _⟩
      case measure => simp [intOf]; omega
    · obtain rfl : j = N := by omega
      go_wp2
      go_ret
      exact ⟨rfl, HFI.out.2, by have := HBW.out.size; obtain ⟨⟨cur, hc, _⟩, _⟩ := HFI.out; exact (Array.getElem?_eq_some_iff.1 hc).1, HBW.out⟩
end Go.Proofs.YtkngjbpbjjoneaaGreatDoor.Q
/-! Printed by gen_fld.py. -/
namespace Go.Proofs.YtkngjbpbjjoneaaGreatDoor.Q
open Go.RowKit Go.Shelf
set_option maxRecDepth 20000
theorem millIsType_nz (t : Int) (h : (t == 0) = false) (w : World) :
    Calls Tryz.prog 50 #[.int .i64 t] w fun e w' => e = .returned (.bool (decide (0 ≤ t) && decide (t ≤ 10))) ∧ w' = w :=
  (millIsType_int t w).mono fun e w' ⟨h1, h2⟩ => ⟨by
    rw [h1]
    rw [beq_eq_false_iff_ne] at h
    exact ret_bool (by rw [Bool.eq_iff_iff]; simp; omega), h2⟩
def UF (k : Int) : Prop := ∀ (op ty n kids : Int) (t : ByteArray) (r : Nat) (w : World), t.size ≤ maxLen → w.heap[r]? = some (.map (mwE 35) 35) → Calls Tryz.prog 27 #[ndV ⟨k, op, ty, n, t, kids⟩, .map (some r)] w fun e w' => Says e (PlainNd ⟨k, op, ty, n, t, kids⟩) ∧ Below w.heap.size w w'
theorem below_two (w : World) (a b : Obj) : Below w.heap.size w ((w.alloc a).alloc b) := ((Below.refl _ _).alloc (Nat.le_refl _) a).alloc (by simp) b
theorem two_rows {w w1 : World} {a0 a1 a2 a3 a4 a5 b0 b1 b2 b3 b4 b5 : Value} {t u : TypeId} (h : Below ((w.alloc (.cells #[a0, a1, a2, a3, a4, a5] t)).alloc (.cells #[b0, b1, b2, b3, b4, b5] u)).heap.size ((w.alloc (.cells #[a0, a1, a2, a3, a4, a5] t)).alloc (.cells #[b0, b1, b2, b3, b4, b5] u)) w1) :
    (w1.cell? ⟨w.heap.size, 0, none⟩ = some a0 ∧ w1.cell? ⟨w.heap.size, 1, none⟩ = some a1 ∧ w1.cell? ⟨w.heap.size, 2, none⟩ = some a2 ∧ w1.cell? ⟨w.heap.size, 3, none⟩ = some a3 ∧ w1.cell? ⟨w.heap.size, 4, none⟩ = some a4 ∧ w1.cell? ⟨w.heap.size, 5, none⟩ = some a5) ∧
    (w1.cell? ⟨w.heap.size + 1, 0, none⟩ = some b0 ∧ w1.cell? ⟨w.heap.size + 1, 1, none⟩ = some b1 ∧ w1.cell? ⟨w.heap.size + 1, 2, none⟩ = some b2 ∧ w1.cell? ⟨w.heap.size + 1, 3, none⟩ = some b3 ∧ w1.cell? ⟨w.heap.size + 1, 4, none⟩ = some b4 ∧ w1.cell? ⟨w.heap.size + 1, 5, none⟩ = some b5) ∧ Below w.heap.size w w1 := by
  have f : ∀ i, w1.cell? ⟨w.heap.size, i, none⟩ = #[a0, a1, a2, a3, a4, a5][i]? := fun i => by
    rw [h.cell (p := ⟨w.heap.size, i, none⟩) (by simp; omega)]
    rw [((Below.refl (w.heap.size + 1) (w.alloc (.cells #[a0, a1, a2, a3, a4, a5] t))).alloc (by simp) _).cell (p := ⟨w.heap.size, i, none⟩) (Nat.lt_succ_self _), cell_new_row]
  have g : ∀ i, w1.cell? ⟨w.heap.size + 1, i, none⟩ = #[b0, b1, b2, b3, b4, b5][i]? := fun i => by
    rw [h.cell (p := ⟨w.heap.size + 1, i, none⟩) (by simp)]
    have := cell_new_row (w.alloc (.cells #[a0, a1, a2, a3, a4, a5] t)) #[b0, b1, b2, b3, b4, b5] u i
    rwa [World.size_alloc] at this
  exact ⟨⟨f 0, f 1, f 2, f 3, f 4, f 5⟩, ⟨g 0, g 1, g 2, g 3, g 4, g 5⟩, (below_two w _ _).trans (h.mono (by simp; omega))⟩
end Go.Proofs.YtkngjbpbjjoneaaGreatDoor.Q
namespace Go.Proofs.YtkngjbpbjjoneaaGreatDoor.Q
open Go.RowKit Go.Shelf
set_option maxRecDepth 20000
def sdCells (k : Int) (h : Nat) : List Value := [.int .i64 k, .int .i64 h]
/-- The row of what is open. -/
def sdRow (nd : Nat → Nd) (hs s : List Nat) : List Value := s.flatMap fun x => sdCells (nd x).kind (hs.getD x 0)
theorem sdRow_length (nd : Nat → Nd) (hs s : List Nat) : (sdRow nd hs s).length = s.length * 2 := by
  induction s with
  | nil => rfl
  | cons x s ih => simp [sdRow, sdCells] at ih ⊢; omega
theorem sdRow_append (nd : Nat → Nd) (hs s t : List Nat) : sdRow nd hs (s ++ t) = sdRow nd hs s ++ sdRow nd hs t := by simp [sdRow]
theorem sdRow_grow (nd : Nat → Nd) (hs : List Nat) (h : Nat) (s : List Nat) (hl : ∀ x ∈ s, x < hs.length) : sdRow nd (hs ++ [h]) s = sdRow nd hs s := by
  induction s with
  | nil => rfl
  | cons x s ih =>
    have e : (hs ++ [h]).getD x 0 = hs.getD x 0 := by
      rw [List.getD_eq_getElem?_getD, List.getD_eq_getElem?_getD, List.getElem?_append_left (hl x (by simp))]
    have := ih (fun y hy => hl y (by simp [hy]))
    simp only [sdRow, List.flatMap_cons] at this ⊢
    rw [this, e]
theorem sdRow_snoc (nd : Nat → Nd) (hs : List Nat) (h j : Nat) (s : List Nat) (hl : ∀ x ∈ s, x < hs.length) (hj : hs.length = j) : sdRow nd (hs ++ [h]) (s ++ [j]) = sdRow nd hs s ++ sdCells (nd j).kind h := by
  rw [sdRow_append, sdRow_grow nd hs h s hl]
  congr 1
  have e : (hs ++ [h]).getD j 0 = h := by rw [List.getD_eq_getElem?_getD, List.getElem?_append_right (by omega), hj]; simp
  simp only [sdRow, List.flatMap_cons, List.flatMap_nil, List.append_nil]
  rw [e]
theorem sdRow_get (nd : Nat → Nd) (hs s : List Nat) (i : Nat) (hi : i < s.length) (t : Nat) (ht : t < 2) : (sdRow nd hs s)[i * 2 + t]? = (sdCells (nd (s.getD i 0)).kind (hs.getD (s.getD i 0) 0))[t]? := by
  induction s generalizing i with
  | nil => simp at hi
  | cons x s ih =>
    simp only [sdRow, List.flatMap_cons] at ih ⊢
    cases i with
    | zero => rw [List.getElem?_append_left (by simp [sdCells]; omega)]; simp
    | succ i =>
      rw [List.getElem?_append_right (by simp [sdCells]; omega)]
      have := ih i (by simpa using hi)
      rw [show (i + 1) * 2 + t - (sdCells (nd x).kind (hs.getD x 0)).length = i * 2 + t by simp [sdCells]; omega, this]
      simp
/-- The row lies in block g. -/
def SdAt (W : World) (g cap n : Nat) (xs : List Value) : Prop := xs.length = n * 2 ∧ n ≤ cap ∧ cap ≤ maxLen ∧ ∃ cur, W.heap[g]? = some (.cells cur 75 (0, 0)) ∧ cur.size = cap * 2 ∧ cur.toList.take (n * 2) = xs
theorem SdAt.own {W : World} {B g cap n : Nat} {xs : List Value} (h : SdAt W g cap n xs) (hB : B ≤ g) : W.ownsRow B 75 2 (.slice (some ⟨g, 0, none⟩) n cap) n xs := by
  obtain ⟨h1, h2, h3, cur, h4, h5, h6⟩ := h
  exact ⟨h1, .inr ⟨g, cap, cur, rfl, hB, h4, h2, h3, h5, h6⟩⟩
theorem SdAt.of_own {W : World} {B : Nat} {v : Value} {n : Nat} {xs : List Value} (h : W.ownsRow B 75 2 v n xs) : v = .slice none 0 0 ∧ n = 0 ∧ xs = [] ∨ ∃ g cap, v = .slice (some ⟨g, 0, none⟩) n cap ∧ B ≤ g ∧ SdAt W g cap n xs := by
  obtain ⟨h1, ⟨h2, h2b⟩ | ⟨g, cap, cur, h2, h3, h4, h5, h6, h7, h8⟩⟩ := h
  · exact .inl ⟨h2, h2b, List.length_eq_zero_iff.1 (by rw [h1, h2b])⟩
  · exact .inr ⟨g, cap, h2, h3, h1, h5, h6, cur, h4, h7, h8⟩
theorem own_nil (W : World) (B : Nat) : W.ownsRow B 75 2 (.slice none 0 0) 0 [] := ⟨rfl, .inl ⟨rfl, rfl⟩⟩
theorem SdAt.lt {W : World} {g cap n : Nat} {xs : List Value} (h : SdAt W g cap n xs) : g < W.heap.size := by
  obtain ⟨_, _, _, cur, h4, _⟩ := h
  exact (Array.getElem?_eq_some_iff.1 h4).1
theorem SdAt.below {W W' : World} {g cap n : Nat} {xs : List Value} (h : SdAt W g cap n xs) (hb : Below W.heap.size W W') : SdAt W' g cap n xs := by
  have hl := h.lt
  obtain ⟨h1, h2, h3, cur, h4, h5⟩ := h
  exact ⟨h1, h2, h3, cur, (hb.block g hl).trans h4, h5⟩
theorem SdAt.front {W : World} {g cap n p : Nat} {xs ys : List Value} (h : SdAt W g cap n (xs ++ ys)) (hp : xs.length = p * 2) : SdAt W g cap p xs := by
  obtain ⟨h1, h2, h3, cur, h4, h5, h6⟩ := h
  rw [List.length_append] at h1
  refine ⟨hp, by omega, h3, cur, h4, h5, ?_⟩
  have : (cur.toList.take (n * 2)).take (p * 2) = (xs ++ ys).take (p * 2) := by rw [h6]
  rw [List.take_take, Nat.min_eq_left (by omega)] at this
  rw [this, ← hp]; simp
theorem SdAt.cell {W : World} {g cap n : Nat} {xs : List Value} (h : SdAt W g cap n xs) (i : Nat) (hi : i < n * 2) : W.cell? ⟨g, i, none⟩ = xs[i]? := by
  obtain ⟨h1, h2, h3, cur, h4, h5, h6⟩ := h
  have e1 : W.cell? ⟨g, i, none⟩ = cur[i]? := by unfold World.cell?; rw [h4]; rfl
  rw [e1, ← h6, List.getElem?_take_of_lt hi]; simp
theorem SdAt.stand {W : World} {g cap : Nat} {nd : Nat → Nd} {hs sp sk : List Nat} {n p : Nat} (h : SdAt W g cap n (sdRow nd hs (sp ++ sk))) (hp : sp.length = p) : StandAt W g (p * 2) sk.length (fun i => (nd (sk.getD i 0)).kind) (fun i => hs.getD (sk.getD i 0) 0) := by
  intro i hi
  have hn : n * 2 = (sp.length + sk.length) * 2 := by rw [← h.1, sdRow_length, List.length_append]
  have e : (sp ++ sk).getD (p + i) 0 = sk.getD i 0 := by
    rw [List.getD_eq_getElem?_getD, List.getD_eq_getElem?_getD, List.getElem?_append_right (by omega), hp, Nat.add_sub_cancel_left]
  have f : ∀ t, t < 2 → W.cell? ⟨g, p * 2 + i * 2 + t, none⟩ = (sdCells (nd (sk.getD i 0)).kind (hs.getD (sk.getD i 0) 0))[t]? := fun t ht => by
    rw [h.cell _ (by omega), show p * 2 + i * 2 + t = (p + i) * 2 + t by omega, sdRow_get nd hs _ (p + i) (by rw [List.length_append]; omega) t ht, e]
  exact ⟨f 0 (by omega), f 1 (by omega)⟩
/-- 'append' to a row of the call's own, as one step of a region that draws its order. -/
theorem step_append_own_at {P : Program} {ops : Array Oper} {o : Oper} {a : Act} {w : World} {K : Act → World → Prop} {Q : Exit → Act → World → Prop} {E : Prop} (hg : o.guard = none) (s x : Operand) (t : TypeId)
    (hop : o.op = Op.call { callee := Callee.builtin Builtin.append, args := #[s, x], argTypes := #[t, t] })
    (base : Nat) (e : TypeId) (i : TypeInfo) (z : Value) (size bytes : Nat) (ht : P.underlying t = some (.slice e)) (hi : P.info? e = some i) (hz : i.zero = some z)
    (hsize : i.size = size) (hby : i.bytes = bytes) (hzs : z.cells.size = size) (hsz : 0 < size)
    (v : Value) (n : Nat) (xs : List Value) (hs : a.eval s = v) (hown : w.ownsRow base e size v n xs)
    (ad : Addr) (m c : Nat) (news : List Value) (hx : a.eval x = .slice (some ad) m c) (hl : news.length = m * size) (hnews : ∀ j u, news[j]? = some u → w.cell? (ad.add j) = some u) (h1 : ∀ u ∈ news, u.oneCell' = true)
    (h63 : n + m ≤ maxLen) (hbytes : (n + m) * bytes ≤ 140737488355328) (hbase : base ≤ w.heap.size)
    (h : ∀ v' w', w'.ownsRow base e size v' (n + m) (xs ++ news) → w.grownBy w' v.ownBlock → (v' = .slice none 0 0 ↔ v = .slice none 0 0 ∧ m = 0) → (v'.ownBlock = v.ownBlock ∨ v'.ownBlock = some w.heap.size) → K (a.put o.dst v') w') :
    if Region.wanted o (yielded ops a.tmps) = true then Oper.wp P o a w K Q else E := by
  have hw : Region.wanted o (yielded ops a.tmps) = true := by simp [Region.wanted, hg]
  rw [if_pos hw]
  obtain ⟨v', w', hr, h2, h3, h4, h5⟩ := run_append_own_at (P := P) w base t o.type e i z size bytes ht hi hz hsize hby hzs hsz v n xs hown ad m c news hl hnews h1 h63 hbytes hbase
  unfold Oper.wp
  simp [execOp, hop, resolve, invoke, builtin, hs, hx, hr, Result.andThen]
  exact h v' w' h2 h3 h4 h5
end Go.Proofs.YtkngjbpbjjoneaaGreatDoor.Q
/-! The model's leaves of writing: decimals, marks, words. -/
namespace Go.Proofs.YtkngjbpbjjoneaaGreatDoor.Q
open Go.RowKit Go.Shelf
set_option maxRecDepth 20000
/-- 'string(b)' of a row that the call owns. -/
theorem conv_row (w : World) (base : Nat) (v : Value) (l : List UInt8) (h : w.ownsRow base 5 1 v l.length (Lib.byteCells l)) :
    (convert 41 9 v).run Tryz.prog w = .ok (.string ⟨l.toArray⟩) w := by
  obtain ⟨_, ⟨rfl, h0⟩ | ⟨g, cap, cur, rfl, _, hg, _, _, _, htk⟩⟩ := h
  · have e : l = [] := List.eq_nil_of_length_eq_zero h0
    subst e
    exact Lib.run_convert_nil_bytes w _ _ 5 0 Tryz.underlying41 Tryz.underlying5 Tryz.underlying9
  · exact run_convert_bytes_back w _ _ 5 _ cap l Tryz.underlying41 Tryz.underlying5 Tryz.underlying9 (Lib.bytes_of_row hg (by rw [Nat.mul_one] at htk; exact htk))
theorem conv_one (w : World) (c : UInt8) (x : Int) (hx : x = c.toNat) : (convert 41 9 (.slice (some ⟨w.heap.size, 0, none⟩) 1 1)).run Tryz.prog (w.alloc (.cells #[.int .u8 x] 5)) = .ok (.string ⟨#[c]⟩) (w.alloc (.cells #[.int .u8 x] 5)) := by
  subst hx
  exact conv_row _ w.heap.size _ [c] ⟨rfl, .inr ⟨w.heap.size, 1, #[.int .u8 c.toNat], rfl, Nat.le_refl _, heap_alloc_new w _, Nat.le_refl _, by unfold maxLen; omega, rfl, rfl⟩⟩
theorem dig_nat (k : Nat) (h : k < 10) : (48 : Int) + (k : Int) = ((UInt8.ofNat (48 + k)).toNat : Int) := by
  have : (UInt8.ofNat (48 + k)).toNat = 48 + k := by simp; omega
  rw [this]; omega
set_option maxHeartbeats 1000000 in
theorem l11UnMark_any (op : Int) (h1 : 1 ≤ op) (h2 : op ≤ 3) (w : World) :
    Calls Tryz.prog 86 #[.int .i64 op] w fun e w' => e = .returned (.string ⟨(unB op).toArray⟩) ∧ w' = w := by
  obtain rfl | rfl | rfl : op = 1 ∨ op = 2 ∨ op = 3 := by omega
  all_goals go_enter Tryz.func86, Tryz.ntmps86
  all_goals go_wp2
  all_goals go_ret
  all_goals exact ⟨rfl, rfl⟩
set_option maxHeartbeats 1000000 in
theorem l11Mark_any (op : Int) (h1 : 1 ≤ op) (h2 : op ≤ 18) (w : World) :
    Calls Tryz.prog 88 #[.int .i64 op] w fun e w' => (∃ r, e = .returned (.tuple #[.string ⟨(mkB op).toArray⟩, .int .i64 r])) ∧ w' = w := by
  obtain rfl | rfl | rfl | rfl | rfl | rfl | rfl | rfl | rfl | rfl | rfl | rfl | rfl | rfl | rfl | rfl | rfl | rfl : op = 1 ∨ op = 2 ∨ op = 3 ∨ op = 4 ∨ op = 5 ∨ op = 6 ∨ op = 7 ∨ op = 8 ∨ op = 9 ∨ op = 10 ∨ op = 11 ∨ op = 12 ∨ op = 13 ∨ op = 14 ∨ op = 15 ∨ op = 16 ∨ op = 17 ∨ op = 18 := by omega
  all_goals go_enter Tryz.func88, Tryz.ntmps88
  all_goals go_wp2
  all_goals go_ret2
  all_goals exact ⟨⟨_, rfl⟩, rfl⟩
set_option maxHeartbeats 1000000 in
theorem builtWord_any (op : Int) (h1 : 1 ≤ op) (h2 : op ≤ 12) (w : World) :
    Calls Tryz.prog 44 #[.int .i64 op] w fun e w' => (∃ r, e = .returned (.tuple #[.string ⟨(bwB op).toArray⟩, .int .i64 r])) ∧ w' = w := by
  obtain rfl | rfl | rfl | rfl | rfl | rfl | rfl | rfl | rfl | rfl | rfl | rfl : op = 1 ∨ op = 2 ∨ op = 3 ∨ op = 4 ∨ op = 5 ∨ op = 6 ∨ op = 7 ∨ op = 8 ∨ op = 9 ∨ op = 10 ∨ op = 11 ∨ op = 12 := by omega
  all_goals go_enter Tryz.func44, Tryz.ntmps44
  all_goals go_wp2
  all_goals go_ret2
  all_goals exact ⟨⟨_, rfl⟩, rfl⟩
theorem typeWord_any (t : Int) (h1 : 1 ≤ t) (h2 : t ≤ 10) (w : World) :
    Calls Tryz.prog 23 #[.int .i64 t] w fun e w' => e = .returned (.string ⟨(twB t).toArray⟩) ∧ w' = w := by
  obtain ⟨T, rfl⟩ := Int.eq_ofNat_of_zero_le (show 0 ≤ t by omega)
  exact l10TypeWord_any T (by omega) (by omega) w
end Go.Proofs.YtkngjbpbjjoneaaGreatDoor.Q
