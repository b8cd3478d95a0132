import Derived.OwnWalk
import Derived.ProofKit
import Derived.Deep.Slices
import Derived.Test.YtpobfklbbkdglaaDoorJBase
import Derived.Test.YtpobfklbbkdglaaDoorJHigh
import Derived.Test.YtpobfklbbkdglaaDoorJVValid
namespace Go.Proofs.YtpobfklbbkdglaaDoor
open Go.RowKit
set_option maxRecDepth 20000
/-- The five cells of a node at an address. -/
def FiveA (W : World) (a : Addr) (x : Nd) : Prop :=
  W.cell? a = some (.int .i64 x.kind) ∧ W.cell? ⟨a.block, a.off + 1, none⟩ = some (.int .i64 x.op) ∧ W.cell? ⟨a.block, a.off + 2, none⟩ = some (.int .i64 x.n) ∧ W.cell? ⟨a.block, a.off + 3, none⟩ = some (.string x.text) ∧ W.cell? ⟨a.block, a.off + 4, none⟩ = some (.int .i64 x.kids)
theorem add_block (a : Addr) (n : Nat) : (a.add n).block = a.block := by unfold Addr.add; split <;> rfl
/-- N nodes that came in. -/
def NodesA (W : World) (ad : Option Addr) (N : Nat) (nd : Nat → Nd) : Prop := N = 0 ∨ ∃ a, ad = some a ∧ a.block < W.heap.size ∧ ∀ i, i < N → FiveA W (a.add (i * 5)) (nd i)
theorem NodesA.below {W W' : World} {ad : Option Addr} {N : Nat} {nd : Nat → Nd} (h : NodesA W ad N nd) (hb : Below W.heap.size W W') : NodesA W' ad N nd := by
  rcases h with h | ⟨a, rfl, h1, h2⟩
  · exact .inl h
  · refine .inr ⟨a, rfl, Nat.lt_of_lt_of_le h1 hb.size, fun i hi => ?_⟩
    have hk : ∀ p : Addr, p.block = a.block → W'.cell? p = W.cell? p := fun p hp => hb.cell (by rw [hp]; exact h1)
    obtain ⟨c0, c1, c2, c3, c4⟩ := h2 i hi
    exact ⟨(hk _ (add_block a _)).trans c0, (hk ⟨_, _, none⟩ (add_block a _)).trans c1, (hk ⟨_, _, none⟩ (add_block a _)).trans c2, (hk ⟨_, _, none⟩ (add_block a _)).trans c3, (hk ⟨_, _, none⟩ (add_block a _)).trans c4⟩
theorem below_two' (w : World) (a b : Obj) : Below w.heap.size w ((w.alloc a).alloc b) := ((Below.refl _ _).alloc (Nat.le_refl _) a).alloc (by simp) b
set_option maxHeartbeats 1000000 in
theorem szNode_any (x : Nd) (l : Int) (w : World) (hl : 0 ≤ l) (hl2 : l ≤ 1048576) (ht : x.text.size ≤ maxLen) :
    Calls Tryd.prog 41 #[ndV x, .int .i64 l] w fun e w' => e = .returned (.int .i64 (if l < x.text.size then -1 else l - x.text.size)) ∧ Below w.heap.size w w' := by
  obtain ⟨k, op, n, t, kids⟩ := x
  unfold maxLen at ht
  have ht' : t.size ≤ 9223372036854775807 := by simpa using ht
  clear ht
  unfold ndV
  by_cases h : l < t.size
  · have h2 : l - (t.size : Int) < 0 := by omega
    go_enter Tryd.func41, Tryd.ntmps41
    go_wp2
    go_ret
    exact ⟨ret_int (by simp), (Below.refl _ _).alloc (Nat.le_refl _) _⟩
  · have h2 : ¬ l - (t.size : Int) < 0 := by omega
    go_enter Tryd.func41, Tryd.ntmps41
    go_wp2
    go_ret
    exact ⟨ret_int (by simp), (Below.refl _ _).alloc (Nat.le_refl _) _⟩
set_option maxHeartbeats 1000000 in
theorem toNode_any (x : Nd) (w : World) :
    Calls Tryd.prog 48 #[ndV x] w fun e w' => e = .returned (ndV x) ∧ Below w.heap.size w w' := by
  obtain ⟨k, op, n, t, kids⟩ := x
  unfold ndV
  go_enter Tryd.func48, Tryd.ntmps48
  go_wp2
  refine bodyPost_ret (v := .agg #[.int .i64 k, .int .i64 op, .int .i64 n, .string t, .int .i64 kids]) ?_ rfl ⟨rfl, ?_⟩
  · simp [results, Tryd.results48, go_sem]
  · exact (below_two' _ _ _).alloc (by simp; omega) _
set_option maxHeartbeats 1000000 in
theorem szNodeS_any (a : Addr) (N cap : Nat) (nd : Nat → Nd) (w : World) (hN : N ≤ maxLen) (ha : a.block < w.heap.size) (hn : ∀ i, i < N → FiveA w (a.add (i * 5)) (nd i)) (ht : ∀ i, i < N → (nd i).text.size ≤ maxLen) :
    Calls Tryd.prog 24 #[.slice (some a) N cap, .int .i64 1048576] w fun e w' => (∃ r, e = .returned (.int .i64 r) ∧ -1 ≤ r ∧ r ≤ 1048576 ∧ (0 ≤ r → N ≤ 1048576 ∧ ∀ i, i < N → (nd i).text.size ≤ 1048576)) ∧ Below w.heap.size w w' := by
  have HN := hid hn
  have HT := hid ht
  unfold maxLen at hN
  have hN' : N ≤ 9223372036854775807 := by simpa using hN
  clear hn ht hN
  by_cases h0 : N ≤ 1048576
  · have h1 : ¬ (1048576 : Int) - (N : Int) < 0 := by omega
    go_enter Tryd.func24, Tryd.ntmps24
    go_wp2
    go_loopw [1, 5] (fun l i wr => ∃ (j : Nat) (r : Int), j ≤ N ∧ i = .int .i64 j ∧ l = .int .i64 r ∧ 0 ≤ r ∧ r ≤ 1048576 ∧ (∀ i, i < j → (nd i).text.size ≤ 1048576) ∧ Below w.heap.size w wr) (fun _ i _ => N - (intOf i).toNat)
    case atStart => exact ⟨0, _, Nat.zero_le _, rfl, rfl, by omega, by omega, fun i h => absurd h (Nat.not_lt_zero _), Below.refl _ _⟩
    case round =>
      obtain ⟨j, r, hj, rfl, rfl, hr0, hr1, hin, hbw⟩ := hrel
      have HIN := hid hin
      have HBW := hid hbw
      clear hin hbw
      by_cases hlt : j < N
      · obtain ⟨c0, c1, c2, c3, c4⟩ : FiveA wr (a.add (j * 5)) (nd j) := by
          rcases NodesA.below (.inr ⟨a, rfl, ha, HN.out⟩ : NodesA w (some a) N nd) HBW.out with h | ⟨a', e, _, h2⟩
          · omega
          · cases e; exact h2 j hlt
        by_cases hs : r < (nd j).text.size
        · have hs2 : (if r < ((nd j).text.size : Int) then (-1 : Int) else r - (nd j).text.size) = -1 := if_pos hs
          go_wp2_with (go_at_call 41; refine (szNode_any (nd j) r _ hr0 hr1 (HT.out j hlt)).mono ?_; rintro e w1 ⟨rfl, hb1⟩; rw [hs2])
          go_ret
          exact ⟨⟨-1, rfl, by omega, by omega, fun h => by omega⟩, HBW.out.trans (hb1.mono HBW.out.size)⟩
        · have hs2 : (if r < ((nd j).text.size : Int) then (-1 : Int) else r - (nd j).text.size) = r - (nd j).text.size := if_neg hs
          obtain ⟨r2, hr2⟩ : ∃ r2, r - ((nd j).text.size : Int) = r2 := ⟨_, rfl⟩
          have hr3 : 0 ≤ r2 := by omega
          have hr4 : r2 ≤ 1048576 := by omega
          have HX : Hid ((nd j).text.size ≤ 1048576) := by show _ ≤ _; omega
          go_wp2_with (go_at_call 41; refine (szNode_any (nd j) r _ hr0 hr1 (HT.out j hlt)).mono ?_; rintro e w1 ⟨rfl, hb1⟩; rw [hs2, hr2])
          go_roundw
          case rel => exact ⟨j + 1, r2, by omega, by go_num, rfl, hr3, hr4, fun i hi => by
            rcases Nat.lt_or_eq_of_le (Nat.lt_succ_iff.1 hi) with h | h
            · exact HIN.out i h
            · subst h; exact HX.out, HBW.out.trans (hb1.mono HBW.out.size)⟩
          case measure => simp [intOf]; omega
      · obtain rfl : j = N := by omega
        go_wp2
        go_ret
        exact ⟨⟨r, rfl, by omega, hr1, fun _ => ⟨h0, HIN.out⟩⟩, HBW.out⟩
  · have h1 : (1048576 : Int) - (N : Int) < 0 := by omega
    go_enter Tryd.func24, Tryd.ntmps24
    go_wp2
    go_ret
    exact ⟨⟨-1, rfl, by omega, by omega, fun h => by omega⟩, Below.refl _ _⟩
end Go.Proofs.YtpobfklbbkdglaaDoor
namespace Go.Proofs.YtpobfklbbkdglaaDoor
open Go.RowKit
set_option maxRecDepth 20000
theorem info_nd : (Tryd.prog.info? 58).map (fun i => (i.zero, i.size, i.bytes)) = some (some (.agg #[.int .i64 0, .int .i64 0, .int .i64 0, .string ⟨#[]⟩, .int .i64 0]), 5, 48) := by kernel_rfl
/-- A row of n nodes that is being filled: block g has n * 5 cells; the first j nodes are there. -/
def Filling (W : World) (g n j : Nat) (nd : Nat → Nd) : Prop := (∃ cur, W.heap[g]? = some (.cells cur 58 (0, 0)) ∧ cur.size = n * 5) ∧ NodesAt W g j nd
theorem five_room {W : World} {g j : Nat} {cur : Array Value} {t : TypeId} (h : W.heap[g]? = some (.cells cur t (0, 0))) (hj : j * 5 + 4 < cur.size) :
    (∃ v, W.cell? ⟨g, j * 5, none⟩ = some v) ∧ (∃ v, W.cell? ⟨g, j * 5 + 1, none⟩ = some v) ∧ (∃ v, W.cell? ⟨g, j * 5 + 2, none⟩ = some v) ∧ (∃ v, W.cell? ⟨g, j * 5 + 3, none⟩ = some v) ∧ (∃ v, W.cell? ⟨g, j * 5 + 4, none⟩ = some v) ∧
    W.frozen? ⟨g, j * 5, none⟩ = false ∧ W.frozen? ⟨g, j * 5 + 1, none⟩ = false ∧ W.frozen? ⟨g, j * 5 + 2, none⟩ = false ∧ W.frozen? ⟨g, j * 5 + 3, none⟩ = false ∧ W.frozen? ⟨g, j * 5 + 4, none⟩ = false := by
  have c : ∀ i, i < cur.size → ∃ v, W.cell? ⟨g, i, none⟩ = some v := fun i hi => ⟨cur[i], by unfold World.cell?; rw [h]; simp [hi]⟩
  have f : ∀ i, W.frozen? ⟨g, i, none⟩ = false := fun i => by unfold World.frozen?; rw [h]; simp
  exact ⟨c _ (by omega), c _ (by omega), c _ (by omega), c _ (by omega), c _ (by omega), f _, f _, f _, f _, f _⟩
theorem set_at {W : World} {g i : Nat} {cur : Array Value} {t : TypeId} (v : Value) (h : W.heap[g]? = some (.cells cur t (0, 0))) : (W.setCell ⟨g, i, none⟩ v).heap[g]? = some (.cells (cur.setIfInBounds i v) t (0, 0)) := by
  unfold World.setCell
  simp only [Array.getElem?_modify, h]
  simp
theorem fill_step {W : World} {g N j : Nat} {nd : Nat → Nd} {cur : Array Value} (h : W.heap[g]? = some (.cells cur 58 (0, 0)) ∧ cur.size = N * 5) (hno : NodesAt W g j nd) (hj : j < N) :
    Filling (((((W.setCell ⟨g, j * 5, none⟩ (.int .i64 (nd j).kind)).setCell ⟨g, j * 5 + 1, none⟩ (.int .i64 (nd j).op)).setCell ⟨g, j * 5 + 2, none⟩ (.int .i64 (nd j).n)).setCell ⟨g, j * 5 + 3, none⟩ (.string (nd j).text)).setCell ⟨g, j * 5 + 4, none⟩ (.int .i64 (nd j).kids)) g N (j + 1) nd := by
  obtain ⟨h1, h2⟩ := h
  have e := set_at (.int .i64 (nd j).kids) (i := j * 5 + 4) (set_at (.string (nd j).text) (i := j * 5 + 3) (set_at (.int .i64 (nd j).n) (i := j * 5 + 2) (set_at (.int .i64 (nd j).op) (i := j * 5 + 1) (set_at (.int .i64 (nd j).kind) (i := j * 5) h1))))
  refine ⟨⟨_, e, by simp [h2]⟩, ?_⟩
  have c : ∀ i, World.cell? (((((W.setCell ⟨g, j * 5, none⟩ (.int .i64 (nd j).kind)).setCell ⟨g, j * 5 + 1, none⟩ (.int .i64 (nd j).op)).setCell ⟨g, j * 5 + 2, none⟩ (.int .i64 (nd j).n)).setCell ⟨g, j * 5 + 3, none⟩ (.string (nd j).text)).setCell ⟨g, j * 5 + 4, none⟩ (.int .i64 (nd j).kids)) ⟨g, i, none⟩ = (((((cur.setIfInBounds (j * 5) (.int .i64 (nd j).kind)).setIfInBounds (j * 5 + 1) (.int .i64 (nd j).op)).setIfInBounds (j * 5 + 2) (.int .i64 (nd j).n)).setIfInBounds (j * 5 + 3) (.string (nd j).text)).setIfInBounds (j * 5 + 4) (.int .i64 (nd j).kids))[i]? := fun i => by
    unfold World.cell?
    rw [e]; rfl
  have o : ∀ i, W.cell? ⟨g, i, none⟩ = cur[i]? := fun i => by
    unfold World.cell?
    rw [h1]; rfl
  have low : ∀ i, i < j * 5 → World.cell? (((((W.setCell ⟨g, j * 5, none⟩ (.int .i64 (nd j).kind)).setCell ⟨g, j * 5 + 1, none⟩ (.int .i64 (nd j).op)).setCell ⟨g, j * 5 + 2, none⟩ (.int .i64 (nd j).n)).setCell ⟨g, j * 5 + 3, none⟩ (.string (nd j).text)).setCell ⟨g, j * 5 + 4, none⟩ (.int .i64 (nd j).kids)) ⟨g, i, none⟩ = W.cell? ⟨g, i, none⟩ := fun i hi => by
    rw [c, o, Array.getElem?_setIfInBounds_ne (by omega), Array.getElem?_setIfInBounds_ne (by omega), Array.getElem?_setIfInBounds_ne (by omega), Array.getElem?_setIfInBounds_ne (by omega), Array.getElem?_setIfInBounds_ne (by omega)]
  intro i hi
  rcases Nat.lt_or_eq_of_le (Nat.lt_succ_iff.1 hi) with h | h
  · obtain ⟨d0, d1, d2, d3, d4⟩ := hno i h
    exact ⟨(low _ (by omega)).trans d0, (low _ (by omega)).trans d1, (low _ (by omega)).trans d2, (low _ (by omega)).trans d3, (low _ (by omega)).trans d4⟩
  · subst h
    have hb : i * 5 + 4 < cur.size := by rw [h2]; omega
    refine ⟨?_, ?_, ?_, ?_, ?_⟩
    · rw [c, Array.getElem?_setIfInBounds_ne (by omega), Array.getElem?_setIfInBounds_ne (by omega), Array.getElem?_setIfInBounds_ne (by omega), Array.getElem?_setIfInBounds_ne (by omega), Array.getElem?_setIfInBounds_self_of_lt (by omega)]
    · rw [c, Array.getElem?_setIfInBounds_ne (by omega), Array.getElem?_setIfInBounds_ne (by omega), Array.getElem?_setIfInBounds_ne (by omega), Array.getElem?_setIfInBounds_self_of_lt (by simp; omega)]
    · rw [c, Array.getElem?_setIfInBounds_ne (by omega), Array.getElem?_setIfInBounds_ne (by omega), Array.getElem?_setIfInBounds_self_of_lt (by simp; omega)]
    · rw [c, Array.getElem?_setIfInBounds_ne (by omega), Array.getElem?_setIfInBounds_self_of_lt (by simp; omega)]
    · rw [c, Array.getElem?_setIfInBounds_self_of_lt (by simp; omega)]
theorem below_set {B : Nat} {w w' : World} (h : Below B w w') (g i : Nat) (hg : B ≤ g) (v : Value) : Below B w (w'.setCell ⟨g, i, none⟩ v) := h.setCell hg v
set_option maxHeartbeats 2000000 in
theorem toNodeS_any (a : Addr) (N cap : Nat) (nd : Nat → Nd) (w : World) (hN : N ≤ 1048576) (ha : a.block < w.heap.size) (hn : ∀ i, i < N → FiveA w (a.add (i * 5)) (nd i)) :
    Calls Tryd.prog 27 #[.slice (some a) N cap] w fun e w' => e = .returned (.slice (some ⟨w.heap.size, 0, none⟩) N N) ∧ NodesAt w' w.heap.size N nd ∧ w.heap.size < w'.heap.size ∧ Below w.heap.size w w' := by
  have HN := hid hn
  clear hn
  obtain ⟨i0, hi, hz0, hz1, hz2⟩ := info_parts info_nd
  have HHI := hid (And.intro hi (And.intro hz0 (And.intro hz1 hz2)))
  clear hi hz0 hz1
  go_enter Tryd.func27, Tryd.ntmps27
  go_wp2_with (at_make; refine wpList_make_full _ rfl _ _ 29 rfl w.heap.size 58 i0 (.agg #[.int .i64 0, .int .i64 0, .int .i64 0, .string ⟨#[]⟩, .int .i64 0]) 5 Tryd.underlying29 HHI.out.1 HHI.out.2.1 HHI.out.2.2.1 _ _ _ _ N rfl rfl rfl rfl (by rw [hz2]; omega) (by unfold maxLen; omega) (Nat.le_refl _) ?_; intro w1 o1 g1)
  have HF0 : Hid (Filling w1 w.heap.size N 0 nd) := by
    obtain ⟨h1, ⟨h2, _⟩ | ⟨g, c, cur, e, _, h4, _, _, h7, _⟩⟩ := o1
    · cases h2
    · cases e
      exact ⟨⟨cur, h4, h7⟩, fun i h => absurd h (Nat.not_lt_zero _)⟩
  have HB0 := hid ((Below.refl w.heap.size w).grown g1 (Nat.le_refl _) (fun q e => by cases e))
  clear o1 g1
  go_loopw [4] (fun i wr => ∃ j : Nat, j ≤ N ∧ i = .int .i64 j ∧ Filling wr w.heap.size N j nd ∧ Below w.heap.size w wr) (fun i _ => N - (intOf i).toNat)
  case atStart => exact ⟨0, Nat.zero_le _, rfl, HF0.out, HB0.out⟩
  case round =>
    obtain ⟨j, hj, rfl, hfi, hbw⟩ := hrel
    have HFI := hid hfi
    have HBW := hid hbw
    clear hfi hbw
    by_cases hlt : j < N
    · obtain ⟨c0, c1, c2, c3, c4⟩ : FiveA wr (a.add (j * 5)) (nd j) := by
        rcases NodesA.below (.inr ⟨a, rfl, ha, HN.out⟩ : NodesA w (some a) N nd) HBW.out with h | ⟨a', e, _, h2⟩
        · omega
        · cases e; exact h2 j hlt
      go_wp2_with fail
      refine (toNode_any (nd j) _).mono ?_
      rintro e w2 ⟨rfl, hb2⟩
      have HB2 := hid hb2
      obtain ⟨⟨cur, hcur, hsz⟩, hno⟩ := HFI.out
      have hcur2 := (hb2.block _ (Array.getElem?_eq_some_iff.1 hcur).1).trans hcur
      have hidx : j * 5 + 4 < cur.size := by rw [hsz]; omega
      have HCUR := hid (And.intro hcur2 hsz)
      obtain ⟨⟨v0, x0⟩, ⟨v1, x1⟩, ⟨v2, x2⟩, ⟨v3, x3⟩, ⟨v4, x4⟩, y0, y1, y2, y3, y4⟩ := five_room hcur2 hidx
      clear hb2 hcur hcur2 hno
      simp only [ndV]
      go_wp2
      have HNX := hid (fill_step HCUR.out (HFI.out.2.below (HB2.out) (by have := HBW.out.size; obtain ⟨⟨_, hc, _⟩, _⟩ := HFI.out; exact (Array.getElem?_eq_some_iff.1 hc).1)) hlt)
      have HBX := hid (HBW.out.trans (HB2.out.mono HBW.out.size))
      go_roundw
      case rel => exact ⟨j + 1, by omega, by go_num, HNX.out, below_set (below_set (below_set (below_set (below_set HBX.out _ _ (Nat.le_refl _) _) _ _ (Nat.le_refl _) _) _ _ (Nat.le_refl _) _) _ _ (Nat.le_refl _) _) _ _ (Nat.le_refl _) _⟩
      case measure => simp [intOf]; omega
    · obtain rfl : j = N := by omega
      go_wp2
      go_ret
      exact ⟨rfl, HFI.out.2, by have := HBW.out.size; obtain ⟨⟨cur, hc, _⟩, _⟩ := HFI.out; exact (Array.getElem?_eq_some_iff.1 hc).1, HBW.out⟩
end Go.Proofs.YtpobfklbbkdglaaDoor
namespace Go.Proofs.YtpobfklbbkdglaaDoor
open Go.RowKit
set_option maxRecDepth 20000
set_option maxHeartbeats 1000000 in
theorem eqNode_same (x : Nd) (w : World) :
    Calls Tryd.prog 53 #[ndV x, ndV x] w fun e w' => e = .returned (.bool true) ∧ Below w.heap.size w w' := by
  obtain ⟨k, op, n, t, kids⟩ := x
  unfold ndV
  have h1 : (k != k) = false := by simp
  have h2 : (op != op) = false := by simp
  have h3 : (n != n) = false := by simp
  have h4 : (kids != kids) = false := by simp
  have h5 : (t.toList != t.toList) = false := by simp
  go_enter Tryd.func53, Tryd.ntmps53
  go_wp2
  go_ret
  exact ⟨rfl, below_two' _ _ _⟩
set_option maxHeartbeats 1000000 in
theorem eqNodeS_same (g1 g2 N : Nat) (nd : Nat → Nd) (w : World) (hN : N ≤ 1048576) (hl1 : g1 < w.heap.size) (hl2 : g2 < w.heap.size) (h1 : NodesAt w g1 N nd) (h2 : NodesAt w g2 N nd) :
    Calls Tryd.prog 29 #[.slice (some ⟨g1, 0, none⟩) N N, .slice (some ⟨g2, 0, none⟩) N N] w fun e w' => e = .returned (.bool true) ∧ Below w.heap.size w w' := by
  have H1 := hid h1
  have H2 := hid h2
  clear h1 h2
  have hne : ((N : Int) != (N : Int)) = false := by simp
  go_enter Tryd.func29, Tryd.ntmps29
  go_wp2
  go_loopw [5] (fun i wr => ∃ j : Nat, j ≤ N ∧ i = .int .i64 j ∧ Below w.heap.size w wr) (fun i _ => N - (intOf i).toNat)
  case atStart => exact ⟨0, Nat.zero_le _, rfl, Below.refl _ _⟩
  case round =>
    obtain ⟨j, hj, rfl, hbw⟩ := hrel
    have HBW := hid hbw
    clear hbw
    by_cases hlt : j < N
    · have F1 : ∀ p : Gr wr, FiveAt p.W g1 j (nd j) := fun p => (H1.out.below (HBW.out.trans (p.h.mono HBW.out.size)) hl1) j hlt
      have F2 : ∀ p : Gr wr, FiveAt p.W g2 j (nd j) := fun p => (H2.out.below (HBW.out.trans (p.h.mono HBW.out.size)) hl2) j hlt
      have a0 := fun p : Gr wr => (F1 p).1
      have a1 := fun p : Gr wr => (F1 p).2.1
      have a2 := fun p : Gr wr => (F1 p).2.2.1
      have a3 := fun p : Gr wr => (F1 p).2.2.2.1
      have a4 := fun p : Gr wr => (F1 p).2.2.2.2
      have b0 := fun p : Gr wr => (F2 p).1
      have b1 := fun p : Gr wr => (F2 p).2.1
      have b2 := fun p : Gr wr => (F2 p).2.2.1
      have b3 := fun p : Gr wr => (F2 p).2.2.2.1
      have b4 := fun p : Gr wr => (F2 p).2.2.2.2
      clear F1 F2
      go_wp2_with fail
      have hne2 : Nonempty (Gr wr) := ⟨⟨wr, Below.refl _ _⟩⟩
      refine wp_region_gr (by kernel_rfl) (by kernel_rfl) ?_
      repeat (quiet_step (first | (go_at_call 53; refine Calls.gr_of (v := .bool true) fun _ => ?_; exact eqNode_same (nd j) _)))
      refine wpQuiet_nil ?_
      intro _ hw'
      obtain ⟨pw, rfl⟩ := hw'
      have HB4 := hid (HBW.out.trans (pw.h.mono HBW.out.size))
      clear a0 a1 a2 a3 a4 b0 b1 b2 b3 b4
      go_wp2
      go_roundw
      case rel => exact ⟨j + 1, by omega, by go_num, HB4.out⟩
      case measure => simp [intOf]; omega
    · obtain rfl : j = N := by omega
      go_wp2
      go_ret
      exact ⟨rfl, HBW.out⟩
end Go.Proofs.YtpobfklbbkdglaaDoor
namespace Go.Proofs.YtpobfklbbkdglaaDoor
open Go.RowKit
set_option maxRecDepth 20000
set_option maxHeartbeats 1000000 in
theorem szNodeS_none (ad : Option Addr) (cap : Nat) (w : World) :
    Calls Tryd.prog 24 #[.slice ad 0 cap, .int .i64 1048576] w fun e w' => e = .returned (.int .i64 1048576) ∧ w' = w := by
  go_enter Tryd.func24, Tryd.ntmps24
  go_wp2
  go_loopw [1, 5] (fun l i wr => i = .int .i64 0 ∧ l = .int .i64 1048576 ∧ wr = w) (fun _ _ _ => 0)
  case atStart => exact ⟨rfl, rfl, rfl⟩
  case round =>
    obtain ⟨rfl, rfl, rfl⟩ := hrel
    go_wp2
    go_ret
    exact ⟨rfl, rfl⟩
set_option maxHeartbeats 1000000 in
theorem toNodeS_none (ad : Option Addr) (cap : Nat) (nd : Nat → Nd) (w : World) :
    Calls Tryd.prog 27 #[.slice ad 0 cap] w fun e w' => e = .returned (.slice (some ⟨w.heap.size, 0, none⟩) 0 0) ∧ NodesAt w' w.heap.size 0 nd ∧ w.heap.size < w'.heap.size ∧ Below w.heap.size w w' := by
  obtain ⟨i0, hi, hz0, hz1, hz2⟩ := info_parts info_nd
  have HHI := hid (And.intro hi (And.intro hz0 hz1))
  clear hi hz0 hz1
  go_enter Tryd.func27, Tryd.ntmps27
  go_wp2_with (at_make; refine wpList_make_full _ rfl _ _ 29 rfl w.heap.size 58 i0 (.agg #[.int .i64 0, .int .i64 0, .int .i64 0, .string ⟨#[]⟩, .int .i64 0]) 5 Tryd.underlying29 HHI.out.1 HHI.out.2.1 HHI.out.2.2 _ _ _ _ 0 rfl rfl rfl rfl (by omega) (by unfold maxLen; omega) (Nat.le_refl _) ?_; intro w1 o1 g1)
  have hsz : w.heap.size < w1.heap.size := by
    obtain ⟨h1, ⟨h2, _⟩ | ⟨g, c, cur, e, _, h4, _, _, h7, _⟩⟩ := o1
    · cases h2
    · cases e
      exact (Array.getElem?_eq_some_iff.1 h4).1
  have HB0 := hid ((Below.refl w.heap.size w).grown g1 (Nat.le_refl _) (fun q e => by cases e))
  clear o1 g1
  go_loopw [4] (fun i wr => i = .int .i64 0 ∧ wr = w1) (fun _ _ => 0)
  case atStart => exact ⟨rfl, rfl⟩
  case round =>
    obtain ⟨rfl, rfl⟩ := hrel
    go_wp2
    go_ret
    exact ⟨rfl, fun i h => absurd h (Nat.not_lt_zero _), hsz, HB0.out⟩
theorem szNodeS_all (ad : Option Addr) (N cap : Nat) (nd : Nat → Nd) (w : World) (hN : N ≤ maxLen) (hn : NodesA w ad N nd) (ht : ∀ i, i < N → (nd i).text.size ≤ maxLen) :
    Calls Tryd.prog 24 #[.slice ad N cap, .int .i64 1048576] w fun e w' => (∃ r, e = .returned (.int .i64 r) ∧ -1 ≤ r ∧ r ≤ 1048576 ∧ (0 ≤ r → N ≤ 1048576 ∧ ∀ i, i < N → (nd i).text.size ≤ 1048576)) ∧ Below w.heap.size w w' := by
  rcases hn with rfl | ⟨a, rfl, h1, h2⟩
  · refine (szNodeS_none ad cap w).mono ?_
    rintro e w' ⟨rfl, rfl⟩
    exact ⟨⟨_, rfl, by omega, by omega, fun _ => ⟨by omega, fun i h => absurd h (Nat.not_lt_zero _)⟩⟩, Below.refl _ _⟩
  · exact szNodeS_any a N cap nd w hN h1 h2 ht
theorem toNodeS_all (ad : Option Addr) (N cap : Nat) (nd : Nat → Nd) (w : World) (hN : N ≤ 1048576) (hn : NodesA w ad N nd) :
    Calls Tryd.prog 27 #[.slice ad N cap] w fun e w' => e = .returned (.slice (some ⟨w.heap.size, 0, none⟩) N N) ∧ NodesAt w' w.heap.size N nd ∧ w.heap.size < w'.heap.size ∧ Below w.heap.size w w' := by
  rcases hn with rfl | ⟨a, rfl, h1, h2⟩
  · exact toNodeS_none ad cap nd w
  · exact toNodeS_any a N cap nd w hN h1 h2
set_option maxHeartbeats 1000000 in
theorem szTree_any (ad : Option Addr) (N cap : Nat) (nd : Nat → Nd) (w : World) (hN : N ≤ maxLen) (hn : NodesA w ad N nd) (ht : ∀ i, i < N → (nd i).text.size ≤ maxLen) :
    Calls Tryd.prog 7 #[.agg #[.slice ad N cap], .int .i64 1048576] w fun e w' => (∃ r, e = .returned (.int .i64 r) ∧ (0 ≤ r → N ≤ 1048576 ∧ ∀ i, i < N → (nd i).text.size ≤ 1048576)) ∧ Below w.heap.size w w' := by
  have HB := hid ((Below.refl w.heap.size w).alloc (Nat.le_refl _) (.cells #[.slice ad N cap] 24))
  have HN := hid (hn.below HB.out)
  have HT := hid ht
  clear hn ht
  go_enter Tryd.func7, Tryd.ntmps7
  go_wp2_with (go_at_call 24; refine (szNodeS_all ad N cap nd _ hN HN.out HT.out).mono ?_; rintro e w1 ⟨⟨r, rfl, h1, h2, h3⟩, hb1⟩; have H3 := hid h3; have HB1 := hid (HB.out.trans (hb1.mono (by simp))); clear h3 hb1)
  · go_ret
    exact ⟨⟨_, rfl, fun h => by omega⟩, HB1.out⟩
  · go_ret
    exact ⟨⟨_, rfl, H3.out⟩, HB1.out⟩
theorem three_rows {w w1 : World} {X : Obj} {u v : Value} {t : TypeId} (h : Below (((w.alloc X).alloc (.cells #[u] t)).alloc (.cells #[v] t)).heap.size (((w.alloc X).alloc (.cells #[u] t)).alloc (.cells #[v] t)) w1) :
    (w1.cell? ⟨w.heap.size + 1, 0, none⟩ = some u ∧ w1.frozen? ⟨w.heap.size + 1, 0, none⟩ = false) ∧ (w1.cell? ⟨w.heap.size + 1 + 1, 0, none⟩ = some v ∧ w1.frozen? ⟨w.heap.size + 1 + 1, 0, none⟩ = false) := by
  have e2 : w1.heap[w.heap.size + 1 + 1]? = some (.cells #[v] t) := by
    rw [h.block _ (by simp)]
    have := heap_alloc_new ((w.alloc X).alloc (.cells #[u] t)) (.cells #[v] t)
    rwa [World.size_alloc, World.size_alloc] at this
  have e1 : w1.heap[w.heap.size + 1]? = some (.cells #[u] t) := by
    rw [h.block _ (by simp), Below.heap_alloc _ _ _ (by simp)]
    have := heap_alloc_new (w.alloc X) (.cells #[u] t)
    rwa [World.size_alloc] at this
  refine ⟨⟨?_, ?_⟩, ?_, ?_⟩
  · unfold World.cell?; rw [e1]; rfl
  · unfold World.frozen?; rw [e1]; rfl
  · unfold World.cell?; rw [e2]; rfl
  · unfold World.frozen?; rw [e2]; rfl
theorem NodesAt.set {W : World} {g N b : Nat} {nd : Nat → Nd} (h : NodesAt W g N nd) (hb : b ≠ g) (v : Value) : NodesAt (W.setCell ⟨b, 0, none⟩ v) g N nd := by
  intro i hi
  obtain ⟨c0, c1, c2, c3, c4⟩ := h i hi
  have k : ∀ j, (W.setCell ⟨b, 0, none⟩ v).cell? ⟨g, j, none⟩ = W.cell? ⟨g, j, none⟩ := fun j => by
    unfold World.cell? World.setCell
    simp only [Array.getElem?_modify]
    rw [if_neg hb]
  exact ⟨(k _).trans c0, (k _).trans c1, (k _).trans c2, (k _).trans c3, (k _).trans c4⟩
set_option maxHeartbeats 1000000 in
theorem toTree_any (ad : Option Addr) (N cap : Nat) (nd : Nat → Nd) (w : World) (hN : N ≤ 1048576) (hn : NodesA w ad N nd) :
    Calls Tryd.prog 9 #[.agg #[.slice ad N cap]] w fun e w' => ∃ g, e = .returned (.agg #[.slice (some ⟨g, 0, none⟩) N N]) ∧ NodesAt w' g N nd ∧ g < w'.heap.size ∧ w.heap.size ≤ g ∧ Below w.heap.size w w' := by
  have HB := hid ((Below.refl w.heap.size w).alloc (Nat.le_refl _) (.cells #[.slice ad N cap] 24))
  have HN := hid hn
  clear hn
  go_enter Tryd.func9, Tryd.ntmps9
  go_wp2_with fail
  have HB3 := hid (((HB.out.alloc (by simp) (.cells #[.slice none 0 0] 31))).alloc (by simp; omega) (.cells #[.slice none 0 0] 31))
  refine (toNodeS_all ad N cap nd _ hN (HN.out.below HB3.out)).mono ?_
  rintro e w1 ⟨rfl, hno, hlt, hb1⟩
  obtain ⟨⟨x1, y1⟩, ⟨x2, y2⟩⟩ := three_rows hb1
  have HNO := hid hno
  have HLT := hid hlt
  have HB1 := hid (HB3.out.trans (hb1.mono (by simp; omega)))
  clear hno hlt hb1
  go_wp2
  refine bodyPost_ret (v := .agg #[.slice (some ⟨w.heap.size + 1 + 1 + 1, 0, none⟩) N N]) (by simp [results, Tryd.results9, go_sem, x1]) rfl ⟨w.heap.size + 1 + 1 + 1, rfl, ?_, ?_, by omega, ?_⟩
  · have h3 := HNO.out
    simp only [World.size_alloc] at h3
    exact (h3.set (by omega) _).set (by omega) _
  · have := HLT.out
    simp only [World.size_alloc] at this
    simpa using this
  · exact below_set (below_set HB1.out _ _ (by omega) _) _ _ (by omega) _
set_option maxHeartbeats 1000000 in
theorem eqTree_same (g1 g2 N : Nat) (nd : Nat → Nd) (w : World) (hN : N ≤ 1048576) (hl1 : g1 < w.heap.size) (hl2 : g2 < w.heap.size) (h1 : NodesAt w g1 N nd) (h2 : NodesAt w g2 N nd) :
    Calls Tryd.prog 12 #[.agg #[.slice (some ⟨g1, 0, none⟩) N N], .agg #[.slice (some ⟨g2, 0, none⟩) N N]] w fun e w' => e = .returned (.bool true) ∧ Below w.heap.size w w' := by
  have HB := hid (below_two' w (.cells #[.slice (some ⟨g1, 0, none⟩) N N] 31) (.cells #[.slice (some ⟨g2, 0, none⟩) N N] 31))
  have H1 := hid (h1.below HB.out hl1)
  have H2 := hid (h2.below HB.out hl2)
  clear h1 h2
  go_enter Tryd.func12, Tryd.ntmps12
  go_wp2_with (go_at_call 29; refine (eqNodeS_same g1 g2 N nd _ hN (by simp; omega) (by simp; omega) H1.out H2.out).mono ?_; rintro e w1 ⟨rfl, hb1⟩; have HB1 := hid (HB.out.trans (hb1.mono (by simp; omega))); clear hb1)
  go_ret
  exact ⟨rfl, HB1.out⟩
end Go.Proofs.YtpobfklbbkdglaaDoor
namespace Go.Proofs.YtpobfklbbkdglaaDoor
open Go.ChangeShapes Go.WideShapes Go.ChangeAt Go.RowKit Go.Deep
set_option maxRecDepth 20000
theorem cellsNode : Tryd.prog.cellsOf 71 = 5 := by kernel_rfl
theorem cellsTree : Tryd.prog.cellsOf 24 = 1 := by kernel_rfl
theorem cellsSl : Tryd.prog.cellsOf 22 = 1 := by kernel_rfl
theorem cellsInt : Tryd.prog.cellsOf 3 = 1 := by kernel_rfl
theorem cellsInt64 : Tryd.prog.cellsOf 2 = 1 := by kernel_rfl
theorem cellsStr : Tryd.prog.cellsOf 9 = 1 := by kernel_rfl
theorem node_open {H : Type} {enc : TypeId × Value → H} {W : World} {base : Nat} {spare : Nat → Bool} {held : Bool} {n : Nat} {cs : List Value} {z : DataW H × List MemPlace} (h : DataW.trod enc Tryd.prog W base spare held n 71 cs = some z) :
    ∃ x : Nd, cs = [.int .i64 x.kind, .int .i64 x.op, .int .i64 x.n, .string x.text, .int .i64 x.kids] ∧ x.text.size ≤ maxLen := by
  obtain ⟨xs, m, _, _, hl, hlen, hf⟩ := DataW.trod_struct Tryd.underlying71 h
  rw [cellsNode] at hl
  match cs, hl with
  | [c0, c1, c2, c3, c4], _ =>
    match xs, hlen with
    | [y0, y1, y2, y3, y4], _ =>
      have f0 := hf 0 _ rfl
      have f1 := hf 1 _ rfl
      have f2 := hf 2 _ rfl
      have f3 := hf 3 _ rfl
      have f4 := hf 4 _ rfl
      simp [cellsInt, cellsInt64, cellsStr] at f0 f1 f2 f3 f4
      obtain ⟨k, e0, _, _⟩ := DataW.trod_int Tryd.underlying3 f0
      obtain ⟨op, e1, _, _⟩ := DataW.trod_int Tryd.underlying3 f1
      obtain ⟨nn, e2, _, _⟩ := DataW.trod_int Tryd.underlying2 f2
      obtain ⟨t, e3, _, ht⟩ := DataW.trod_string Tryd.underlying9 f3
      obtain ⟨kd, e4, _, _⟩ := DataW.trod_int Tryd.underlying3 f4
      cases e0; cases e1; cases e2; cases e3; cases e4
      exact ⟨⟨k, op, nn, t, kd⟩, rfl, ht⟩
theorem add_one (a : Addr) (n : Nat) (h : n ≠ 0) : a.add n = ⟨a.block, a.off + n, none⟩ := by unfold Addr.add; rw [if_neg h]
theorem tree_open {H : Type} {enc : TypeId × Value → H} {W : World} {base : Nat} {v : Value} {d : DataW H} {ps : List MemPlace} (hv : Value.okWide Tryd.prog W .any base 24 v) (h : DataW.Trod enc Tryd.prog W 0 (fun _ => true) true 24 v d ps) :
    ∃ ad N cap nd, v = .agg #[.slice ad N cap] ∧ N ≤ maxLen ∧ NodesA W ad N nd ∧ ∀ i, i < N → (nd i).text.size ≤ maxLen := by
  obtain ⟨cs, rfl, hsz⟩ := okWide_struct Tryd.underlying24 hv
  rw [cellsTree] at hsz
  obtain ⟨c0, rfl⟩ : ∃ c0, cs = #[c0] := ⟨cs[0], by apply Array.ext; simp [hsz]; intro i h1 h2; simp at h2; subst h2; rfl⟩
  obtain ⟨fuel, hf⟩ := h
  obtain ⟨y0, n, _, _, hy⟩ := trod_struct1 Tryd.underlying24 hf
  simp [cellsSl, Value.cells] at hy
  rcases open_slice Tryd.underlying22 hy with ⟨e, _⟩ | ⟨a, len, cap, m, n2, D, Pl, e, hb, hlc, hcm, hm, _, hel⟩
  · cases e
    exact ⟨none, 0, 0, fun _ => ⟨0, 0, 0, ⟨#[]⟩, 0⟩, rfl, Nat.zero_le _, .inl rfl, fun i h => absurd h (Nat.not_lt_zero _)⟩
  · cases e
    have hall : ∀ i, ∃ x : Nd, i < len → FiveA W (a.add (i * 5)) x ∧ x.text.size ≤ maxLen ∧ a.block < W.heap.size := fun i => by
      by_cases hi : i < len
      · have hm2 : len ≤ m := by rw [hm]; simp; exact hlc
        obtain ⟨cs', hc, ht⟩ := hel i (by omega)
        rw [cellsNode] at hc
        obtain ⟨x, rfl, hx⟩ := node_open ht
        refine ⟨x, fun _ => ?_⟩
        have hbl := World.cells?_block hc (by omega)
        rw [add_block] at hbl
        obtain ⟨_, _, hg⟩ := World.cells?_some hc
        refine ⟨⟨?_, ?_, ?_, ?_, ?_⟩, hx, hbl⟩
        · have := hg 0 (by omega); simpa [Addr.add] using this
        · have := hg 1 (by omega); rw [add_one _ 1 (by decide)] at this; simpa using this
        · have := hg 2 (by omega); rw [add_one _ 2 (by decide)] at this; simpa using this
        · have := hg 3 (by omega); rw [add_one _ 3 (by decide)] at this; simpa using this
        · have := hg 4 (by omega); rw [add_one _ 4 (by decide)] at this; simpa using this
      · exact ⟨⟨0, 0, 0, ⟨#[]⟩, 0⟩, fun h => absurd h hi⟩
    obtain ⟨nd, hnd⟩ := Classical.skolem.1 hall
    refine ⟨some a, len, cap, nd, rfl, by omega, ?_, fun i hi => (hnd i hi).2.1⟩
    by_cases h0 : len = 0
    · exact .inl h0
    · exact .inr ⟨a, rfl, (hnd 0 (by omega)).2.2, fun i hi => (hnd i hi).1⟩
end Go.Proofs.YtpobfklbbkdglaaDoor
