import Derived.Test.YtjbhadpdbcelcaaDoorQRow
namespace Go.Proofs.YtjbhadpdbcelcaaDoor.Q
open Go.RowKit Go.Shelf
set_option maxRecDepth 20000
/-- The six cells of a node at an address. -/
def NodeA (W : World) (a : Addr) (x : Nd) : Prop :=
  W.cell? a = some (.int .i64 x.kind) ∧ W.cell? ⟨a.block, a.off + 1, none⟩ = some (.int .i64 x.op) ∧ W.cell? ⟨a.block, a.off + 2, none⟩ = some (.int .i64 x.ty) ∧ W.cell? ⟨a.block, a.off + 3, none⟩ = some (.int .i64 x.n) ∧ W.cell? ⟨a.block, a.off + 4, none⟩ = some (.string x.text) ∧ W.cell? ⟨a.block, a.off + 5, none⟩ = some (.int .i64 x.kids)
theorem add_block (a : Addr) (n : Nat) : (a.add n).block = a.block := by unfold Addr.add; split <;> rfl
/-- N nodes that came in. -/
def NodesA (W : World) (ad : Option Addr) (N : Nat) (nd : Nat → Nd) : Prop := N = 0 ∨ ∃ a, ad = some a ∧ a.block < W.heap.size ∧ ∀ i, i < N → NodeA W (a.add (i * 6)) (nd i)
theorem NodesA.below {W W' : World} {ad : Option Addr} {N : Nat} {nd : Nat → Nd} (h : NodesA W ad N nd) (hb : Below W.heap.size W W') : NodesA W' ad N nd := by
  rcases h with h | ⟨a, rfl, h1, h2⟩
  · exact .inl h
  · refine .inr ⟨a, rfl, Nat.lt_of_lt_of_le h1 hb.size, fun i hi => ?_⟩
    have hk : ∀ p : Addr, p.block = a.block → W'.cell? p = W.cell? p := fun p hp => hb.cell (by rw [hp]; exact h1)
    obtain ⟨c0, c1, c2, c3, c4, c5⟩ := h2 i hi
    exact ⟨(hk _ (add_block a _)).trans c0, (hk ⟨_, _, none⟩ (add_block a _)).trans c1, (hk ⟨_, _, none⟩ (add_block a _)).trans c2, (hk ⟨_, _, none⟩ (add_block a _)).trans c3, (hk ⟨_, _, none⟩ (add_block a _)).trans c4, (hk ⟨_, _, none⟩ (add_block a _)).trans c5⟩
theorem below_two' (w : World) (a b : Obj) : Below w.heap.size w ((w.alloc a).alloc b) := ((Below.refl _ _).alloc (Nat.le_refl _) a).alloc (by simp) b
set_option maxHeartbeats 1000000 in
theorem szNode_any (x : Nd) (l : Int) (w : World) (hl : 0 ≤ l) (hl2 : l ≤ 1048576) (ht : x.text.size ≤ maxLen) :
    Calls Tryd.prog 19 #[ndV x, .int .i64 l] w fun e w' => e = .returned (.int .i64 (if l < x.text.size then -1 else l - x.text.size)) ∧ Below w.heap.size w w' := by
  obtain ⟨k, op, ty, n, t, kids⟩ := x
  unfold maxLen at ht
  have ht' : t.size ≤ 9223372036854775807 := by simpa using ht
  clear ht
  unfold ndV
  by_cases h : l < t.size
  · have h2 : l - (t.size : Int) < 0 := by omega
    go_enter Tryd.func19, Tryd.ntmps19
    go_wp2
    go_ret
    exact ⟨ret_int (by simp), (Below.refl _ _).alloc (Nat.le_refl _) _⟩
  · have h2 : ¬ l - (t.size : Int) < 0 := by omega
    go_enter Tryd.func19, Tryd.ntmps19
    go_wp2
    go_ret
    exact ⟨ret_int (by simp), (Below.refl _ _).alloc (Nat.le_refl _) _⟩
set_option maxHeartbeats 1000000 in
theorem toNode_any (x : Nd) (w : World) :
    Calls Tryd.prog 29 #[ndV x] w fun e w' => e = .returned (ndV x) ∧ Below w.heap.size w w' := by
  obtain ⟨k, op, ty, n, t, kids⟩ := x
  unfold ndV
  go_enter Tryd.func29, Tryd.ntmps29
  go_wp2
  refine bodyPost_ret (v := .agg #[.int .i64 k, .int .i64 op, .int .i64 ty, .int .i64 n, .string t, .int .i64 kids]) ?_ rfl ⟨rfl, ?_⟩
  · simp [results, Tryd.results29, go_sem]
  · exact (below_two' _ _ _).alloc (by simp; omega) _
set_option maxHeartbeats 1000000 in
theorem szNodeS_any (a : Addr) (N cap : Nat) (nd : Nat → Nd) (w : World) (hN : N ≤ maxLen) (ha : a.block < w.heap.size) (hn : ∀ i, i < N → NodeA w (a.add (i * 6)) (nd i)) (ht : ∀ i, i < N → (nd i).text.size ≤ maxLen) :
    Calls Tryd.prog 9 #[.slice (some a) N cap, .int .i64 1048576] w fun e w' => (∃ r, e = .returned (.int .i64 r) ∧ -1 ≤ r ∧ r ≤ 1048576 ∧ (0 ≤ r → N ≤ 1048576 ∧ ∀ i, i < N → (nd i).text.size ≤ 1048576)) ∧ Below w.heap.size w w' := by
  have HN := hid hn
  have HT := hid ht
  unfold maxLen at hN
  have hN' : N ≤ 9223372036854775807 := by simpa using hN
  clear hn ht hN
  by_cases h0 : N ≤ 1048576
  · have h1 : ¬ (1048576 : Int) - (N : Int) < 0 := by omega
    go_enter Tryd.func9, Tryd.ntmps9
    go_wp2
    go_loopw [1, 5] (fun l i wr => ∃ (j : Nat) (r : Int), j ≤ N ∧ i = .int .i64 j ∧ l = .int .i64 r ∧ 0 ≤ r ∧ r ≤ 1048576 ∧ (∀ i, i < j → (nd i).text.size ≤ 1048576) ∧ Below w.heap.size w wr) (fun _ i _ => N - (intOf i).toNat)
    case atStart => exact ⟨0, _, Nat.zero_le _, rfl, rfl, by omega, by omega, fun i h => absurd h (Nat.not_lt_zero _), Below.refl _ _⟩
    case round =>
      obtain ⟨j, r, hj, rfl, rfl, hr0, hr1, hin, hbw⟩ := hrel
      have HIN := hid hin
      have HBW := hid hbw
      clear hin hbw
      by_cases hlt : j < N
      · obtain ⟨c0, c1, c2, c3, c4, c5⟩ : NodeA wr (a.add (j * 6)) (nd j) := by
          rcases NodesA.below (.inr ⟨a, rfl, ha, HN.out⟩ : NodesA w (some a) N nd) HBW.out with h | ⟨a', e, _, h2⟩
          · omega
          · cases e; exact h2 j hlt
        by_cases hs : r < (nd j).text.size
        · have hs2 : (if r < ((nd j).text.size : Int) then (-1 : Int) else r - (nd j).text.size) = -1 := if_pos hs
          go_wp2_with (go_at_call 19; refine (szNode_any (nd j) r _ hr0 hr1 (HT.out j hlt)).mono ?_; rintro e w1 ⟨rfl, hb1⟩; rw [hs2])
          go_ret
          exact ⟨⟨-1, rfl, by omega, by omega, fun h => by omega⟩, HBW.out.trans (hb1.mono HBW.out.size)⟩
        · have hs2 : (if r < ((nd j).text.size : Int) then (-1 : Int) else r - (nd j).text.size) = r - (nd j).text.size := if_neg hs
          obtain ⟨r2, hr2⟩ : ∃ r2, r - ((nd j).text.size : Int) = r2 := ⟨_, rfl⟩
          have hr3 : 0 ≤ r2 := by omega
          have hr4 : r2 ≤ 1048576 := by omega
          have HX : Hid ((nd j).text.size ≤ 1048576) := by show _ ≤ _; omega
          go_wp2_with (go_at_call 19; refine (szNode_any (nd j) r _ hr0 hr1 (HT.out j hlt)).mono ?_; rintro e w1 ⟨rfl, hb1⟩; rw [hs2, hr2])
          go_roundw
          case rel => exact ⟨j + 1, r2, by omega, by go_num, rfl, hr3, hr4, fun i hi => by
            rcases Nat.lt_or_eq_of_le (Nat.lt_succ_iff.1 hi) with h | h
            · exact HIN.out i h
            · subst h; exact HX.out, HBW.out.trans (hb1.mono HBW.out.size)⟩
          case measure => simp [intOf]; omega
      · obtain rfl : j = N := by omega
        go_wp2
        go_ret
        exact ⟨⟨r, rfl, by omega, hr1, fun _ => ⟨h0, HIN.out⟩⟩, HBW.out⟩
  · have h1 : (1048576 : Int) - (N : Int) < 0 := by omega
    go_enter Tryd.func9, Tryd.ntmps9
    go_wp2
    go_ret
    exact ⟨⟨-1, rfl, by omega, by omega, fun h => by omega⟩, Below.refl _ _⟩
end Go.Proofs.YtjbhadpdbcelcaaDoor.Q
