import Derived.Test.YtdhcjmlcpnljiaaDoorLHeld
namespace Go.Proofs.YtdhcjmlcpnljiaaDoor
open Go.RowKit
/-- The four cells of the i-th token. -/
def FourAt (W : World) (g i : Nat) (t : Tok) : Prop :=
  W.cell? ⟨g, i * 4, none⟩ = some (.int .i64 t.kind) ∧ W.cell? ⟨g, i * 4 + 1, none⟩ = some (.string ⟨t.text.toArray⟩) ∧ W.cell? ⟨g, i * 4 + 2, none⟩ = some (.int .i64 t.n) ∧ W.cell? ⟨g, i * 4 + 3, none⟩ = some (.int .i64 t.place)
theorem tokRow_get (ts : List Tok) (i : Nat) (hi : i < ts.length) : (tokRow ts)[i * 4]? = some (.int .i64 ts[i].kind) ∧ (tokRow ts)[i * 4 + 1]? = some (.string ⟨ts[i].text.toArray⟩) ∧ (tokRow ts)[i * 4 + 2]? = some (.int .i64 ts[i].n) ∧ (tokRow ts)[i * 4 + 3]? = some (.int .i64 ts[i].place) := by
  induction ts generalizing i with
  | nil => simp at hi
  | cons t ts ih =>
    have e : tokRow (t :: ts) = tokCells t ++ tokRow ts := by simp [tokRow]
    cases i with
    | zero => rw [e]; exact ⟨rfl, rfl, rfl, rfl⟩
    | succ i =>
      have h := ih i (by simpa using hi)
      have hl : (tokCells t).length = 4 := rfl
      rw [e]
      rw [List.getElem?_append_right (by rw [hl]; omega), List.getElem?_append_right (by rw [hl]; omega), List.getElem?_append_right (by rw [hl]; omega), List.getElem?_append_right (by rw [hl]; omega), hl]
      have e0 : (i + 1) * 4 - 4 = i * 4 := by omega
      have e1 : (i + 1) * 4 + 1 - 4 = i * 4 + 1 := by omega
      have e2 : (i + 1) * 4 + 2 - 4 = i * 4 + 2 := by omega
      have e3 : (i + 1) * 4 + 3 - 4 = i * 4 + 3 := by omega
      rw [e0, e1, e2, e3]
      exact h
theorem row_get {cur : Array Value} {xs : List Value} {m k : Nat} (h : cur.toList.take m = xs) (hk : k < m) : cur[k]? = xs[k]? := by
  rw [← h, List.getElem?_take_of_lt hk]; simp
theorem four_of_row {W : World} {g : Nat} {cur : Array Value} {ts : List Tok} (hg : W.heap[g]? = some (.cells cur 49 (0, 0))) (h : cur.toList.take (ts.length * 4) = tokRow ts) (i : Nat) (hi : i < ts.length) : FourAt W g i ts[i] := by
  obtain ⟨h0, h1, h2, h3⟩ := tokRow_get ts i hi
  refine ⟨?_, ?_, ?_, ?_⟩
  · rw [cell_heap hg, row_get h (by omega)]; exact h0
  · rw [cell_heap hg, row_get h (by omega)]; exact h1
  · rw [cell_heap hg, row_get h (by omega)]; exact h2
  · rw [cell_heap hg, row_get h (by omega)]; exact h3
set_option maxRecDepth 20000 in
set_option maxHeartbeats 1000000 in
theorem eqS_row (ga gb n ca cb : Nat) (w : World) (hn : n ≤ 8001) (ha : ga < w.heap.size) (hb : gb < w.heap.size) (T : Nat → Tok) (hA : ∀ i, i < n → FourAt w ga i (T i)) (hB : ∀ i, i < n → FourAt w gb i (T i)) :
    Calls Tryd.prog 13 #[.slice (some ⟨ga, 0, none⟩) n ca, .slice (some ⟨gb, 0, none⟩) n cb] w fun e w' => e = .returned (.bool true) ∧ Below w.heap.size w w' := by
  have HA := hid hA
  have HB := hid hB
  clear hA hB
  go_enter Tryd.func13, Tryd.ntmps13
  go_wp2
  go_loopw [5] (fun i wr => ∃ (j : Nat), i = .int .i64 j ∧ j ≤ n ∧ Below w.heap.size w wr) (fun i _ => n - (intOf i).toNat)
  case atStart => exact ⟨0, rfl, Nat.zero_le _, Below.refl _ _⟩
  case round =>
    obtain ⟨j, rfl, hj, hbw⟩ := hrel
    have HBW := hid hbw
    by_cases hlt : j < n
    · obtain ⟨c0, c1, c2, c3⟩ := HA.out j hlt
      obtain ⟨d0, d1, d2, d3⟩ := HB.out j hlt
      rw [← hbw.cell (p := ⟨ga, _, none⟩) ha] at c0 c1 c2 c3
      rw [← hbw.cell (p := ⟨gb, _, none⟩) hb] at d0 d1 d2 d3
      generalize T j = t at *
      clear hbw
      go_wp2
      go_region_with (go_at_call 24; refine (eqTok_any _ _ _ _ _).mono ?_; rintro e w1 ⟨rfl, hb1⟩; have HB1 := hid hb1; clear hb1)
      all_goals go_wp2
      all_goals
        go_roundw
        case rel => exact ⟨j + 1, by go_num, by omega, HBW.out.drew.trans (HB1.out.mono HBW.out.size)⟩
        case measure => simp [intOf]; omega
    · clear hbw
      go_wp2
      go_ret
      exact ⟨rfl, HBW.out⟩
set_option maxHeartbeats 1000000 in
theorem eqS_zero (a b : Option Addr) (ca cb : Nat) (w : World) :
    Calls Tryd.prog 13 #[.slice a 0 ca, .slice b 0 cb] w fun e w' => e = .returned (.bool true) ∧ w' = w := by
  go_enter Tryd.func13, Tryd.ntmps13
  go_wp2
  go_loop [5] (fun i => i = .int .i64 0) (fun _ => 0)
  case atStart => rfl
  case round =>
    subst hrel
    go_wp2
    go_ret
    exact ⟨rfl, rfl⟩
/-- Two rows with the same tokens. -/
theorem eqS_any {Ba Bb : Nat} {va vb : Value} {ts : List Tok} {w : World} (ha : w.ownsRow Ba 49 4 va ts.length (tokRow ts)) (hb : w.ownsRow Bb 49 4 vb ts.length (tokRow ts)) (hn : ts.length ≤ 8001) :
    Calls Tryd.prog 13 #[va, vb] w fun e w' => e = .returned (.bool true) ∧ Below w.heap.size w w' := by
  by_cases h0 : ts.length = 0
  · obtain ⟨a, ca, rfl⟩ := own_slice ha
    obtain ⟨b, cb, rfl⟩ := own_slice hb
    rw [h0]
    exact (eqS_zero a b ca cb w).mono fun e w' ⟨x, y⟩ => ⟨x, by rw [y]; exact Below.refl _ _⟩
  · obtain ⟨_, ⟨_, h1⟩ | ⟨g, cap, cur, rfl, _, hg, _, _, _, htk⟩⟩ := ha
    · exact absurd h1 h0
    · obtain ⟨_, ⟨_, h1⟩ | ⟨g', cap', cur', rfl, _, hg', _, _, _, htk'⟩⟩ := hb
      · exact absurd h1 h0
      · refine eqS_row g g' ts.length cap cap' w hn (Array.getElem?_eq_some_iff.1 hg).1 (Array.getElem?_eq_some_iff.1 hg').1 (fun i => ts.getD i ⟨0, [], 0, 0⟩) (fun i hi => ?_) (fun i hi => ?_)
        · have h := four_of_row hg htk i hi
          simpa [hi] using h
        · have h := four_of_row hg' htk' i hi
          simpa [hi] using h
/-- The row that the marking leaves. -/
def Marked (W : World) (v : Value) (n : Nat) : Prop :=
  v = .slice none 0 0 ∧ n = 0 ∨ ∃ g cap cur, v = .slice (some ⟨g, 0, none⟩) n cap ∧ W.heap[g]? = some (.cells cur 49 (0, 0)) ∧
    ∀ i, i < n → cur[i * 4]? = some (.int .i64 (1 + 4 * i : Nat)) ∧ cur[i * 4 + 1]? = some (.string (mtxt (2 + 4 * i))) ∧ cur[i * 4 + 2]? = some (.int .i64 (3 + 4 * i : Nat)) ∧ cur[i * 4 + 3]? = some (.int .i64 (4 + 4 * i : Nat))
theorem Marked.below {W W' : World} {v : Value} {n : Nat} (h : Marked W v n) (hb : Below W.heap.size W W') : Marked W' v n := by
  rcases h with h | ⟨g, cap, cur, e, hg, hc⟩
  · exact .inl h
  · exact .inr ⟨g, cap, cur, e, (hb.block g (Array.getElem?_eq_some_iff.1 hg).1).trans hg, hc⟩
theorem mark_any {B n : Nat} {v : Value} {xs : List Value} {w : World} (h : w.ownsRow B 49 4 v n xs) (hn : n ≤ 8001) :
    Calls Tryd.prog 15 #[v, .int .i64 1] w fun e w' => e = .returned (.int .i64 (1 + 4 * n : Nat)) ∧ Below B w w' ∧ Marked w' v n := by
  obtain ⟨_, ⟨rfl, rfl⟩ | ⟨g, cap, cur, rfl, hB, hg, hc, _, hs, _⟩⟩ := h
  · exact (mark_nil w).mono fun e w' ⟨x, y⟩ => ⟨x, by rw [y]; exact Below.refl _ _, .inl ⟨rfl, rfl⟩⟩
  · refine (mark_row g n cap w hn cur hg (by rw [hs]; omega)).mono fun e w' ⟨x, y, cur', z1, _, z3⟩ => ⟨x, ?_, .inr ⟨g, cap, cur', rfl, z1, z3⟩⟩
    exact ⟨y.os, y.tape, y.output, y.size, fun k hk => y.block k (by have := (Array.getElem?_eq_some_iff.1 hg).1; omega) (fun e => by cases e; omega)⟩
theorem held_any {n : Nat} {v : Value} {w : World} (h : Marked w v n) (hn : n ≤ 8001) :
    Calls Tryd.prog 16 #[v, .int .i64 1] w fun e w' => e = .returned (.int .i64 (1 + 4 * n : Nat)) ∧ Below w.heap.size w w' := by
  rcases h with ⟨rfl, rfl⟩ | ⟨g, cap, cur, rfl, hg, hc⟩
  · exact (held_nil w).mono fun e w' ⟨x, y⟩ => ⟨x, by rw [y]; exact Below.refl _ _⟩
  · refine held_row g n cap w hn (Array.getElem?_eq_some_iff.1 hg).1 fun i hi => ?_
    obtain ⟨h0, h1, h2, h3⟩ := hc i hi
    exact ⟨(cell_heap hg _).trans h0, (cell_heap hg _).trans h1, (cell_heap hg _).trans h2, (cell_heap hg _).trans h3⟩
end Go.Proofs.YtdhcjmlcpnljiaaDoor
