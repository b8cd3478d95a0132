import Derived.Test.YtmiodmnbkoheeaaJBase
/-! Rows of texts that came in, or that were made: sizes, copies, sameness. -/
namespace Go.Proofs.Ytmiodmnbkoheeaa.J
open Go.RowKit
set_option maxRecDepth 20000
/-- N texts at an address. -/
def TextsA (W : World) (ad : Option Addr) (N : Nat) (s : Nat → ByteArray) : Prop := N = 0 ∨ ∃ a, ad = some a ∧ a.block < W.heap.size ∧ ∀ i, i < N → W.cell? (a.add i) = some (.string (s i))
theorem TextsA.of_cells {W W' : World} {ad : Option Addr} {N : Nat} {s : Nat → ByteArray} (h : TextsA W ad N s) (hs : W.heap.size ≤ W'.heap.size) (hk : ∀ a, ad = some a → a.block < W.heap.size → ∀ p : Addr, p.block = a.block → W'.cell? p = W.cell? p) : TextsA W' ad N s := by
  rcases h with h | ⟨a, rfl, h1, h2⟩
  · exact .inl h
  · exact .inr ⟨a, rfl, Nat.lt_of_lt_of_le h1 hs, fun i hi => (hk a rfl h1 _ (add_block a i)).trans (h2 i hi)⟩
theorem TextsA.below {W W' : World} {ad : Option Addr} {N : Nat} {s : Nat → ByteArray} (h : TextsA W ad N s) (hb : Below W.heap.size W W') : TextsA W' ad N s :=
  h.of_cells hb.size fun a _ ha p hp => hb.cell (by rw [hp]; exact ha)
/-- What texts weigh: one each, and their bytes. -/
def wtx (s : Nat → ByteArray) : Nat → Nat
  | 0 => 0
  | n + 1 => wtx s n + 1 + (s n).size
theorem wtx_ge (s : Nat → ByteArray) (n : Nat) : n ≤ wtx s n := by
  induction n with
  | zero => exact Nat.le_refl _
  | succ n ih => simp only [wtx]; omega
theorem wtx_mono (s : Nat → ByteArray) {j n : Nat} (h : j ≤ n) : wtx s j ≤ wtx s n := by
  induction h with
  | refl => exact Nat.le_refl _
  | step _ ih => simp only [wtx]; omega
theorem wtx_at (s : Nat → ByteArray) {j n : Nat} (h : j < n) : wtx s j + 1 + (s j).size ≤ wtx s n := wtx_mono s (Nat.succ_le_of_lt h)
set_option maxHeartbeats 1000000 in
theorem szTextS_any (a : Addr) (N cap : Nat) (s : Nat → ByteArray) (l : Int) (w : World) (hl : 0 ≤ l) (hl2 : l ≤ 1048576) (hN : N ≤ maxLen) (hn : ∀ i, i < N → w.cell? (a.add i) = some (.string (s i))) (ht : ∀ i, i < N → (s i).size ≤ maxLen) :
    Calls Try.prog 14 #[.slice (some a) N cap, .int .i64 l] w fun e w' => (∃ r, e = .returned (.int .i64 r) ∧ -1 ≤ r ∧ r ≤ l ∧ (0 ≤ r → r + (wtx s N : Int) = l)) ∧ w' = w := by
  have HN := hid hn
  have HT := hid ht
  unfold maxLen at hN
  have hN' : N ≤ 9223372036854775807 := by simpa using hN
  clear hn ht hN
  by_cases h1 : l - (N : Int) < 0
  · go_enter Try.func14, Try.ntmps14
    go_wp2
    go_ret
    exact ⟨⟨-1, rfl, by omega, by omega, fun h => by omega⟩, rfl⟩
  · go_enter Try.func14, Try.ntmps14
    go_wp2
    go_loopw [1, 5] (fun l' i wr => ∃ (j : Nat) (r : Int), j ≤ N ∧ i = .int .i64 j ∧ l' = .int .i64 r ∧ 0 ≤ r ∧ r ≤ l ∧ (Hid (r + (N : Int) + (wtx s j : Int) = l + (j : Int))) ∧ wr = w) (fun _ i _ => N - (intOf i).toNat)
    case atStart => exact ⟨0, _, Nat.zero_le _, rfl, rfl, by omega, by omega, (by show _ = _; simp [wtx]), rfl⟩
    case round =>
      obtain ⟨j, r, hj, rfl, rfl, hr0, hr1, HS, rfl⟩ := hrel
      by_cases hlt : j < N
      · have c0 := HN.out j hlt
        have c1 := HT.out j hlt
        unfold maxLen at c1
        have c1' : (s j).size ≤ 9223372036854775807 := by simpa using c1
        clear c1
        by_cases hs : r - ((s j).size : Int) < 0
        · go_wp2
          go_ret
          exact ⟨⟨-1, rfl, by omega, by omega, fun h => by omega⟩, rfl⟩
        · obtain ⟨r2, hr2⟩ : ∃ r2, r - ((s j).size : Int) = r2 := ⟨_, rfl⟩
          have hr3 : 0 ≤ r2 := by omega
          have hr4 : r2 ≤ l := by omega
          have HS2 : Hid (r2 + (N : Int) + (wtx s (j + 1) : Int) = l + ((j + 1 : Nat) : Int)) := by
            show _ = _
            have := HS.out
            simp only [wtx]
            omega
          go_wp2
          go_roundw
          case rel => exact ⟨j + 1, r2, by omega, by go_num, by go_num, hr3, hr4, HS2, by trivial⟩
          case measure => simp [intOf]; omega
      · obtain rfl : j = N := by omega
        go_wp2
        go_ret
        exact ⟨⟨r, rfl, by omega, hr1, fun _ => by have := HS.out; omega⟩, rfl⟩
set_option maxHeartbeats 1000000 in
theorem szTextS_none (ad : Option Addr) (cap : Nat) (l : Int) (w : World) (hl : 0 ≤ l) (hl2 : l ≤ 1048576) :
    Calls Try.prog 14 #[.slice ad 0 cap, .int .i64 l] w fun e w' => e = .returned (.int .i64 l) ∧ w' = w := by
  go_enter Try.func14, Try.ntmps14
  go_wp2
  go_loopw [1, 5] (fun l' i wr => i = .int .i64 0 ∧ l' = .int .i64 l ∧ wr = w) (fun _ _ _ => 0)
  case atStart => exact ⟨rfl, by go_num, rfl⟩
  case round =>
    obtain ⟨rfl, rfl, rfl⟩ := hrel
    go_wp2
    go_ret
    exact ⟨rfl, rfl⟩
theorem szTextS_all (ad : Option Addr) (N cap : Nat) (s : Nat → ByteArray) (l : Int) (w : World) (hl : 0 ≤ l) (hl2 : l ≤ 1048576) (hN : N ≤ maxLen) (hn : TextsA w ad N s) (ht : ∀ i, i < N → (s i).size ≤ maxLen) :
    Calls Try.prog 14 #[.slice ad N cap, .int .i64 l] w fun e w' => (∃ r, e = .returned (.int .i64 r) ∧ -1 ≤ r ∧ r ≤ l ∧ (0 ≤ r → r + (wtx s N : Int) = l)) ∧ w' = w := by
  rcases hn with rfl | ⟨a, rfl, h1, h2⟩
  · refine (szTextS_none ad cap l w hl hl2).mono ?_
    rintro e w' ⟨rfl, rfl⟩
    exact ⟨⟨_, rfl, by omega, by omega, fun _ => by simp [wtx]⟩, rfl⟩
  · exact szTextS_any a N cap s l w hl hl2 hN h2 ht
theorem info_tx : (Try.prog.info? 9).map (fun i => (i.zero, i.size, i.bytes)) = some (some (.string ⟨#[]⟩), 1, 16) := by kernel_rfl
def TextsAt (W : World) (g N : Nat) (s : Nat → ByteArray) : Prop := ∀ i, i < N → W.cell? ⟨g, i, none⟩ = some (.string (s i))
theorem TextsAt.a {W : World} {g N : Nat} {s : Nat → ByteArray} (h : TextsAt W g N s) (hg : g < W.heap.size) : TextsA W (some ⟨g, 0, none⟩) N s := .inr ⟨_, rfl, hg, fun i hi => by rw [add_at]; exact h i hi⟩
/-- A row of n texts that is being filled: the first j texts are there. -/
def FillT (W : World) (g n j : Nat) (s : Nat → ByteArray) : Prop := (∃ cur, W.heap[g]? = some (.cells cur 9 (0, 0)) ∧ cur.size = n) ∧ TextsAt W g j s
theorem row_room {W : World} {g i : Nat} {cur : Array Value} {t : TypeId} (h : W.heap[g]? = some (.cells cur t (0, 0))) (hi : i < cur.size) :
    (∃ v, W.cell? ⟨g, i, none⟩ = some v) ∧ W.frozen? ⟨g, i, none⟩ = false :=
  ⟨⟨cur[i], by unfold World.cell?; rw [h]; simp [hi]⟩, by unfold World.frozen?; rw [h]; simp⟩
theorem row_cell {W : World} {g : Nat} {cur : Array Value} {t : TypeId} (h : W.heap[g]? = some (.cells cur t (0, 0))) (i : Nat) : W.cell? ⟨g, i, none⟩ = cur[i]? := by
  unfold World.cell?
  rw [h]; rfl
theorem fillT_step {W : World} {g N j : Nat} {s : Nat → ByteArray} {cur : Array Value} (h : W.heap[g]? = some (.cells cur 9 (0, 0)) ∧ cur.size = N) (hno : TextsAt W g j s) (hj : j < N) :
    FillT (W.setCell ⟨g, j, none⟩ (.string (s j))) g N (j + 1) s := by
  obtain ⟨h1, h2⟩ := h
  have e := set_at (.string (s j)) (i := j) h1
  refine ⟨⟨_, e, by simp [h2]⟩, ?_⟩
  have c := row_cell e
  have o := row_cell h1
  intro i hi
  rcases Nat.lt_or_eq_of_le (Nat.lt_succ_iff.1 hi) with h | h
  · have d0 := hno i h
    rw [o] at d0
    rw [c, Array.getElem?_setIfInBounds_ne (by omega)]; exact d0
  · subst h
    rw [c, Array.getElem?_setIfInBounds_self_of_lt (by omega)]
set_option maxHeartbeats 2000000 in
theorem toTextS_any (a : Addr) (N cap : Nat) (s : Nat → ByteArray) (w : World) (hN : N ≤ 1048576) (ha : a.block < w.heap.size) (hn : ∀ i, i < N → w.cell? (a.add i) = some (.string (s i))) :
    Calls Try.prog 16 #[.slice (some a) N cap] w fun e w' => e = .returned (.slice (some ⟨w.heap.size, 0, none⟩) N N) ∧ TextsAt w' w.heap.size N s ∧ w.heap.size < w'.heap.size ∧ Below w.heap.size w w' := by
  have HN := hid hn
  clear hn
  obtain ⟨i0, hi, hz0, hz1, hz2⟩ := info_parts info_tx
  have HHI := hid (And.intro hi (And.intro hz0 (And.intro hz1 hz2)))
  clear hi hz0 hz1
  go_enter Try.func16, Try.ntmps16
  go_wp2_with (at_make; refine wpList_make_full _ rfl _ _ 22 rfl w.heap.size 9 i0 (.string ⟨#[]⟩) 1 Try.underlying22 HHI.out.1 HHI.out.2.1 HHI.out.2.2.1 _ _ _ _ N rfl rfl rfl rfl (by rw [hz2]; omega) (by unfold maxLen; omega) (Nat.le_refl _) ?_; intro w1 o1 g1)
  have HF0 : Hid (FillT w1 w.heap.size N 0 s) := by
    obtain ⟨h1, ⟨h2, _⟩ | ⟨g, c, cur, e, _, h4, _, _, h7, _⟩⟩ := o1
    · cases h2
    · cases e
      exact ⟨⟨cur, h4, by rw [h7]; omega⟩, fun i h => absurd h (Nat.not_lt_zero _)⟩
  have HB0 := hid ((Below.refl w.heap.size w).grown g1 (Nat.le_refl _) (fun q e => by cases e))
  clear o1 g1
  go_loopw [4] (fun i wr => ∃ j : Nat, j ≤ N ∧ i = .int .i64 j ∧ FillT wr w.heap.size N j s ∧ Below w.heap.size w wr) (fun i _ => N - (intOf i).toNat)
  case atStart => exact ⟨0, Nat.zero_le _, rfl, HF0.out, HB0.out⟩
  case round =>
    obtain ⟨j, hj, rfl, hfi, hbw⟩ := hrel
    have HFI := hid hfi
    have HBW := hid hbw
    clear hfi hbw
    by_cases hlt : j < N
    · have c0 : wr.cell? (a.add j) = some (.string (s j)) := by
        rcases TextsA.below (.inr ⟨a, rfl, ha, HN.out⟩ : TextsA w (some a) N s) HBW.out with h | ⟨a', e, _, h2⟩
        · omega
        · cases e; exact h2 j hlt
      obtain ⟨⟨cur, hcur, hsz⟩, hno⟩ := HFI.out
      have HCUR := hid (And.intro hcur hsz)
      obtain ⟨⟨v0, x0⟩, y0⟩ := row_room hcur (i := j) (by omega)
      clear hcur hno
      go_wp2
      have HNX := hid (fillT_step HCUR.out HFI.out.2 hlt)
      go_roundw
      case rel => exact ⟨j + 1, by omega, by go_num, HNX.out, below_set HBW.out _ _ (Nat.le_refl _) _⟩
      case measure => simp [intOf]; omega
    · obtain rfl : j = N := by omega
      go_wp2
      go_ret
      exact ⟨rfl, HFI.out.2, by have := HBW.out.size; obtain ⟨⟨cur, hc, _⟩, _⟩ := HFI.out; exact (Array.getElem?_eq_some_iff.1 hc).1, HBW.out⟩
set_option maxHeartbeats 1000000 in
theorem toTextS_none (ad : Option Addr) (cap : Nat) (s : Nat → ByteArray) (w : World) :
    Calls Try.prog 16 #[.slice ad 0 cap] w fun e w' => e = .returned (.slice (some ⟨w.heap.size, 0, none⟩) 0 0) ∧ TextsAt w' w.heap.size 0 s ∧ w.heap.size < w'.heap.size ∧ Below w.heap.size w w' := by
  obtain ⟨i0, hi, hz0, hz1, hz2⟩ := info_parts info_tx
  have HHI := hid (And.intro hi (And.intro hz0 hz1))
  clear hi hz0 hz1
  go_enter Try.func16, Try.ntmps16
  go_wp2_with (at_make; refine wpList_make_full _ rfl _ _ 22 rfl w.heap.size 9 i0 (.string ⟨#[]⟩) 1 Try.underlying22 HHI.out.1 HHI.out.2.1 HHI.out.2.2 _ _ _ _ 0 rfl rfl rfl rfl (by omega) (by unfold maxLen; omega) (Nat.le_refl _) ?_; intro w1 o1 g1)
  have hsz : w.heap.size < w1.heap.size := by
    obtain ⟨h1, ⟨h2, _⟩ | ⟨g, c, cur, e, _, h4, _, _, h7, _⟩⟩ := o1
    · cases h2
    · cases e
      exact (Array.getElem?_eq_some_iff.1 h4).1
  have HB0 := hid ((Below.refl w.heap.size w).grown g1 (Nat.le_refl _) (fun q e => by cases e))
  clear o1 g1
  go_loopw [4] (fun i wr => i = .int .i64 0 ∧ wr = w1) (fun _ _ => 0)
  case atStart => exact ⟨rfl, rfl⟩
  case round =>
    obtain ⟨rfl, rfl⟩ := hrel
    go_wp2
    go_ret
    exact ⟨rfl, fun i h => absurd h (Nat.not_lt_zero _), hsz, HB0.out⟩
theorem toTextS_all (ad : Option Addr) (N cap : Nat) (s : Nat → ByteArray) (w : World) (hN : N ≤ 1048576) (hn : TextsA w ad N s) :
    Calls Try.prog 16 #[.slice ad N cap] w fun e w' => e = .returned (.slice (some ⟨w.heap.size, 0, none⟩) N N) ∧ TextsA w' (some ⟨w.heap.size, 0, none⟩) N s ∧ w.heap.size < w'.heap.size ∧ Below w.heap.size w w' := by
  rcases hn with rfl | ⟨a, rfl, h1, h2⟩
  · exact (toTextS_none ad cap s w).mono fun _ _ ⟨a, b, c, d⟩ => ⟨a, b.a c, c, d⟩
  · exact (toTextS_any a N cap s w hN h1 h2).mono fun _ _ ⟨a, b, c, d⟩ => ⟨a, b.a c, c, d⟩
set_option maxHeartbeats 1000000 in
theorem eqTextS_any (a1 a2 : Addr) (N c1 c2 : Nat) (s : Nat → ByteArray) (w : World) (hN : N ≤ 1048576) (h1 : TextsA w (some a1) N s) (h2 : TextsA w (some a2) N s) :
    Calls Try.prog 18 #[.slice (some a1) N c1, .slice (some a2) N c2] w fun e w' => e = .returned (.bool true) ∧ Below w.heap.size w w' := by
  have H1 := hid h1
  have H2 := hid h2
  clear h1 h2
  have hne : ((N : Int) != (N : Int)) = false := by simp
  go_enter Try.func18, Try.ntmps18
  go_wp2
  go_loopw [5] (fun i wr => ∃ j : Nat, j ≤ N ∧ i = .int .i64 j ∧ Below w.heap.size w wr) (fun i _ => N - (intOf i).toNat)
  case atStart => exact ⟨0, Nat.zero_le _, rfl, Below.refl _ _⟩
  case round =>
    obtain ⟨j, hj, rfl, hbw⟩ := hrel
    have HBW := hid hbw
    clear hbw
    by_cases hlt : j < N
    · have a0 : wr.cell? (a1.add j) = some (.string (s j)) := by
        rcases H1.out.below HBW.out with h | ⟨a', e, _, h2⟩
        · omega
        · cases e; exact h2 j hlt
      have b0 : wr.cell? (a2.add j) = some (.string (s j)) := by
        rcases H2.out.below HBW.out with h | ⟨a', e, _, h2⟩
        · omega
        · cases e; exact h2 j hlt
      have h5 : ((s j).toList != (s j).toList) = false := by simp
      go_wp2_with fail
      go_quiet (fail)
      go_wp2
      go_roundw
      case rel => exact ⟨j + 1, by omega, by go_num, below_drewN HBW.out nq⟩
      case measure => simp [intOf]; omega
    · obtain rfl : j = N := by omega
      go_wp2
      go_ret
      exact ⟨rfl, HBW.out⟩
set_option maxHeartbeats 1000000 in
theorem eqTextS_none (a1 a2 : Option Addr) (c1 c2 : Nat) (w : World) :
    Calls Try.prog 18 #[.slice a1 0 c1, .slice a2 0 c2] w fun e w' => e = .returned (.bool true) ∧ Below w.heap.size w w' := by
  go_enter Try.func18, Try.ntmps18
  go_wp2
  go_loopw [5] (fun i wr => i = .int .i64 0 ∧ wr = w) (fun _ _ => 0)
  case atStart => exact ⟨rfl, rfl⟩
  case round =>
    obtain ⟨rfl, rfl⟩ := hrel
    go_wp2
    go_ret
    exact ⟨rfl, Below.refl _ _⟩
theorem eqTextS_all (a1 a2 : Option Addr) (N c1 c2 : Nat) (s : Nat → ByteArray) (w : World) (hN : N ≤ 1048576) (h1 : TextsA w a1 N s) (h2 : TextsA w a2 N s) :
    Calls Try.prog 18 #[.slice a1 N c1, .slice a2 N c2] w fun e w' => e = .returned (.bool true) ∧ Below w.heap.size w w' := by
  by_cases h0 : N = 0
  · subst h0
    exact eqTextS_none a1 a2 c1 c2 w
  · have k1 := h1
    have k2 := h2
    rcases k1 with h | ⟨b1, rfl, _⟩
    · exact absurd h h0
    · rcases k2 with h | ⟨b2, rfl, _⟩
      · exact absurd h h0
      · exact eqTextS_any b1 b2 N c1 c2 s w hN h1 h2
end Go.Proofs.Ytmiodmnbkoheeaa.J
