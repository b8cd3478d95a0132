import Derived.Test.YtlgpbmnajlhaoaaWB
/-! The law's helpers over rows of files and of texts: sizes, copies, sameness. -/
namespace Go.Proofs.Ytlgpbmnajlhaoaa
open Go.RowKit
set_option maxRecDepth 20000
def TwoA (W : World) (a : Addr) (x : Fl) : Prop := W.cell? a = some (.string x.name) ∧ W.cell? ⟨a.block, a.off + 1, none⟩ = some (.string x.text)
/-- N files, and N texts, that came in. -/
def FilesA (W : World) (ad : Option Addr) (N : Nat) (f : Nat → Fl) : Prop := N = 0 ∨ ∃ a, ad = some a ∧ a.block < W.heap.size ∧ ∀ i, i < N → TwoA W (a.add (i * 2)) (f i)
def TextsA (W : World) (ad : Option Addr) (N : Nat) (s : Nat → ByteArray) : Prop := N = 0 ∨ ∃ a, ad = some a ∧ a.block < W.heap.size ∧ ∀ i, i < N → W.cell? (a.add i) = some (.string (s i))
theorem FilesA.below {W W' : World} {ad : Option Addr} {N : Nat} {f : Nat → Fl} (h : FilesA W ad N f) (hb : Below W.heap.size W W') : FilesA W' ad N f := by
  rcases h with h | ⟨a, rfl, h1, h2⟩
  · exact .inl h
  · refine .inr ⟨a, rfl, Nat.lt_of_lt_of_le h1 hb.size, fun i hi => ?_⟩
    have hk : ∀ p : Addr, p.block = a.block → W'.cell? p = W.cell? p := fun p hp => hb.cell (by rw [hp]; exact h1)
    obtain ⟨c0, c1⟩ := h2 i hi
    exact ⟨(hk _ (add_block a _)).trans c0, (hk ⟨_, _, none⟩ (add_block a _)).trans c1⟩
theorem TextsA.below {W W' : World} {ad : Option Addr} {N : Nat} {s : Nat → ByteArray} (h : TextsA W ad N s) (hb : Below W.heap.size W W') : TextsA W' ad N s := by
  rcases h with h | ⟨a, rfl, h1, h2⟩
  · exact .inl h
  · refine .inr ⟨a, rfl, Nat.lt_of_lt_of_le h1 hb.size, fun i hi => ?_⟩
    exact (hb.cell (by rw [add_block]; exact h1)).trans (h2 i hi)
set_option maxHeartbeats 1000000 in
theorem szFile_any (x : Fl) (l : Int) (w : World) (hl : 0 ≤ l) (hl2 : l ≤ 1048576) (hn : x.name.size ≤ maxLen) (ht : x.text.size ≤ maxLen) :
    Calls Try.prog 18 #[.agg #[.string x.name, .string x.text], .int .i64 l] w fun e w' => (∃ r, e = .returned (.int .i64 r) ∧ -1 ≤ r ∧ r ≤ 1048576) ∧ Below w.heap.size w w' := by
  obtain ⟨n, t⟩ := x
  unfold maxLen at ht hn
  have ht' : t.size ≤ 9223372036854775807 := by simpa using ht
  have hn' : n.size ≤ 9223372036854775807 := by simpa using hn
  clear ht hn
  by_cases h : l - (n.size : Int) < 0
  · go_enter Try.func18, Try.ntmps18
    go_wp2
    go_ret
    exact ⟨⟨_, rfl, by omega, by omega⟩, (Below.refl _ _).alloc (Nat.le_refl _) _⟩
  · by_cases h2 : l - (n.size : Int) - (t.size : Int) < 0
    · go_enter Try.func18, Try.ntmps18
      go_wp2
      go_ret
      exact ⟨⟨_, rfl, by omega, by omega⟩, (Below.refl _ _).alloc (Nat.le_refl _) _⟩
    · go_enter Try.func18, Try.ntmps18
      go_wp2
      go_ret
      exact ⟨⟨_, rfl, by omega, by omega⟩, (Below.refl _ _).alloc (Nat.le_refl _) _⟩
set_option maxHeartbeats 1000000 in
theorem toFile_any (x : Fl) (w : World) :
    Calls Try.prog 20 #[.agg #[.string x.name, .string x.text]] w fun e w' => e = .returned (.agg #[.string x.name, .string x.text]) ∧ Below w.heap.size w w' := by
  obtain ⟨n, t⟩ := x
  go_enter Try.func20, Try.ntmps20
  go_wp2
  refine bodyPost_ret (v := .agg #[.string n, .string t]) ?_ rfl ⟨rfl, ?_⟩
  · simp [results, Try.results20, go_sem]
  · exact (below_two' _ _ _).alloc (by simp; omega) _
set_option maxHeartbeats 1000000 in
theorem eqFile_same (x : Fl) (w : World) :
    Calls Try.prog 22 #[.agg #[.string x.name, .string x.text], .agg #[.string x.name, .string x.text]] w fun e w' => e = .returned (.bool true) ∧ Below w.heap.size w w' := by
  obtain ⟨n, t⟩ := x
  have h4 : (n.toList != n.toList) = false := by simp
  have h5 : (t.toList != t.toList) = false := by simp
  go_enter Try.func22, Try.ntmps22
  go_wp2
  go_ret
  exact ⟨rfl, below_two' _ _ _⟩
set_option maxHeartbeats 1000000 in
theorem szFileS_any (a : Addr) (N cap : Nat) (f : Nat → Fl) (w : World) (hN : N ≤ maxLen) (ha : a.block < w.heap.size) (hn : ∀ i, i < N → TwoA w (a.add (i * 2)) (f i)) (ht : ∀ i, i < N → (f i).name.size ≤ maxLen ∧ (f i).text.size ≤ maxLen) :
    Calls Try.prog 9 #[.slice (some a) N cap, .int .i64 1048576] w fun e w' => (∃ r, e = .returned (.int .i64 r) ∧ -1 ≤ r ∧ r ≤ 1048576 ∧ (0 ≤ r → N ≤ 1048576)) ∧ Below w.heap.size w w' := by
  have HN := hid hn
  have HT := hid ht
  unfold maxLen at hN
  have hN' : N ≤ 9223372036854775807 := by simpa using hN
  clear hn ht hN
  by_cases h0 : N ≤ 1048576
  · have h1 : ¬ (1048576 : Int) - (N : Int) < 0 := by omega
    go_enter Try.func9, Try.ntmps9
    go_wp2
    go_loopw [1, 5] (fun l i wr => ∃ (j : Nat) (r : Int), j ≤ N ∧ i = .int .i64 j ∧ l = .int .i64 r ∧ 0 ≤ r ∧ r ≤ 1048576 ∧ Below w.heap.size w wr) (fun _ i _ => N - (intOf i).toNat)
    case atStart => exact ⟨0, _, Nat.zero_le _, rfl, rfl, by omega, by omega, Below.refl _ _⟩
    case round =>
      obtain ⟨j, r, hj, rfl, rfl, hr0, hr1, hbw⟩ := hrel
      have HBW := hid hbw
      clear hbw
      by_cases hlt : j < N
      · obtain ⟨c0, c1⟩ : TwoA wr (a.add (j * 2)) (f j) := by
          rcases FilesA.below (.inr ⟨a, rfl, ha, HN.out⟩ : FilesA w (some a) N f) HBW.out with h | ⟨a', e, _, h2⟩
          · omega
          · cases e; exact h2 j hlt
        go_wp2_with fail
        refine (szFile_any (f j) r _ hr0 hr1 (HT.out j hlt).1 (HT.out j hlt).2).mono ?_
        rintro e w1 ⟨⟨r2, rfl, hr3, hr4⟩, hb1⟩
        have HB1 := hid (HBW.out.trans (hb1.mono HBW.out.size))
        clear hb1 c0 c1
        by_cases hs : r2 < 0
        · go_wp2
          go_ret
          exact ⟨⟨-1, rfl, by omega, by omega, fun h => by omega⟩, HB1.out⟩
        · go_wp2
          go_roundw
          case rel => exact ⟨j + 1, r2, by omega, by go_num, rfl, by omega, hr4, HB1.out⟩
          case measure => simp [intOf]; omega
      · obtain rfl : j = N := by omega
        go_wp2
        go_ret
        exact ⟨⟨r, rfl, by omega, hr1, fun _ => h0⟩, HBW.out⟩
  · have h1 : (1048576 : Int) - (N : Int) < 0 := by omega
    go_enter Try.func9, Try.ntmps9
    go_wp2
    go_ret
    exact ⟨⟨-1, rfl, by omega, by omega, fun h => by omega⟩, Below.refl _ _⟩
set_option maxHeartbeats 1000000 in
theorem szTextS_any (a : Addr) (N cap : Nat) (s : Nat → ByteArray) (l : Int) (w : World) (hl : 0 ≤ l) (hl2 : l ≤ 1048576) (hN : N ≤ maxLen) (hn : ∀ i, i < N → w.cell? (a.add i) = some (.string (s i))) (ht : ∀ i, i < N → (s i).size ≤ maxLen) :
    Calls Try.prog 10 #[.slice (some a) N cap, .int .i64 l] w fun e w' => (∃ r, e = .returned (.int .i64 r) ∧ -1 ≤ r ∧ r ≤ 1048576 ∧ (0 ≤ r → N ≤ 1048576)) ∧ w' = w := by
  have HN := hid hn
  have HT := hid ht
  unfold maxLen at hN
  have hN' : N ≤ 9223372036854775807 := by simpa using hN
  clear hn ht hN
  by_cases h1 : l - (N : Int) < 0
  · go_enter Try.func10, Try.ntmps10
    go_wp2
    go_ret
    exact ⟨⟨-1, rfl, by omega, by omega, fun h => by omega⟩, rfl⟩
  · go_enter Try.func10, Try.ntmps10
    go_wp2
    go_loopw [1, 5] (fun l i wr => ∃ (j : Nat) (r : Int), j ≤ N ∧ i = .int .i64 j ∧ l = .int .i64 r ∧ 0 ≤ r ∧ r ≤ 1048576 ∧ wr = w) (fun _ i _ => N - (intOf i).toNat)
    case atStart => exact ⟨0, _, Nat.zero_le _, rfl, rfl, by omega, by omega, rfl⟩
    case round =>
      obtain ⟨j, r, hj, rfl, rfl, hr0, hr1, rfl⟩ := hrel
      by_cases hlt : j < N
      · have c0 := HN.out j hlt
        have c1 := HT.out j hlt
        unfold maxLen at c1
        have c1' : (s j).size ≤ 9223372036854775807 := by simpa using c1
        clear c1
        by_cases hs : r - ((s j).size : Int) < 0
        · go_wp2
          go_ret
          exact ⟨⟨-1, rfl, by omega, by omega, fun h => by omega⟩, rfl⟩
        · obtain ⟨r2, hr2⟩ : ∃ r2, r - ((s j).size : Int) = r2 := ⟨_, rfl⟩
          have hr3 : 0 ≤ r2 := by omega
          have hr4 : r2 ≤ 1048576 := by omega
          go_wp2
          go_roundw
          case rel => exact ⟨j + 1, r2, by omega, by go_num, by go_num, hr3, hr4, by trivial⟩
          case measure => simp [intOf]; omega
      · obtain rfl : j = N := by omega
        go_wp2
        go_ret
        exact ⟨⟨r, rfl, by omega, hr1, fun _ => by omega⟩, rfl⟩
set_option maxHeartbeats 1000000 in
theorem szFileS_none (ad : Option Addr) (cap : Nat) (w : World) :
    Calls Try.prog 9 #[.slice ad 0 cap, .int .i64 1048576] w fun e w' => e = .returned (.int .i64 1048576) ∧ w' = w := by
  go_enter Try.func9, Try.ntmps9
  go_wp2
  go_loopw [1, 5] (fun l i wr => i = .int .i64 0 ∧ l = .int .i64 1048576 ∧ wr = w) (fun _ _ _ => 0)
  case atStart => exact ⟨rfl, rfl, rfl⟩
  case round =>
    obtain ⟨rfl, rfl, rfl⟩ := hrel
    go_wp2
    go_ret
    exact ⟨rfl, rfl⟩
set_option maxHeartbeats 1000000 in
theorem szTextS_none (ad : Option Addr) (cap : Nat) (l : Int) (w : World) (hl : 0 ≤ l) (hl2 : l ≤ 1048576) :
    Calls Try.prog 10 #[.slice ad 0 cap, .int .i64 l] w fun e w' => e = .returned (.int .i64 l) ∧ w' = w := by
  go_enter Try.func10, Try.ntmps10
  go_wp2
  go_loopw [1, 5] (fun l' i wr => i = .int .i64 0 ∧ l' = .int .i64 l ∧ wr = w) (fun _ _ _ => 0)
  case atStart => exact ⟨rfl, by go_num, rfl⟩
  case round =>
    obtain ⟨rfl, rfl, rfl⟩ := hrel
    go_wp2
    go_ret
    exact ⟨rfl, rfl⟩
theorem szFileS_all (ad : Option Addr) (N cap : Nat) (f : Nat → Fl) (w : World) (hN : N ≤ maxLen) (hn : FilesA w ad N f) (ht : ∀ i, i < N → (f i).name.size ≤ maxLen ∧ (f i).text.size ≤ maxLen) :
    Calls Try.prog 9 #[.slice ad N cap, .int .i64 1048576] w fun e w' => (∃ r, e = .returned (.int .i64 r) ∧ -1 ≤ r ∧ r ≤ 1048576 ∧ (0 ≤ r → N ≤ 1048576)) ∧ Below w.heap.size w w' := by
  rcases hn with rfl | ⟨a, rfl, h1, h2⟩
  · refine (szFileS_none ad cap w).mono ?_
    rintro e w' ⟨rfl, rfl⟩
    exact ⟨⟨_, rfl, by omega, by omega, fun _ => by omega⟩, Below.refl _ _⟩
  · exact szFileS_any a N cap f w hN h1 h2 ht
theorem szTextS_all (ad : Option Addr) (N cap : Nat) (s : Nat → ByteArray) (l : Int) (w : World) (hl : 0 ≤ l) (hl2 : l ≤ 1048576) (hN : N ≤ maxLen) (hn : TextsA w ad N s) (ht : ∀ i, i < N → (s i).size ≤ maxLen) :
    Calls Try.prog 10 #[.slice ad N cap, .int .i64 l] w fun e w' => (∃ r, e = .returned (.int .i64 r) ∧ -1 ≤ r ∧ r ≤ 1048576 ∧ (0 ≤ r → N ≤ 1048576)) ∧ w' = w := by
  rcases hn with rfl | ⟨a, rfl, h1, h2⟩
  · refine (szTextS_none ad cap l w hl hl2).mono ?_
    rintro e w' ⟨rfl, rfl⟩
    exact ⟨⟨_, rfl, by omega, by omega, fun _ => by omega⟩, rfl⟩
  · exact szTextS_any a N cap s l w hl hl2 hN h2 ht
set_option maxHeartbeats 1000000 in
theorem szWorld_any (ad an : Option Addr) (N M c1 c2 : Nat) (f : Nat → Fl) (s : Nat → ByteArray) (w : World) (hN : N ≤ maxLen) (hM : M ≤ maxLen) (hF : FilesA w ad N f) (hS : TextsA w an M s) (hx : ∀ i, i < N → (f i).name.size ≤ maxLen ∧ (f i).text.size ≤ maxLen) (hy : ∀ i, i < M → (s i).size ≤ maxLen) :
    Calls Try.prog 4 #[.agg #[.slice ad N c1, .slice an M c2], .int .i64 1048576] w fun e w' => (∃ r, e = .returned (.int .i64 r) ∧ (0 ≤ r → N ≤ 1048576 ∧ M ≤ 1048576)) ∧ Below w.heap.size w w' := by
  have HF := hid hF
  have HS := hid hS
  have HX := hid hx
  have HY := hid hy
  clear hF hS hx hy
  have HB0 := hid (Below.refl (w.heap.size + 1) (w.alloc (.cells #[.slice ad N c1, .slice an M c2] 25)))
  go_enter Try.func4, Try.ntmps4
  go_wp2_with fail
  refine (szFileS_all ad N c1 f _ hN (HF.out.below (btwo HB0.out)) HX.out).mono ?_
  rintro e w1 ⟨⟨r, rfl, h1, h2, h3⟩, hb1⟩
  have HB1 := hid (HB0.out.trans (hb1.mono (by simp)))
  have H3 := hid h3
  obtain ⟨b0, b1⟩ := world_box HB1.out
  clear hb1 h3
  by_cases hr : r < 0
  · go_wp2
    go_ret
    exact ⟨⟨-1, rfl, fun h => by omega⟩, btwo HB1.out⟩
  · go_wp2_with fail
    refine (szTextS_all an M c2 s r _ (by omega) h2 hM (HS.out.below (btwo HB1.out)) HY.out).mono ?_
    rintro e w2 ⟨⟨r2, rfl, h5, h6, h7⟩, hw⟩
    have hw' := hw.symm
    subst hw'
    have H7 := hid h7
    clear h7 hw b0 b1
    by_cases hr2 : r2 < 0
    · go_wp2
      go_ret
      exact ⟨⟨-1, rfl, fun h => by omega⟩, btwo HB1.out⟩
    · have HH := hid (And.intro (H3.out (by omega)) (H7.out (by omega)))
      go_wp2
      go_ret
      exact ⟨⟨r2, rfl, fun _ => HH.out⟩, btwo HB1.out⟩
end Go.Proofs.Ytlgpbmnajlhaoaa
