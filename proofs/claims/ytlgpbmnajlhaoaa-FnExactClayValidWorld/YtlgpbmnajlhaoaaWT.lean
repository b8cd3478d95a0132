import Derived.Test.YtlgpbmnajlhaoaaWL
namespace Go.Proofs.Ytlgpbmnajlhaoaa
open Go.RowKit
set_option maxRecDepth 20000
theorem info_fl : (Try.prog.info? 38).map (fun i => (i.zero, i.size, i.bytes)) = some (some (.agg #[.string ⟨#[]⟩, .string ⟨#[]⟩]), 2, 32) := by kernel_rfl
theorem info_tx : (Try.prog.info? 9).map (fun i => (i.zero, i.size, i.bytes)) = some (some (.string ⟨#[]⟩), 1, 16) := by kernel_rfl
/-- A row of n files that is being filled: block g has n * 2 cells; the first j files are there. -/
def FillF (W : World) (g n j : Nat) (f : Nat → Fl) : Prop := (∃ cur, W.heap[g]? = some (.cells cur 38 (0, 0)) ∧ cur.size = n * 2) ∧ FilesAt W g j f
def FillT (W : World) (g n j : Nat) (s : Nat → ByteArray) : Prop := (∃ cur, W.heap[g]? = some (.cells cur 9 (0, 0)) ∧ cur.size = n) ∧ TextsAt W g j s
theorem row_room {W : World} {g i : Nat} {cur : Array Value} {t : TypeId} (h : W.heap[g]? = some (.cells cur t (0, 0))) (hi : i < cur.size) :
    (∃ v, W.cell? ⟨g, i, none⟩ = some v) ∧ W.frozen? ⟨g, i, none⟩ = false :=
  ⟨⟨cur[i], by unfold World.cell?; rw [h]; simp [hi]⟩, by unfold World.frozen?; rw [h]; simp⟩
theorem row_cell {W : World} {g : Nat} {cur : Array Value} {t : TypeId} (h : W.heap[g]? = some (.cells cur t (0, 0))) (i : Nat) : W.cell? ⟨g, i, none⟩ = cur[i]? := by
  unfold World.cell?
  rw [h]; rfl
theorem fillF_step {W : World} {g N j : Nat} {f : Nat → Fl} {cur : Array Value} (h : W.heap[g]? = some (.cells cur 38 (0, 0)) ∧ cur.size = N * 2) (hno : FilesAt W g j f) (hj : j < N) :
    FillF ((W.setCell ⟨g, j * 2, none⟩ (.string (f j).name)).setCell ⟨g, j * 2 + 1, none⟩ (.string (f j).text)) g N (j + 1) f := by
  obtain ⟨h1, h2⟩ := h
  have e := set_at (.string (f j).text) (i := j * 2 + 1) (set_at (.string (f j).name) (i := j * 2) h1)
  refine ⟨⟨_, e, by simp [h2]⟩, ?_⟩
  have c := row_cell e
  have o := row_cell h1
  intro i hi
  rcases Nat.lt_or_eq_of_le (Nat.lt_succ_iff.1 hi) with h | h
  · obtain ⟨d0, d1⟩ := hno i h
    rw [o] at d0 d1
    exact ⟨by rw [c, Array.getElem?_setIfInBounds_ne (by omega), Array.getElem?_setIfInBounds_ne (by omega)]; exact d0, by rw [c, Array.getElem?_setIfInBounds_ne (by omega), Array.getElem?_setIfInBounds_ne (by omega)]; exact d1⟩
  · subst h
    have hb : i * 2 + 1 < cur.size := by rw [h2]; omega
    exact ⟨by rw [c, Array.getElem?_setIfInBounds_ne (by omega), Array.getElem?_setIfInBounds_self_of_lt (by omega)], by rw [c, Array.getElem?_setIfInBounds_self_of_lt (by simp; omega)]⟩
theorem fillT_step {W : World} {g N j : Nat} {s : Nat → ByteArray} {cur : Array Value} (h : W.heap[g]? = some (.cells cur 9 (0, 0)) ∧ cur.size = N) (hno : TextsAt W g j s) (hj : j < N) :
    FillT (W.setCell ⟨g, j, none⟩ (.string (s j))) g N (j + 1) s := by
  obtain ⟨h1, h2⟩ := h
  have e := set_at (.string (s j)) (i := j) h1
  refine ⟨⟨_, e, by simp [h2]⟩, ?_⟩
  have c := row_cell e
  have o := row_cell h1
  intro i hi
  rcases Nat.lt_or_eq_of_le (Nat.lt_succ_iff.1 hi) with h | h
  · have d0 := hno i h
    rw [o] at d0
    rw [c, Array.getElem?_setIfInBounds_ne (by omega)]; exact d0
  · subst h
    rw [c, Array.getElem?_setIfInBounds_self_of_lt (by omega)]
set_option maxHeartbeats 2000000 in
theorem toFileS_any (a : Addr) (N cap : Nat) (f : Nat → Fl) (w : World) (hN : N ≤ 1048576) (ha : a.block < w.heap.size) (hn : ∀ i, i < N → TwoA w (a.add (i * 2)) (f i)) :
    Calls Try.prog 13 #[.slice (some a) N cap] w fun e w' => e = .returned (.slice (some ⟨w.heap.size, 0, none⟩) N N) ∧ FilesAt w' w.heap.size N f ∧ w.heap.size < w'.heap.size ∧ Below w.heap.size w w' := by
  have HN := hid hn
  clear hn
  obtain ⟨i0, hi, hz0, hz1, hz2⟩ := info_parts info_fl
  have HHI := hid (And.intro hi (And.intro hz0 (And.intro hz1 hz2)))
  clear hi hz0 hz1
  go_enter Try.func13, Try.ntmps13
  go_wp2_with (at_make; refine wpList_make_full _ rfl _ _ 28 rfl w.heap.size 38 i0 (.agg #[.string ⟨#[]⟩, .string ⟨#[]⟩]) 2 Try.underlying28 HHI.out.1 HHI.out.2.1 HHI.out.2.2.1 _ _ _ _ N rfl rfl rfl rfl (by rw [hz2]; omega) (by unfold maxLen; omega) (Nat.le_refl _) ?_; intro w1 o1 g1)
  have HF0 : Hid (FillF w1 w.heap.size N 0 f) := by
    obtain ⟨h1, ⟨h2, _⟩ | ⟨g, c, cur, e, _, h4, _, _, h7, _⟩⟩ := o1
    · cases h2
    · cases e
      exact ⟨⟨cur, h4, h7⟩, fun i h => absurd h (Nat.not_lt_zero _)⟩
  have HB0 := hid ((Below.refl w.heap.size w).grown g1 (Nat.le_refl _) (fun q e => by cases e))
  clear o1 g1
  go_loopw [4] (fun i wr => ∃ j : Nat, j ≤ N ∧ i = .int .i64 j ∧ FillF wr w.heap.size N j f ∧ Below w.heap.size w wr) (fun i _ => N - (intOf i).toNat)
  case atStart => exact ⟨0, Nat.zero_le _, rfl, HF0.out, HB0.out⟩
  case round =>
    obtain ⟨j, hj, rfl, hfi, hbw⟩ := hrel
    have HFI := hid hfi
    have HBW := hid hbw
    clear hfi hbw
    by_cases hlt : j < N
    · obtain ⟨c0, c1⟩ : TwoA wr (a.add (j * 2)) (f j) := by
        rcases FilesA.below (.inr ⟨a, rfl, ha, HN.out⟩ : FilesA w (some a) N f) HBW.out with h | ⟨a', e, _, h2⟩
        · omega
        · cases e; exact h2 j hlt
      go_wp2_with fail
      refine (toFile_any (f j) _).mono ?_
      rintro e w2 ⟨rfl, hb2⟩
      have HB2 := hid hb2
      obtain ⟨⟨cur, hcur, hsz⟩, hno⟩ := HFI.out
      have hcur2 := (hb2.block _ (Array.getElem?_eq_some_iff.1 hcur).1).trans hcur
      have hidx : j * 2 + 1 < cur.size := by rw [hsz]; omega
      have HCUR := hid (And.intro hcur2 hsz)
      obtain ⟨⟨v0, x0⟩, y0⟩ := row_room hcur2 (i := j * 2) (by omega)
      obtain ⟨⟨v1, x1⟩, y1⟩ := row_room hcur2 hidx
      clear hb2 hcur hcur2 hno
      go_wp2
      have HNX := hid (fillF_step HCUR.out (HFI.out.2.below (HB2.out) (by have := HBW.out.size; obtain ⟨⟨_, hc, _⟩, _⟩ := HFI.out; exact (Array.getElem?_eq_some_iff.1 hc).1)) hlt)
      have HBX := hid (HBW.out.trans (HB2.out.mono HBW.out.size))
      go_roundw
      case rel => exact ⟨j + 1, by omega, by go_num, HNX.out, below_set (below_set HBX.out _ _ (Nat.le_refl _) _) _ _ (Nat.le_refl _) _⟩
      case measure => simp [intOf]; omega
    · obtain rfl : j = N := by omega
      go_wp2
      go_ret
      exact ⟨rfl, HFI.out.2, by have := HBW.out.size; obtain ⟨⟨cur, hc, _⟩, _⟩ := HFI.out; exact (Array.getElem?_eq_some_iff.1 hc).1, HBW.out⟩
set_option maxHeartbeats 2000000 in
theorem toTextS_any (a : Addr) (N cap : Nat) (s : Nat → ByteArray) (w : World) (hN : N ≤ 1048576) (ha : a.block < w.heap.size) (hn : ∀ i, i < N → w.cell? (a.add i) = some (.string (s i))) :
    Calls Try.prog 14 #[.slice (some a) N cap] w fun e w' => e = .returned (.slice (some ⟨w.heap.size, 0, none⟩) N N) ∧ TextsAt w' w.heap.size N s ∧ w.heap.size < w'.heap.size ∧ Below w.heap.size w w' := by
  have HN := hid hn
  clear hn
  obtain ⟨i0, hi, hz0, hz1, hz2⟩ := info_parts info_tx
  have HHI := hid (And.intro hi (And.intro hz0 (And.intro hz1 hz2)))
  clear hi hz0 hz1
  go_enter Try.func14, Try.ntmps14
  go_wp2_with (at_make; refine wpList_make_full _ rfl _ _ 23 rfl w.heap.size 9 i0 (.string ⟨#[]⟩) 1 Try.underlying23 HHI.out.1 HHI.out.2.1 HHI.out.2.2.1 _ _ _ _ N rfl rfl rfl rfl (by rw [hz2]; omega) (by unfold maxLen; omega) (Nat.le_refl _) ?_; intro w1 o1 g1)
  have HF0 : Hid (FillT w1 w.heap.size N 0 s) := by
    obtain ⟨h1, ⟨h2, _⟩ | ⟨g, c, cur, e, _, h4, _, _, h7, _⟩⟩ := o1
    · cases h2
    · cases e
      exact ⟨⟨cur, h4, by rw [h7]; omega⟩, fun i h => absurd h (Nat.not_lt_zero _)⟩
  have HB0 := hid ((Below.refl w.heap.size w).grown g1 (Nat.le_refl _) (fun q e => by cases e))
  clear o1 g1
  go_loopw [4] (fun i wr => ∃ j : Nat, j ≤ N ∧ i = .int .i64 j ∧ FillT wr w.heap.size N j s ∧ Below w.heap.size w wr) (fun i _ => N - (intOf i).toNat)
  case atStart => exact ⟨0, Nat.zero_le _, rfl, HF0.out, HB0.out⟩
  case round =>
    obtain ⟨j, hj, rfl, hfi, hbw⟩ := hrel
    have HFI := hid hfi
    have HBW := hid hbw
    clear hfi hbw
    by_cases hlt : j < N
    · have c0 : wr.cell? (a.add j) = some (.string (s j)) := by
        rcases TextsA.below (.inr ⟨a, rfl, ha, HN.out⟩ : TextsA w (some a) N s) HBW.out with h | ⟨a', e, _, h2⟩
        · omega
        · cases e; exact h2 j hlt
      obtain ⟨⟨cur, hcur, hsz⟩, hno⟩ := HFI.out
      have HCUR := hid (And.intro hcur hsz)
      obtain ⟨⟨v0, x0⟩, y0⟩ := row_room hcur (i := j) (by omega)
      clear hcur hno
      go_wp2
      have HNX := hid (fillT_step HCUR.out HFI.out.2 hlt)
      go_roundw
      case rel => exact ⟨j + 1, by omega, by go_num, HNX.out, below_set HBW.out _ _ (Nat.le_refl _) _⟩
      case measure => simp [intOf]; omega
    · obtain rfl : j = N := by omega
      go_wp2
      go_ret
      exact ⟨rfl, HFI.out.2, by have := HBW.out.size; obtain ⟨⟨cur, hc, _⟩, _⟩ := HFI.out; exact (Array.getElem?_eq_some_iff.1 hc).1, HBW.out⟩
set_option maxHeartbeats 1000000 in
theorem toFileS_none (ad : Option Addr) (cap : Nat) (f : Nat → Fl) (w : World) :
    Calls Try.prog 13 #[.slice ad 0 cap] w fun e w' => e = .returned (.slice (some ⟨w.heap.size, 0, none⟩) 0 0) ∧ FilesAt w' w.heap.size 0 f ∧ w.heap.size < w'.heap.size ∧ Below w.heap.size w w' := by
  obtain ⟨i0, hi, hz0, hz1, hz2⟩ := info_parts info_fl
  have HHI := hid (And.intro hi (And.intro hz0 hz1))
  clear hi hz0 hz1
  go_enter Try.func13, Try.ntmps13
  go_wp2_with (at_make; refine wpList_make_full _ rfl _ _ 28 rfl w.heap.size 38 i0 (.agg #[.string ⟨#[]⟩, .string ⟨#[]⟩]) 2 Try.underlying28 HHI.out.1 HHI.out.2.1 HHI.out.2.2 _ _ _ _ 0 rfl rfl rfl rfl (by omega) (by unfold maxLen; omega) (Nat.le_refl _) ?_; intro w1 o1 g1)
  have hsz : w.heap.size < w1.heap.size := by
    obtain ⟨h1, ⟨h2, _⟩ | ⟨g, c, cur, e, _, h4, _, _, h7, _⟩⟩ := o1
    · cases h2
    · cases e
      exact (Array.getElem?_eq_some_iff.1 h4).1
  have HB0 := hid ((Below.refl w.heap.size w).grown g1 (Nat.le_refl _) (fun q e => by cases e))
  clear o1 g1
  go_loopw [4] (fun i wr => i = .int .i64 0 ∧ wr = w1) (fun _ _ => 0)
  case atStart => exact ⟨rfl, rfl⟩
  case round =>
    obtain ⟨rfl, rfl⟩ := hrel
    go_wp2
    go_ret
    exact ⟨rfl, fun i h => absurd h (Nat.not_lt_zero _), hsz, HB0.out⟩
set_option maxHeartbeats 1000000 in
theorem toTextS_none (ad : Option Addr) (cap : Nat) (s : Nat → ByteArray) (w : World) :
    Calls Try.prog 14 #[.slice ad 0 cap] w fun e w' => e = .returned (.slice (some ⟨w.heap.size, 0, none⟩) 0 0) ∧ TextsAt w' w.heap.size 0 s ∧ w.heap.size < w'.heap.size ∧ Below w.heap.size w w' := by
  obtain ⟨i0, hi, hz0, hz1, hz2⟩ := info_parts info_tx
  have HHI := hid (And.intro hi (And.intro hz0 hz1))
  clear hi hz0 hz1
  go_enter Try.func14, Try.ntmps14
  go_wp2_with (at_make; refine wpList_make_full _ rfl _ _ 23 rfl w.heap.size 9 i0 (.string ⟨#[]⟩) 1 Try.underlying23 HHI.out.1 HHI.out.2.1 HHI.out.2.2 _ _ _ _ 0 rfl rfl rfl rfl (by omega) (by unfold maxLen; omega) (Nat.le_refl _) ?_; intro w1 o1 g1)
  have hsz : w.heap.size < w1.heap.size := by
    obtain ⟨h1, ⟨h2, _⟩ | ⟨g, c, cur, e, _, h4, _, _, h7, _⟩⟩ := o1
    · cases h2
    · cases e
      exact (Array.getElem?_eq_some_iff.1 h4).1
  have HB0 := hid ((Below.refl w.heap.size w).grown g1 (Nat.le_refl _) (fun q e => by cases e))
  clear o1 g1
  go_loopw [4] (fun i wr => i = .int .i64 0 ∧ wr = w1) (fun _ _ => 0)
  case atStart => exact ⟨rfl, rfl⟩
  case round =>
    obtain ⟨rfl, rfl⟩ := hrel
    go_wp2
    go_ret
    exact ⟨rfl, fun i h => absurd h (Nat.not_lt_zero _), hsz, HB0.out⟩
theorem toFileS_all (ad : Option Addr) (N cap : Nat) (f : Nat → Fl) (w : World) (hN : N ≤ 1048576) (hn : FilesA w ad N f) :
    Calls Try.prog 13 #[.slice ad N cap] w fun e w' => e = .returned (.slice (some ⟨w.heap.size, 0, none⟩) N N) ∧ FilesAt w' w.heap.size N f ∧ w.heap.size < w'.heap.size ∧ Below w.heap.size w w' := by
  rcases hn with rfl | ⟨a, rfl, h1, h2⟩
  · exact toFileS_none ad cap f w
  · exact toFileS_any a N cap f w hN h1 h2
theorem toTextS_all (ad : Option Addr) (N cap : Nat) (s : Nat → ByteArray) (w : World) (hN : N ≤ 1048576) (hn : TextsA w ad N s) :
    Calls Try.prog 14 #[.slice ad N cap] w fun e w' => e = .returned (.slice (some ⟨w.heap.size, 0, none⟩) N N) ∧ TextsAt w' w.heap.size N s ∧ w.heap.size < w'.heap.size ∧ Below w.heap.size w w' := by
  rcases hn with rfl | ⟨a, rfl, h1, h2⟩
  · exact toTextS_none ad cap s w
  · exact toTextS_any a N cap s w hN h1 h2
set_option maxHeartbeats 1000000 in
theorem eqFileS_same (g1 g2 N : Nat) (f : Nat → Fl) (w : World) (hN : N ≤ 1048576) (hl1 : g1 < w.heap.size) (hl2 : g2 < w.heap.size) (h1 : FilesAt w g1 N f) (h2 : FilesAt w g2 N f) :
    Calls Try.prog 16 #[.slice (some ⟨g1, 0, none⟩) N N, .slice (some ⟨g2, 0, none⟩) N N] w fun e w' => e = .returned (.bool true) ∧ Below w.heap.size w w' := by
  have H1 := hid h1
  have H2 := hid h2
  clear h1 h2
  have hne : ((N : Int) != (N : Int)) = false := by simp
  go_enter Try.func16, Try.ntmps16
  go_wp2
  go_loopw [5] (fun i wr => ∃ j : Nat, j ≤ N ∧ i = .int .i64 j ∧ Below w.heap.size w wr) (fun i _ => N - (intOf i).toNat)
  case atStart => exact ⟨0, Nat.zero_le _, rfl, Below.refl _ _⟩
  case round =>
    obtain ⟨j, hj, rfl, hbw⟩ := hrel
    have HBW := hid hbw
    clear hbw
    by_cases hlt : j < N
    · have F1 : ∀ p : Gr wr, TwoAt p.W g1 j (f j) := fun p => (H1.out.below (HBW.out.trans (p.h.mono HBW.out.size)) hl1) j hlt
      have F2 : ∀ p : Gr wr, TwoAt p.W g2 j (f j) := fun p => (H2.out.below (HBW.out.trans (p.h.mono HBW.out.size)) hl2) j hlt
      have a0 := fun p : Gr wr => (F1 p).1
      have a1 := fun p : Gr wr => (F1 p).2
      have b0 := fun p : Gr wr => (F2 p).1
      have b1 := fun p : Gr wr => (F2 p).2
      clear F1 F2
      go_wp2_with fail
      have hne2 : Nonempty (Gr wr) := ⟨⟨wr, Below.refl _ _⟩⟩
      refine wp_region_gr (by kernel_rfl) (by kernel_rfl) ?_
      repeat (quiet_step (first | (go_at_call 22; refine Calls.gr_of (v := .bool true) fun _ => ?_; exact eqFile_same (f j) _)))
      refine wpQuiet_nil ?_
      intro _ hw'
      obtain ⟨pw, rfl⟩ := hw'
      have HB4 := hid (HBW.out.trans (pw.h.mono HBW.out.size))
      clear a0 a1 b0 b1
      go_wp2
      go_roundw
      case rel => exact ⟨j + 1, by omega, by go_num, HB4.out⟩
      case measure => simp [intOf]; omega
    · obtain rfl : j = N := by omega
      go_wp2
      go_ret
      exact ⟨rfl, HBW.out⟩
set_option maxHeartbeats 1000000 in
theorem eqTextS_same (g1 g2 N : Nat) (s : Nat → ByteArray) (w : World) (hN : N ≤ 1048576) (hl1 : g1 < w.heap.size) (hl2 : g2 < w.heap.size) (h1 : TextsAt w g1 N s) (h2 : TextsAt w g2 N s) :
    Calls Try.prog 17 #[.slice (some ⟨g1, 0, none⟩) N N, .slice (some ⟨g2, 0, none⟩) N N] w fun e w' => e = .returned (.bool true) ∧ Below w.heap.size w w' := by
  have H1 := hid h1
  have H2 := hid h2
  clear h1 h2
  have hne : ((N : Int) != (N : Int)) = false := by simp
  go_enter Try.func17, Try.ntmps17
  go_wp2
  go_loopw [5] (fun i wr => ∃ j : Nat, j ≤ N ∧ i = .int .i64 j ∧ Below w.heap.size w wr) (fun i _ => N - (intOf i).toNat)
  case atStart => exact ⟨0, Nat.zero_le _, rfl, Below.refl _ _⟩
  case round =>
    obtain ⟨j, hj, rfl, hbw⟩ := hrel
    have HBW := hid hbw
    clear hbw
    by_cases hlt : j < N
    · have a0 := (H1.out.below HBW.out hl1) j hlt
      have b0 := (H2.out.below HBW.out hl2) j hlt
      have h5 : ((s j).toList != (s j).toList) = false := by simp
      go_wp2_with fail
      go_quiet (fail)
      go_wp2
      go_roundw
      case rel => exact ⟨j + 1, by omega, by go_num, below_drewN HBW.out nq⟩
      case measure => simp [intOf]; omega
    · obtain rfl : j = N := by omega
      go_wp2
      go_ret
      exact ⟨rfl, HBW.out⟩
set_option maxHeartbeats 1000000 in
theorem eqWorld_same (g1 g2 k1 k2 N M : Nat) (f : Nat → Fl) (s : Nat → ByteArray) (w : World) (hN : N ≤ 1048576) (hM : M ≤ 1048576) (hl1 : g1 < w.heap.size) (hl2 : g2 < w.heap.size) (hl3 : k1 < w.heap.size) (hl4 : k2 < w.heap.size) (h1 : FilesAt w g1 N f) (h2 : FilesAt w g2 N f) (h3 : TextsAt w k1 M s) (h4 : TextsAt w k2 M s) :
    Calls Try.prog 8 #[.agg #[.slice (some ⟨g1, 0, none⟩) N N, .slice (some ⟨k1, 0, none⟩) M M], .agg #[.slice (some ⟨g2, 0, none⟩) N N, .slice (some ⟨k2, 0, none⟩) M M]] w fun e w' => e = .returned (.bool true) ∧ Below w.heap.size w w' := by
  have HB := hid (below_two' w (.cells #[.slice (some ⟨g1, 0, none⟩) N N, .slice (some ⟨k1, 0, none⟩) M M] 30) (.cells #[.slice (some ⟨g2, 0, none⟩) N N, .slice (some ⟨k2, 0, none⟩) M M] 30))
  have H1 := hid (h1.below HB.out hl1)
  have H2 := hid (h2.below HB.out hl2)
  have H3 := hid h3
  have H4 := hid h4
  clear h1 h2 h3 h4
  go_enter Try.func8, Try.ntmps8
  go_wp2_with fail
  refine (eqFileS_same g1 g2 N f _ hN (by simp; omega) (by simp; omega) H1.out H2.out).mono ?_
  rintro e w1 ⟨rfl, hb1⟩
  have HB1 := hid (HB.out.trans (hb1.mono (by simp; omega)))
  have hx1 : Below (w.heap.size + 1 + 1) ((w.alloc (.cells #[.slice (some ⟨g1, 0, none⟩) N N, .slice (some ⟨k1, 0, none⟩) M M] 30)).alloc (.cells #[.slice (some ⟨g2, 0, none⟩) N N, .slice (some ⟨k2, 0, none⟩) M M] 30)) w1 := hb1.mono (by simp)
  have b1 : w1.cell? ⟨w.heap.size, 1, none⟩ = some (.slice (some ⟨k1, 0, none⟩) M M) := (world_box (((Below.refl (w.heap.size + 1) _).alloc (by simp) _).trans (hx1.mono (by omega)))).2
  have b2 : w1.cell? ⟨w.heap.size + 1, 1, none⟩ = some (.slice (some ⟨k2, 0, none⟩) M M) := by
    have hq := world_box (w := w.alloc (.cells #[.slice (some ⟨g1, 0, none⟩) N N, .slice (some ⟨k1, 0, none⟩) M M] 30)) (by simpa using hx1)
    simpa using hq.2
  clear hb1 hx1
  go_wp2_with fail
  refine (eqTextS_same k1 k2 M s _ hM (Nat.lt_of_lt_of_le hl3 HB1.out.size) (Nat.lt_of_lt_of_le hl4 HB1.out.size) (H3.out.below HB1.out hl3) (H4.out.below HB1.out hl4)).mono ?_
  rintro e w2 ⟨rfl, hb2⟩
  have HB2 := hid (HB1.out.trans (hb2.mono HB1.out.size))
  clear hb2 b1 b2
  go_wp2
  go_ret
  exact ⟨rfl, HB2.out⟩
end Go.Proofs.Ytlgpbmnajlhaoaa
