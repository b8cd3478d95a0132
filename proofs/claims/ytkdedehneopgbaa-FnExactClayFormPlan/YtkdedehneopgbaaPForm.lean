import Derived.Test.YtkdedehneopgbaaPImp
/-! The program's ClayFormPlan. -/
namespace Go.Proofs.Ytkdedehneopgbaa
open Go.RowKit
set_option maxRecDepth 20000
theorem wr_new (w : World) : WrC w.heap.size w.heap.size (.map none) (.pointer none) (.slice none 0 0) [] (w.alloc (.cells #[.pointer none, .slice none 0 0, .map none] 44)) :=
  ⟨Nat.le_refl _, heap_alloc_new w _, ⟨rfl, .inl ⟨rfl, rfl⟩⟩⟩
theorem five_new (w : World) (x : Tg) (ai ao : Option Addr) (ci co : Nat) (B b : Nat) (hb : b < w.heap.size) : ∀ W, Wk B b (w.alloc (.cells #[.string x.name, .string x.tool, .string x.arg, .slice ai x.N ci, .slice ao x.M co] 34)) W →
    W.cell? ⟨w.heap.size, 0, none⟩ = some (.string x.name) ∧ W.cell? ⟨w.heap.size, 1, none⟩ = some (.string x.tool) ∧ W.cell? ⟨w.heap.size, 2, none⟩ = some (.string x.arg) ∧ W.cell? ⟨w.heap.size, 3, none⟩ = some (.slice ai x.N ci) ∧ W.cell? ⟨w.heap.size, 4, none⟩ = some (.slice ao x.M co) := fun W h => by
  have hn : NotB (w.alloc (.cells #[.string x.name, .string x.tool, .string x.arg, .slice ai x.N ci, .slice ao x.M co] 34)) w.heap.size := NotB.of (heap_alloc_new w _) (by decide)
  have k : ∀ i, W.cell? ⟨w.heap.size, i, none⟩ = (#[.string x.name, .string x.tool, .string x.arg, .slice ai x.N ci, .slice ao x.M co] : Array Value)[i]? := fun i => (h.cell (p := ⟨w.heap.size, i, none⟩) (by simp) (by simp; omega) (.inr hn)).trans (cell_new_row w _ _ i)
  exact ⟨k 0, k 1, k 2, k 3, k 4⟩
set_option maxHeartbeats 4000000 in
theorem implForm_any (a : Addr) (N cap : Nat) (f : Nat → Tg) (w : World) (hN0 : 0 < N) (hW : wpl f N ≤ 1048576) (ha : a.block < w.heap.size) (hn : ∀ i, i < N → FiveT w (fun _ => True) (a.add (i * 5)) (f i)) :
    Calls Try.prog 7 #[.slice (some a) N cap] w fun e w' => e = .returned (.string ⟨(formL f N).toArray⟩) ∧ Below w.heap.size w w' := by
  have HN := hid hn
  have HRM : Hid (∀ j, j < N → (formL f j).length + 10 + 7 * wtg (f j) ≤ 10485760 ∧ wtg (f j) ≤ 1048576) := fun j hj => formL_room f hj hW
  have hNN : N ≤ 1048576 := Nat.le_trans (wpl_ge f N) hW
  have HW0 := hid (wr_new w)
  have HB0 := hid ((Below.refl w.heap.size w).alloc (Nat.le_refl _) (.cells #[.pointer none, .slice none 0 0, .map none] 44))
  clear hn hW
  go_enter Try.func7, Try.ntmps7
  go_wp2
  go_loopw [8] (fun c wr => ∃ j : Nat, j ≤ N ∧ c = .int .i64 j ∧ WrAt w.heap.size w.heap.size (.map none) (formL f j) wr ∧ Below w.heap.size w wr) (fun c _ => N - (intOf c).toNat)
  case atStart => exact ⟨0, Nat.zero_le _, rfl, ⟨_, _, .inl rfl, by simpa [formL] using HW0.out⟩, HB0.out⟩
  case round =>
    obtain ⟨j, hj, rfl, hwr, hbw⟩ := hrel
    have HWR := hid hwr
    have HBW := hid hbw
    clear hwr hbw
    by_cases hlt : j < N
    · obtain ⟨ai, ci, ao, co, hf, t1, t2, _⟩ := HN.out j hlt
      have HE1 := hid t1.early
      have HE2 := hid t2.early
      obtain ⟨c0, c1, c2, c3, c4⟩ : FiveC wr (a.add (j * 5)) (f j) ai ci ao co := hf.of_cells fun p hp => HBW.out.cell (by rw [hp, add_block]; exact ha)
      have HRJ := hid (HRM.out j hlt)
      have HFS := hid (formL_succ f j)
      obtain ⟨L, hL⟩ : ∃ L, formL f j = L := ⟨_, rfl⟩
      rw [hL] at HWR HRJ HFS
      clear hL t1 t2 hf
      obtain ⟨X, hX⟩ : ∃ X, f j = X := ⟨_, rfl⟩
      rw [hX] at c0 c1 c2 c3 c4 HE1 HE2 HRJ HFS
      clear hX
      have hbs : w.heap.size < wr.heap.size := HWR.out.lt
      have HFV := hid (five_new wr X ai ao ci co w.heap.size w.heap.size hbs)
      have HWA := hid (HWR.out.next ((Below.refl wr.heap.size wr).alloc (Nat.le_refl _) (.cells #[.string X.name, .string X.tool, .string X.arg, .slice ai X.N ci, .slice ao X.M co] 34)))
      have HKA := hid (Wk.refl w.heap.size w.heap.size (wr.alloc (.cells #[.string X.name, .string X.tool, .string X.arg, .slice ai X.N ci, .slice ao X.M co] 34)))
      have HBA := hid (HBW.out.alloc HBW.out.size (.cells #[.string X.name, .string X.tool, .string X.arg, .slice ai X.N ci, .slice ao X.M co] 34))
      have HSZ : Hid (L.length + 10 + 3 * (X.name.size + X.tool.size + X.arg.size) + 7 * (wtx X.ins X.N + wtx X.outs X.M) ≤ 10485760 ∧ X.name.size + X.tool.size + X.arg.size + wtx X.ins X.N + wtx X.outs X.M ≤ 1048576) := by
        have := HRJ.out
        simp only [wtg] at this
        show _ ∧ _
        omega
      have q1 := quoteL_len X.name.data.toList
      have q2 := quoteL_len X.tool.data.toList
      have q3 := quoteL_len X.arg.data.toList
      rw [len_size] at q1 q2 q3
      have HQ := hid (And.intro q1 (And.intro q2 q3))
      clear q1 q2 q3
      go_wp2_with fail
      clear c0 c1 c2 c3 c4
      refine (quoted_any w.heap.size w.heap.size (.map none) _ X.name _ HWA.out (by have := HSZ.out.2; omega) (by have hz := HSZ.out; have hq := HQ.out; (try simp only [List.length_append, List.length_cons, List.length_nil]); omega)).mono ?_
      rintro e w1 ⟨rfl, hw1, hk1⟩
      have HW1 := hid hw1
      have HK1 := hid (HKA.out.trans hk1)
      obtain ⟨x0, x1, x2, x3, x4⟩ := HFV.out _ HK1.out
      clear hw1 hk1
      go_wp2_with fail
      clear x0 x1 x2 x3 x4
      refine (put1 w.heap.size w.heap.size (.map none) _ ⟨#[58, 32]⟩ _ HW1.out (by have hz := HSZ.out; have hq := HQ.out; simp only [List.length_append, List.length_cons, List.length_nil, ByteArray.size, List.size_toArray]; omega)).mono ?_
      rintro e w2 ⟨rfl, hw2, hk2⟩
      simp only [] at hw2
      have HW2 := hid hw2
      have HK2 := hid (HK1.out.trans hk2)
      obtain ⟨x0, x1, x2, x3, x4⟩ := HFV.out _ HK2.out
      clear hw2 hk2
      go_wp2_with fail
      clear x0 x1 x2 x3 x4
      refine (quoted_any w.heap.size w.heap.size (.map none) _ X.tool _ HW2.out (by have := HSZ.out.2; omega) (by have hz := HSZ.out; have hq := HQ.out; (try simp only [List.length_append, List.length_cons, List.length_nil]); omega)).mono ?_
      rintro e w3 ⟨rfl, hw3, hk3⟩
      have HW3 := hid hw3
      have HK3 := hid (HK2.out.trans hk3)
      obtain ⟨x0, x1, x2, x3, x4⟩ := HFV.out _ HK3.out
      clear hw3 hk3
      go_wp2_with fail
      clear x0 x1 x2 x3 x4
      refine (put1 w.heap.size w.heap.size (.map none) _ ⟨#[32]⟩ _ HW3.out (by have hz := HSZ.out; have hq := HQ.out; simp only [List.length_append, List.length_cons, List.length_nil, ByteArray.size, List.size_toArray]; omega)).mono ?_
      rintro e w4 ⟨rfl, hw4, hk4⟩
      simp only [] at hw4
      have HW4 := hid hw4
      have HK4 := hid (HK3.out.trans hk4)
      obtain ⟨x0, x1, x2, x3, x4⟩ := HFV.out _ HK4.out
      clear hw4 hk4
      go_wp2_with fail
      clear x0 x1 x2 x3 x4
      refine (quoted_any w.heap.size w.heap.size (.map none) _ X.arg _ HW4.out (by have := HSZ.out.2; omega) (by have hz := HSZ.out; have hq := HQ.out; (try simp only [List.length_append, List.length_cons, List.length_nil]); omega)).mono ?_
      rintro e w5 ⟨rfl, hw5, hk5⟩
      have HW5 := hid hw5
      have HK5 := hid (HK4.out.trans hk5)
      obtain ⟨x0, x1, x2, x3, x4⟩ := HFV.out _ HK5.out
      clear hw5 hk5
      go_wp2_with fail
      clear x0 x1 x2 x3 x4
      refine (put1 w.heap.size w.heap.size (.map none) _ ⟨#[10]⟩ _ HW5.out (by have hz := HSZ.out; have hq := HQ.out; simp only [List.length_append, List.length_cons, List.length_nil, ByteArray.size, List.size_toArray]; omega)).mono ?_
      rintro e w6 ⟨rfl, hw6, hk6⟩
      simp only [] at hw6
      have HW6 := hid hw6
      have HK6 := hid (HK5.out.trans hk6)
      obtain ⟨x0, x1, x2, x3, x4⟩ := HFV.out _ HK6.out
      clear hw6 hk6
      go_wp2_with fail
      clear x0 x1 x2 x3 x4
      have HEA : Hid (∀ W, Wk w.heap.size w.heap.size (wr.alloc (.cells #[.string X.name, .string X.tool, .string X.arg, .slice ai X.N ci, .slice ao X.M co] 34)) W → Early w.heap.size W ai X.N X.ins ∧ Early w.heap.size W ao X.M X.outs) := fun W hk => by
        have hk0 : Wk w.heap.size w.heap.size w W := ⟨hk.os.trans HBA.out.os, hk.tape.trans HBA.out.tape, hk.output.trans HBA.out.output, Nat.le_trans HBA.out.size hk.size, fun i hi hb hn => (hk.block i (Nat.lt_of_lt_of_le hi HBA.out.size) hb (.inl hi)).trans (HBA.out.block i hi)⟩
        exact ⟨HE1.out.wk hk0 (Nat.le_refl _), HE2.out.wk hk0 (Nat.le_refl _)⟩
      have HHL := hid (headL_len X)
      have HH : Hid (L ++ quoteL X.name.data.toList ++ (⟨#[58, 32]⟩ : ByteArray).data.toList ++ quoteL X.tool.data.toList ++ (⟨#[32]⟩ : ByteArray).data.toList ++ quoteL X.arg.data.toList ++ (⟨#[10]⟩ : ByteArray).data.toList = L ++ headL X) := by
        show _ = _
        simp [headL]
      rw [HH.out] at HW6
      refine (lines_all w.heap.size w.heap.size (.map none) (L ++ headL X) 60 ai X.N ci X.ins _ HW6.out (by have := HSZ.out.2; omega) (by have := HSZ.out.1; have := HHL.out; simp only [List.length_append]; omega) (HEA.out _ HK6.out).1).mono ?_
      rintro e w7 ⟨rfl, hw7, hk7⟩
      have HW7 := hid hw7
      have HK7 := hid (HK6.out.trans hk7)
      obtain ⟨x0, x1, x2, x3, x4⟩ := HFV.out _ HK7.out
      clear hw7 hk7
      go_wp2_with fail
      clear x0 x1 x2 x3 x4
      have HL7 := hid (linesL_len 60 X.ins X.N)
      refine (lines_all w.heap.size w.heap.size (.map none) _ 62 ao X.M co X.outs _ HW7.out (by have := HSZ.out.2; omega) (by have := HSZ.out.1; have := HHL.out; have := HL7.out; simp only [List.length_append]; omega) (HEA.out _ HK7.out).2).mono ?_
      rintro e w8 ⟨rfl, hw8, hk8⟩
      have HW8 := hid hw8
      have HK8 := hid (HK7.out.trans hk8)
      have HB8 := hid (HBA.out.trans (HK8.out.below (Nat.le_refl _) (by have := HBA.out.size; simpa using this)))
      clear hw8 hk8
      go_wp2
      go_roundw
      case rel =>
        refine ⟨j + 1, by omega, by go_num, ?_, HB8.out⟩
        rw [HFS.out]
        have e : L ++ formT X = L ++ headL X ++ linesL 60 X.ins X.N ++ linesL 62 X.outs X.M := by simp [formT]
        rw [e]
        exact HW8.out
      case measure => simp [intOf]; omega
    · obtain rfl : j = N := by omega
      go_wp2_with fail
      refine (string_any w.heap.size w.heap.size (.map none) _ _ HWR.out (formL_ne f hN0)).mono ?_
      rintro e w1 ⟨rfl, hb1⟩
      have HB1 := hid (HBW.out.trans hb1)
      clear hb1
      go_wp2
      go_ret
      exact ⟨rfl, HB1.out⟩
set_option maxHeartbeats 1000000 in
theorem implForm_none (ad : Option Addr) (cap : Nat) (f : Nat → Tg) (w : World) :
    Calls Try.prog 7 #[.slice ad 0 cap] w fun e w' => e = .returned (.string ⟨(formL f 0).toArray⟩) ∧ Below w.heap.size w w' := by
  have HW0 := hid (wr_new w)
  have HB0 := hid ((Below.refl w.heap.size w).alloc (Nat.le_refl _) (.cells #[.pointer none, .slice none 0 0, .map none] 44))
  go_enter Try.func7, Try.ntmps7
  go_wp2
  go_loopw [8] (fun c wr => c = .int .i64 0 ∧ wr = w.alloc (.cells #[.pointer none, .slice none 0 0, .map none] 44)) (fun _ _ => 0)
  case atStart => exact ⟨rfl, rfl⟩
  case round =>
    obtain ⟨rfl, rfl⟩ := hrel
    go_wp2_with fail
    refine (string_nil w.heap.size w.heap.size (.pointer none) (.map none) _ HW0.out).mono ?_
    rintro e w1 ⟨rfl, hb1⟩
    have HB1 := hid (HB0.out.trans hb1)
    clear hb1
    go_wp2
    go_ret
    exact ⟨rfl, HB1.out⟩
theorem implForm_all (ad : Option Addr) (N cap : Nat) (f : Nat → Tg) (w : World) (hW : wpl f N ≤ 1048576) (hn : TgsA w ad N f) :
    Calls Try.prog 7 #[.slice ad N cap] w fun e w' => e = .returned (.string ⟨(formL f N).toArray⟩) ∧ Below w.heap.size w w' := by
  by_cases h0 : N = 0
  · subst h0
    exact implForm_none ad cap f w
  · rcases hn with h | ⟨a, rfl, h1, h2⟩
    · exact absurd h h0
    · exact implForm_any a N cap f w (by omega) hW h1 h2
end Go.Proofs.Ytkdedehneopgbaa
