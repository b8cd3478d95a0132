import Derived.Test.YtkdedehneopgbaaPTx
/-! Targets: sizes, copies, sameness. -/
namespace Go.Proofs.Ytkdedehneopgbaa
open Go.RowKit
set_option maxRecDepth 20000
/-- A target. -/
structure Tg where
  name : ByteArray
  tool : ByteArray
  arg : ByteArray
  N : Nat
  ins : Nat → ByteArray
  M : Nat
  outs : Nat → ByteArray
def wtg (x : Tg) : Nat := x.name.size + x.tool.size + x.arg.size + wtx x.ins x.N + wtx x.outs x.M
def wpl (f : Nat → Tg) : Nat → Nat
  | 0 => 0
  | n + 1 => wpl f n + 1 + wtg (f n)
theorem wpl_ge (f : Nat → Tg) (n : Nat) : n ≤ wpl f n := by
  induction n with
  | zero => exact Nat.le_refl _
  | succ n ih => simp only [wpl]; omega
theorem wpl_mono (f : Nat → Tg) {j n : Nat} (h : j ≤ n) : wpl f j ≤ wpl f n := by
  induction h with
  | refl => exact Nat.le_refl _
  | step _ ih => simp only [wpl]; omega
theorem wpl_at (f : Nat → Tg) {j n : Nat} (h : j < n) : wpl f j + 1 + wtg (f j) ≤ wpl f n := wpl_mono f (Nat.succ_le_of_lt h)
/-- A target whose texts are no longer than any text. -/
structure TgOk (x : Tg) : Prop where
  name : x.name.size ≤ maxLen
  tool : x.tool.size ≤ maxLen
  arg : x.arg.size ≤ maxLen
  N : x.N ≤ maxLen
  M : x.M ≤ maxLen
  ins : ∀ i, i < x.N → (x.ins i).size ≤ maxLen
  outs : ∀ i, i < x.M → (x.outs i).size ≤ maxLen
/-- The five cells of a target. -/
def FiveC (W : World) (a : Addr) (x : Tg) (ai : Option Addr) (ci : Nat) (ao : Option Addr) (co : Nat) : Prop :=
  W.cell? a = some (.string x.name) ∧ W.cell? ⟨a.block, a.off + 1, none⟩ = some (.string x.tool) ∧ W.cell? ⟨a.block, a.off + 2, none⟩ = some (.string x.arg) ∧ W.cell? ⟨a.block, a.off + 3, none⟩ = some (.slice ai x.N ci) ∧ W.cell? ⟨a.block, a.off + 4, none⟩ = some (.slice ao x.M co)
theorem FiveC.of_cells {W W' : World} {a : Addr} {x : Tg} {ai : Option Addr} {ci : Nat} {ao : Option Addr} {co : Nat} (h : FiveC W a x ai ci ao co) (hk : ∀ p : Addr, p.block = a.block → W'.cell? p = W.cell? p) : FiveC W' a x ai ci ao co := by
  obtain ⟨h0, h1, h2, h3, h4⟩ := h
  exact ⟨(hk _ rfl).trans h0, (hk ⟨_, _, none⟩ rfl).trans h1, (hk ⟨_, _, none⟩ rfl).trans h2, (hk ⟨_, _, none⟩ rfl).trans h3, (hk ⟨_, _, none⟩ rfl).trans h4⟩
/-- A target at an address; A holds of where its texts lie. -/
def FiveT (W : World) (A : Option Addr → Prop) (a : Addr) (x : Tg) : Prop := ∃ ai ci ao co, FiveC W a x ai ci ao co ∧ TextsA W ai x.N x.ins ∧ TextsA W ao x.M x.outs ∧ A ai ∧ A ao
/-- N targets at an address. -/
def TgsA (W : World) (ad : Option Addr) (N : Nat) (f : Nat → Tg) : Prop := N = 0 ∨ ∃ a, ad = some a ∧ a.block < W.heap.size ∧ ∀ i, i < N → FiveT W (fun _ => True) (a.add (i * 5)) (f i)
theorem FiveT.below {W W' : World} {A : Option Addr → Prop} {a : Addr} {x : Tg} (h : FiveT W A a x) (ha : a.block < W.heap.size) (hb : Below W.heap.size W W') : FiveT W' A a x := by
  obtain ⟨ai, ci, ao, co, h1, h2, h3, h4⟩ := h
  exact ⟨ai, ci, ao, co, h1.of_cells fun p hp => hb.cell (by rw [hp]; exact ha), h2.below hb, h3.below hb, h4⟩
theorem TgsA.below {W W' : World} {ad : Option Addr} {N : Nat} {f : Nat → Tg} (h : TgsA W ad N f) (hb : Below W.heap.size W W') : TgsA W' ad N f := by
  rcases h with h | ⟨a, rfl, h1, h2⟩
  · exact .inl h
  · exact .inr ⟨a, rfl, Nat.lt_of_lt_of_le h1 hb.size, fun i hi => (h2 i hi).below (by rw [add_block]; exact h1) hb⟩
theorem small {n : Nat} (h : n ≤ maxLen) : n ≤ 9223372036854775807 := by unfold maxLen at h; simpa using h
set_option maxHeartbeats 2000000 in
theorem szTarget_any (x : Tg) (ai ao : Option Addr) (ci co : Nat) (l : Int) (w : World) (hl : 0 ≤ l) (hl2 : l ≤ 1048576) (hx : TgOk x) (h1 : TextsA w ai x.N x.ins) (h2 : TextsA w ao x.M x.outs) :
    Calls Try.prog 9 #[.agg #[.string x.name, .string x.tool, .string x.arg, .slice ai x.N ci, .slice ao x.M co], .int .i64 l] w fun e w' => (∃ r, e = .returned (.int .i64 r) ∧ -1 ≤ r ∧ r ≤ l ∧ (0 ≤ r → r + (wtg x : Int) = l)) ∧ Below w.heap.size w w' := by
  have HX := hid hx
  obtain ⟨n, t, g, N, ins, M, outs⟩ := x
  have hn := small hx.name
  have ht := small hx.tool
  have hg := small hx.arg
  simp only at hn ht hg h1 h2
  have HB := hid ((Below.refl w.heap.size w).alloc (Nat.le_refl _) (.cells #[.string n, .string t, .string g, .slice ai N ci, .slice ao M co] 32))
  have H1 := hid (h1.below HB.out)
  have H2 := hid (h2.below HB.out)
  clear h1 h2 hx
  by_cases c1 : l - (n.size : Int) < 0
  · go_enter Try.func9, Try.ntmps9
    go_wp2
    go_ret
    exact ⟨⟨_, rfl, by omega, by omega, fun h => by omega⟩, HB.out⟩
  · by_cases c2 : l - (n.size : Int) - (t.size : Int) < 0
    · go_enter Try.func9, Try.ntmps9
      go_wp2
      go_ret
      exact ⟨⟨_, rfl, by omega, by omega, fun h => by omega⟩, HB.out⟩
    · by_cases c3 : l - (n.size : Int) - (t.size : Int) - (g.size : Int) < 0
      · go_enter Try.func9, Try.ntmps9
        go_wp2
        go_ret
        exact ⟨⟨_, rfl, by omega, by omega, fun h => by omega⟩, HB.out⟩
      · go_enter Try.func9, Try.ntmps9
        go_wp2_with fail
        refine (szTextS_all ai N ci ins _ _ (by omega) (by omega) HX.out.N H1.out HX.out.ins).mono ?_
        rintro e w1 ⟨⟨r1, rfl, p1, p2, p3⟩, hw⟩
        have HP := hid p3
        clear p3
        have hw' := hw.symm
        subst hw'
        clear hw
        by_cases c4 : r1 < 0
        · go_wp2
          go_ret
          exact ⟨⟨_, rfl, by omega, by omega, fun h => by omega⟩, HB.out⟩
        · go_wp2_with fail
          refine (szTextS_all ao M co outs r1 _ (by omega) (by omega) HX.out.M H2.out HX.out.outs).mono ?_
          rintro e w1 ⟨⟨r2, rfl, q1, q2, q3⟩, hw⟩
          have HQ := hid q3
          clear q3
          have hw' := hw.symm
          subst hw'
          clear hw
          by_cases c5 : r2 < 0
          · go_wp2
            go_ret
            exact ⟨⟨_, rfl, by omega, by omega, fun h => by omega⟩, HB.out⟩
          · go_wp2
            go_ret
            refine ⟨⟨_, rfl, by omega, by omega, fun h => ?_⟩, HB.out⟩
            have e1 := HP.out (by omega)
            have e2 := HQ.out (by omega)
            simp only [wtg]
            omega
set_option maxHeartbeats 2000000 in
theorem szTargetS_any (a : Addr) (N cap : Nat) (f : Nat → Tg) (w : World) (hN : N ≤ maxLen) (ha : a.block < w.heap.size) (hn : ∀ i, i < N → FiveT w (fun _ => True) (a.add (i * 5)) (f i)) (ht : ∀ i, i < N → TgOk (f i)) :
    Calls Try.prog 4 #[.slice (some a) N cap, .int .i64 1048576] w fun e w' => (∃ r, e = .returned (.int .i64 r) ∧ -1 ≤ r ∧ r ≤ 1048576 ∧ (0 ≤ r → r + (wpl f N : Int) = 1048576)) ∧ Below w.heap.size w w' := by
  have HN := hid hn
  have HT := hid ht
  have hN' := small hN
  clear hn ht hN
  by_cases h0 : N ≤ 1048576
  · have h1 : ¬ (1048576 : Int) - (N : Int) < 0 := by omega
    go_enter Try.func4, Try.ntmps4
    go_wp2
    go_loopw [1, 5] (fun l i wr => ∃ (j : Nat) (r : Int), j ≤ N ∧ i = .int .i64 j ∧ l = .int .i64 r ∧ 0 ≤ r ∧ r ≤ 1048576 ∧ (Hid (r + (N : Int) + (wpl f j : Int) = 1048576 + (j : Int))) ∧ Below w.heap.size w wr) (fun _ i _ => N - (intOf i).toNat)
    case atStart => exact ⟨0, _, Nat.zero_le _, rfl, rfl, by omega, by omega, (by show _ = _; simp [wpl]), Below.refl _ _⟩
    case round =>
      obtain ⟨j, r, hj, rfl, rfl, hr0, hr1, HS, hbw⟩ := hrel
      have HBW := hid hbw
      clear hbw
      by_cases hlt : j < N
      · obtain ⟨ai, ci, ao, co, ⟨c0, c1, c2, c3, c4⟩, t1, t2, _⟩ : FiveT wr (fun _ => True) (a.add (j * 5)) (f j) := (HN.out j hlt).below (by rw [add_block]; exact ha) HBW.out
        have HTX := hid (And.intro t1 t2)
        clear t1 t2
        go_wp2_with fail
        refine (szTarget_any (f j) ai ao ci co r _ hr0 hr1 (HT.out j hlt) HTX.out.1 HTX.out.2).mono ?_
        rintro e w1 ⟨⟨r2, rfl, hr3, hr4, hr5⟩, hb1⟩
        have HB1 := hid (HBW.out.trans (hb1.mono HBW.out.size))
        have HR5 := hid hr5
        clear hb1 c0 c1 c2 c3 c4 hr5
        by_cases hs : r2 < 0
        · go_wp2
          go_ret
          exact ⟨⟨-1, rfl, by omega, by omega, fun h => by omega⟩, HB1.out⟩
        · have HS2 : Hid (r2 + (N : Int) + (wpl f (j + 1) : Int) = 1048576 + ((j + 1 : Nat) : Int)) := by
            show _ = _
            have := HS.out
            have := HR5.out (by omega)
            simp only [wpl]
            omega
          go_wp2
          go_roundw
          case rel => exact ⟨j + 1, r2, by omega, by go_num, rfl, by omega, by omega, HS2, HB1.out⟩
          case measure => simp [intOf]; omega
      · obtain rfl : j = N := by omega
        go_wp2
        go_ret
        exact ⟨⟨r, rfl, by omega, hr1, fun _ => by have := HS.out; omega⟩, HBW.out⟩
  · have h1 : (1048576 : Int) - (N : Int) < 0 := by omega
    go_enter Try.func4, Try.ntmps4
    go_wp2
    go_ret
    exact ⟨⟨-1, rfl, by omega, by omega, fun h => by omega⟩, Below.refl _ _⟩
set_option maxHeartbeats 1000000 in
theorem szTargetS_none (ad : Option Addr) (cap : Nat) (w : World) :
    Calls Try.prog 4 #[.slice ad 0 cap, .int .i64 1048576] w fun e w' => e = .returned (.int .i64 1048576) ∧ w' = w := by
  go_enter Try.func4, Try.ntmps4
  go_wp2
  go_loopw [1, 5] (fun l i wr => i = .int .i64 0 ∧ l = .int .i64 1048576 ∧ wr = w) (fun _ _ _ => 0)
  case atStart => exact ⟨rfl, rfl, rfl⟩
  case round =>
    obtain ⟨rfl, rfl, rfl⟩ := hrel
    go_wp2
    go_ret
    exact ⟨rfl, rfl⟩
theorem szTargetS_all (ad : Option Addr) (N cap : Nat) (f : Nat → Tg) (w : World) (hN : N ≤ maxLen) (hn : TgsA w ad N f) (ht : ∀ i, i < N → TgOk (f i)) :
    Calls Try.prog 4 #[.slice ad N cap, .int .i64 1048576] w fun e w' => (∃ r, e = .returned (.int .i64 r) ∧ -1 ≤ r ∧ r ≤ 1048576 ∧ (0 ≤ r → r + (wpl f N : Int) = 1048576)) ∧ Below w.heap.size w w' := by
  rcases hn with rfl | ⟨a, rfl, h1, h2⟩
  · refine (szTargetS_none ad cap w).mono ?_
    rintro e w' ⟨rfl, rfl⟩
    exact ⟨⟨_, rfl, by omega, by omega, fun _ => by simp [wpl]⟩, Below.refl _ _⟩
  · exact szTargetS_any a N cap f w hN h1 h2 ht
end Go.Proofs.Ytkdedehneopgbaa
