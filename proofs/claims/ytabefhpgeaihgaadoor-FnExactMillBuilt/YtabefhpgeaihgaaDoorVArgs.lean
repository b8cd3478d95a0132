import Derived.Test.YtabefhpgeaihgaaDoorVEq
import Derived.Test.YtabefhpgeaihgaaDoorVRow
import Derived.Deep.RegionHeld3
/-! Rows of values: what the law does with them. -/
namespace Go.Proofs.YtabefhpgeaihgaaDoor.V
open Go.RowKit Go.Shelf
set_option maxRecDepth 20000
structure Vl where
  t : Int
  n : Int
  s : ByteArray
abbrev vlV (x : Vl) : Value := val x.t x.n x.s
def ValA (W : World) (a : Addr) (x : Vl) : Prop := W.cell? a = some (.int .i64 x.t) ∧ W.cell? ⟨a.block, a.off + 1, none⟩ = some (.int .i64 x.n) ∧ W.cell? ⟨a.block, a.off + 2, none⟩ = some (.string x.s)
theorem vadd_block (a : Addr) (n : Nat) : (a.add n).block = a.block := by unfold Addr.add; split <;> rfl
/-- N values that came in. -/
def ValsA (W : World) (ad : Option Addr) (N : Nat) (vl : Nat → Vl) : Prop := N = 0 ∨ ∃ a, ad = some a ∧ a.block < W.heap.size ∧ ∀ i, i < N → ValA W (a.add (i * 3)) (vl i)
theorem ValsA.below {W W' : World} {ad : Option Addr} {N : Nat} {vl : Nat → Vl} (h : ValsA W ad N vl) (hb : Below W.heap.size W W') : ValsA W' ad N vl := by
  rcases h with h | ⟨a, rfl, h1, h2⟩
  · exact .inl h
  · refine .inr ⟨a, rfl, Nat.lt_of_lt_of_le h1 hb.size, fun i hi => ?_⟩
    have hk : ∀ p : Addr, p.block = a.block → W'.cell? p = W.cell? p := fun p hp => hb.cell (by rw [hp]; exact h1)
    obtain ⟨c0, c1, c2⟩ := h2 i hi
    exact ⟨(hk _ (vadd_block a _)).trans c0, (hk ⟨_, _, none⟩ (vadd_block a _)).trans c1, (hk ⟨_, _, none⟩ (vadd_block a _)).trans c2⟩
/-- A row of values of one's own. -/
def ValAt (W : World) (b i : Nat) (x : Vl) : Prop := W.cell? ⟨b, i * 3, none⟩ = some (.int .i64 x.t) ∧ W.cell? ⟨b, i * 3 + 1, none⟩ = some (.int .i64 x.n) ∧ W.cell? ⟨b, i * 3 + 2, none⟩ = some (.string x.s)
def ValsAt (W : World) (b N : Nat) (vl : Nat → Vl) : Prop := ∀ i, i < N → ValAt W b i (vl i)
theorem ValsAt.below {W W' : World} {B b N : Nat} {vl : Nat → Vl} (h : ValsAt W b N vl) (hb : Below B W W') (hB : b < B) : ValsAt W' b N vl := fun i hi => by
  obtain ⟨h0, h1, h2⟩ := h i hi
  exact ⟨(hb.cell (p := ⟨b, _, none⟩) hB).trans h0, (hb.cell (p := ⟨b, _, none⟩) hB).trans h1, (hb.cell (p := ⟨b, _, none⟩) hB).trans h2⟩
set_option maxHeartbeats 2000000 in
theorem szValS_any (a : Addr) (N cap : Nat) (vl : Nat → Vl) (w : World) (hN : N ≤ maxLen) (ha : a.block < w.heap.size) (hn : ∀ i, i < N → ValA w (a.add (i * 3)) (vl i)) (ht : ∀ i, i < N → (vl i).s.size ≤ maxLen) :
    Calls Tryd.prog 4 #[.slice (some a) N cap, .int .i64 1048576] w fun e w' => (∃ r, e = .returned (.int .i64 r) ∧ (0 ≤ r → N ≤ 1048576)) ∧ Below w.heap.size w w' := by
  have HN := hid hn
  have HT := hid ht
  unfold maxLen at hN
  have hN' : N ≤ 9223372036854775807 := by simpa using hN
  clear hn ht hN
  by_cases h0 : N ≤ 1048576
  · have h1 : ¬ (1048576 : Int) - (N : Int) < 0 := by omega
    go_enter Tryd.func4, Tryd.ntmps4
    go_wp2
    go_loopw [1, 5] (fun l i wr => ∃ (j : Nat) (r : Int), j ≤ N ∧ i = .int .i64 j ∧ l = .int .i64 r ∧ 0 ≤ r ∧ r ≤ 1048576 ∧ Below w.heap.size w wr) (fun _ i _ => N - (intOf i).toNat)
    case atStart => exact ⟨0, _, Nat.zero_le _, rfl, rfl, by omega, by omega, Below.refl _ _⟩
    case round =>
      obtain ⟨j, r, hj, rfl, rfl, hr0, hr1, hbw⟩ := hrel
      have HBW := hid hbw
      clear hbw
      by_cases hlt : j < N
      · obtain ⟨c0, c1, c2⟩ : ValA wr (a.add (j * 3)) (vl j) := by
          rcases ValsA.below (.inr ⟨a, rfl, ha, HN.out⟩ : ValsA w (some a) N vl) HBW.out with h | ⟨a', e, _, h2⟩
          · omega
          · cases e; exact h2 j hlt
        go_wp2_with fail
        refine (szVal_any (vl j).t (vl j).n r (vl j).s _ (HT.out j hlt) hr0 hr1).mono ?_
        rintro e w1 ⟨⟨r2, rfl, hr2, _⟩, hb1⟩
        have HB1 := hid (go2 HBW.out hb1)
        clear hb1 c0 c1 c2
        by_cases hs : r2 < 0
        · go_wp2
          go_ret
          exact ⟨⟨-1, rfl, fun h => by omega⟩, HB1.out⟩
        · go_wp2
          go_roundw
          case rel => exact ⟨j + 1, r2, by omega, by go_num, rfl, by omega, by omega, HB1.out⟩
          case measure => simp [intOf]; omega
      · go_wp2
        go_ret
        exact ⟨⟨r, rfl, fun _ => h0⟩, HBW.out⟩
  · have h1 : (1048576 : Int) - (N : Int) < 0 := by omega
    go_enter Tryd.func4, Tryd.ntmps4
    go_wp2
    go_ret
    exact ⟨⟨-1, rfl, fun h => by omega⟩, Below.refl _ _⟩
theorem info_vl : (Tryd.prog.info? 25).map (fun i => (i.zero, i.size, i.bytes)) = some (some (.agg #[.int .i64 0, .int .i64 0, .string ⟨#[]⟩]), 3, 32) := by kernel_rfl
def FillV (W : World) (g n j : Nat) (vl : Nat → Vl) : Prop := (∃ cur, W.heap[g]? = some (.cells cur 25 (0, 0)) ∧ cur.size = n * 3) ∧ ValsAt W g j vl
theorem three_room {W : World} {g j : Nat} {cur : Array Value} {t : TypeId} (h : W.heap[g]? = some (.cells cur t (0, 0))) (hj : j * 3 + 2 < cur.size) :
    (∃ v, W.cell? ⟨g, j * 3, none⟩ = some v) ∧ (∃ v, W.cell? ⟨g, j * 3 + 1, none⟩ = some v) ∧ (∃ v, W.cell? ⟨g, j * 3 + 2, none⟩ = some v) ∧
    W.frozen? ⟨g, j * 3, none⟩ = false ∧ W.frozen? ⟨g, j * 3 + 1, none⟩ = false ∧ W.frozen? ⟨g, j * 3 + 2, none⟩ = false := by
  have c : ∀ i, i < cur.size → ∃ v, W.cell? ⟨g, i, none⟩ = some v := fun i hi => ⟨cur[i], by unfold World.cell?; rw [h]; simp [hi]⟩
  have f : ∀ i, W.frozen? ⟨g, i, none⟩ = false := fun i => by unfold World.frozen?; rw [h]; simp
  exact ⟨c _ (by omega), c _ (by omega), c _ (by omega), f _, f _, f _⟩
theorem vset_at {W : World} {g i : Nat} {cur : Array Value} {t : TypeId} (v : Value) (h : W.heap[g]? = some (.cells cur t (0, 0))) : (W.setCell ⟨g, i, none⟩ v).heap[g]? = some (.cells (cur.setIfInBounds i v) t (0, 0)) := by
  unfold World.setCell
  simp only [Array.getElem?_modify, h]
  simp
theorem fillV_step {W : World} {g N j : Nat} {vl : Nat → Vl} {cur : Array Value} (h : W.heap[g]? = some (.cells cur 25 (0, 0)) ∧ cur.size = N * 3) (hno : ValsAt W g j vl) (hj : j < N) :
    FillV (((W.setCell ⟨g, j * 3, none⟩ (.int .i64 (vl j).t)).setCell ⟨g, j * 3 + 1, none⟩ (.int .i64 (vl j).n)).setCell ⟨g, j * 3 + 2, none⟩ (.string (vl j).s)) g N (j + 1) vl := by
  obtain ⟨h1, h2⟩ := h
  have e := vset_at (.string (vl j).s) (i := j * 3 + 2) (vset_at (.int .i64 (vl j).n) (i := j * 3 + 1) (vset_at (.int .i64 (vl j).t) (i := j * 3) h1))
  refine ⟨⟨_, e, by simp [h2]⟩, ?_⟩
  have c : ∀ i, World.cell? (((W.setCell ⟨g, j * 3, none⟩ (.int .i64 (vl j).t)).setCell ⟨g, j * 3 + 1, none⟩ (.int .i64 (vl j).n)).setCell ⟨g, j * 3 + 2, none⟩ (.string (vl j).s)) ⟨g, i, none⟩ = (((cur.setIfInBounds (j * 3) (.int .i64 (vl j).t)).setIfInBounds (j * 3 + 1) (.int .i64 (vl j).n)).setIfInBounds (j * 3 + 2) (.string (vl j).s))[i]? := fun i => by
    unfold World.cell?
    rw [e]; rfl
  have o : ∀ i, W.cell? ⟨g, i, none⟩ = cur[i]? := fun i => by
    unfold World.cell?
    rw [h1]; rfl
  have low : ∀ i, i < j * 3 → World.cell? (((W.setCell ⟨g, j * 3, none⟩ (.int .i64 (vl j).t)).setCell ⟨g, j * 3 + 1, none⟩ (.int .i64 (vl j).n)).setCell ⟨g, j * 3 + 2, none⟩ (.string (vl j).s)) ⟨g, i, none⟩ = W.cell? ⟨g, i, none⟩ := fun i hi => by
    rw [c, o, Array.getElem?_setIfInBounds_ne (by omega), Array.getElem?_setIfInBounds_ne (by omega), Array.getElem?_setIfInBounds_ne (by omega)]
  intro i hi
  rcases Nat.lt_or_eq_of_le (Nat.lt_succ_iff.1 hi) with h | h
  · obtain ⟨d0, d1, d2⟩ := hno i h
    exact ⟨(low _ (by omega)).trans d0, (low _ (by omega)).trans d1, (low _ (by omega)).trans d2⟩
  · subst h
    have hb : i * 3 + 2 < cur.size := by rw [h2]; omega
    refine ⟨?_, ?_, ?_⟩
    · rw [c, Array.getElem?_setIfInBounds_ne (by omega), Array.getElem?_setIfInBounds_ne (by omega), Array.getElem?_setIfInBounds_self_of_lt (by omega)]
    · rw [c, Array.getElem?_setIfInBounds_ne (by omega), Array.getElem?_setIfInBounds_self_of_lt (by simp; omega)]
    · rw [c, Array.getElem?_setIfInBounds_self_of_lt (by simp; omega)]
set_option maxHeartbeats 2000000 in
theorem toValS_any (a : Addr) (N cap : Nat) (vl : Nat → Vl) (w : World) (hN : N ≤ 1048576) (ha : a.block < w.heap.size) (hn : ∀ i, i < N → ValA w (a.add (i * 3)) (vl i)) :
    Calls Tryd.prog 6 #[.slice (some a) N cap] w fun e w' => e = .returned (.slice (some ⟨w.heap.size, 0, none⟩) N N) ∧ ValsAt w' w.heap.size N vl ∧ w.heap.size < w'.heap.size ∧ Below w.heap.size w w' := by
  have HN := hid hn
  clear hn
  obtain ⟨i0, hi, hz0, hz1, hz2⟩ := info_parts info_vl
  have HHI := hid (And.intro hi (And.intro hz0 (And.intro hz1 hz2)))
  clear hi hz0 hz1
  go_enter Tryd.func6, Tryd.ntmps6
  go_wp2_with (at_make; refine wpList_make_full _ rfl _ _ 28 rfl w.heap.size 25 i0 (.agg #[.int .i64 0, .int .i64 0, .string ⟨#[]⟩]) 3 Tryd.underlying28 HHI.out.1 HHI.out.2.1 HHI.out.2.2.1 _ _ _ _ N rfl rfl rfl rfl (by rw [hz2]; omega) (by unfold maxLen; omega) (Nat.le_refl _) ?_; intro w1 o1 g1)
  have HF0 : Hid (FillV w1 w.heap.size N 0 vl) := by
    obtain ⟨h1, ⟨h2, _⟩ | ⟨g, c, cur, e, _, h4, _, _, h7, _⟩⟩ := o1
    · cases h2
    · cases e
      exact ⟨⟨cur, h4, h7⟩, fun i h => absurd h (Nat.not_lt_zero _)⟩
  have HB0 := hid ((Below.refl w.heap.size w).grown g1 (Nat.le_refl _) (fun q e => by cases e))
  clear o1 g1
  go_loopw [4] (fun i wr => ∃ j : Nat, j ≤ N ∧ i = .int .i64 j ∧ FillV wr w.heap.size N j vl ∧ Below w.heap.size w wr) (fun i _ => N - (intOf i).toNat)
  case atStart => exact ⟨0, Nat.zero_le _, rfl, HF0.out, HB0.out⟩
  case round =>
    obtain ⟨j, hj, rfl, hfi, hbw⟩ := hrel
    have HFI := hid hfi
    have HBW := hid hbw
    clear hfi hbw
    by_cases hlt : j < N
    · obtain ⟨c0, c1, c2⟩ : ValA wr (a.add (j * 3)) (vl j) := by
        rcases ValsA.below (.inr ⟨a, rfl, ha, HN.out⟩ : ValsA w (some a) N vl) HBW.out with h | ⟨a', e, _, h2⟩
        · omega
        · cases e; exact h2 j hlt
      go_wp2_with fail
      refine (toVal_any (vl j).t (vl j).n (vl j).s _).mono ?_
      rintro e w2 ⟨rfl, hb2⟩
      have HB2 := hid hb2
      obtain ⟨⟨cur, hcur, hsz⟩, hno⟩ := HFI.out
      have hcur2 := (hb2.block _ (Array.getElem?_eq_some_iff.1 hcur).1).trans hcur
      have hidx : j * 3 + 2 < cur.size := by rw [hsz]; omega
      have HCUR := hid (And.intro hcur2 hsz)
      obtain ⟨⟨v0, x0⟩, ⟨v1, x1⟩, ⟨v2, x2⟩, y0, y1, y2⟩ := three_room hcur2 hidx
      clear hb2 hcur hcur2 hno
      go_wp2
      have HNX := hid (fillV_step HCUR.out (HFI.out.2.below (HB2.out) (by obtain ⟨⟨_, hc, _⟩, _⟩ := HFI.out; exact (Array.getElem?_eq_some_iff.1 hc).1)) hlt)
      have HBX := hid (HBW.out.trans (HB2.out.mono HBW.out.size))
      go_roundw
      case rel => exact ⟨j + 1, by omega, by go_num, HNX.out, set_below (set_below (set_below HBX.out _ _ (Nat.le_refl _) _) _ _ (Nat.le_refl _) _) _ _ (Nat.le_refl _) _⟩
      case measure => simp [intOf]; omega
    · obtain rfl : j = N := by omega
      go_wp2
      go_ret
      exact ⟨rfl, HFI.out.2, by obtain ⟨⟨cur, hc, _⟩, _⟩ := HFI.out; exact (Array.getElem?_eq_some_iff.1 hc).1, HBW.out⟩
end Go.Proofs.YtabefhpgeaihgaaDoor.V
