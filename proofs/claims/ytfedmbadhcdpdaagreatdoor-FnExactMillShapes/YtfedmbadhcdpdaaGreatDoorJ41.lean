import Derived.Test.YtfedmbadhcdpdaaGreatDoorJ40
/-! Rows of numbers that are marked, and marks that are held. -/
namespace Go.Proofs.YtfedmbadhcdpdaaGreatDoor.C
open Go.RowKit
set_option maxRecDepth 20000
/-- The marks K, K + 1, .. in a block of n numbers. -/
def MInt (W : World) (g n K : Nat) : Prop := ∃ cur : Array Value, W.heap[g]? = some (.cells cur 3 (0, 0)) ∧ cur.size = n ∧ ∀ i, i < n → cur[i]? = some (.int .i64 (K + i : Nat))
theorem MInt.keep {W V : World} {g n K : Nat} (h : MInt W g n K) (hb : V.heap[g]? = W.heap[g]?) : MInt V g n K := by
  obtain ⟨cur, e, h1⟩ := h
  exact ⟨cur, hb.trans e, h1⟩
theorem MInt.lt {W : World} {g n K : Nat} (h : MInt W g n K) : g < W.heap.size := by
  obtain ⟨cur, e, _⟩ := h
  exact lt_hp e
theorem IntB.keep {W V : World} {g : Nat} {l : List Int} (h : IntB W g l) (hb : V.heap[g]? = W.heap[g]?) : IntB V g l := by
  obtain ⟨cur, e, h1⟩ := h
  exact ⟨cur, hb.trans e, h1⟩
theorem grown_setI {w wr : World} {g : Nat} (h : w.grownBy wr (some g)) (i : Nat) (v : Value) : w.grownBy (wr.setCell ⟨g, i, none⟩ v) (some g) :=
  ⟨h.os, h.tape, h.output, Nat.le_trans h.size (set_lo (Below.refl 0 wr) g i (Nat.zero_le _) v).size, fun k hk hne => (set_other _ _ _ _ _ (fun e => hne (by rw [e]))).trans (h.block k hk hne)⟩
theorem ret_intI {k : IntKind} {a b : Int} (h : a = b) : Ending.returned (.int k a) = .returned (.int k b) := by rw [h]
set_option maxHeartbeats 4000000 in
theorem markI_any (g n c K : Nat) (w : World) (hn : n ≤ 100000) (hK : K ≤ 1000000000) (cur : Array Value) (hg : w.heap[g]? = some (.cells cur 3 (0, 0))) (hsz : cur.size = n) :
    Calls Tryz.prog 30 #[.slice (some ⟨g, 0, none⟩) n c, .int .i64 K] w fun e w' => e = .returned (.int .i64 (K + n : Nat)) ∧ w.grownBy w' (some g) ∧ MInt w' g n K := by
  have HG0 := hid hg
  clear hg
  go_enter Tryz.func30, Tryz.ntmps30
  go_wp2
  go_loopw [1, 5] (fun k i wr => ∃ (j : Nat) (cu : Array Value), i = .int .i64 j ∧ k = .int .i64 (K + j : Nat) ∧ j ≤ n ∧ w.grownBy wr (some g) ∧ wr.heap[g]? = some (.cells cu 3 (0, 0)) ∧ cu.size = n ∧ ∀ i, i < j → cu[i]? = some (.int .i64 (K + i : Nat))) (fun _ i _ => n - (intOf i).toNat)
  case atStart => exact ⟨0, cur, rfl, rfl, Nat.zero_le _, ⟨rfl, rfl, rfl, Nat.le_refl _, fun _ _ _ => rfl⟩, HG0.out, hsz, fun i h => absurd h (Nat.not_lt_zero _)⟩
  case round =>
    obtain ⟨j, cu, rfl, rfl, hj, hgw, hh, hcs, hall⟩ := hrel
    have HG := hid hgw
    have HH := hid hh
    have HALL := hid hall
    have HCS := hid hcs
    clear hgw hall hcs hh
    by_cases hlt : j < n
    · obtain ⟨v0, x0⟩ : ∃ v, wr.cell? ⟨g, j, none⟩ = some v := ⟨_, (cell_of_row _ _ j _ _ (0, 0) HH.out).trans (Array.getElem?_eq_getElem (by rw [HCS.out]; exact hlt))⟩
      have f0 : wr.frozen? ⟨g, j, none⟩ = false := by
        unfold World.frozen?
        rw [HH.out]
        simp
      have HF : Hid ((wr.setCell ⟨g, j, none⟩ (.int .i64 (K + j : Nat))).heap[g]? = some (.cells (cu.setIfInBounds j (.int .i64 (K + j : Nat))) 3 (0, 0))) := hid (by
        unfold World.setCell
        simp only [Array.getElem?_modify, HH.out]
        simp)
      have HGR := hid (grown_setI HG.out j (.int .i64 (K + j : Nat)))
      go_wp2
      go_roundw
      case rel =>
        refine ⟨j + 1, _, by go_num, by go_num, by omega, HGR.out, HF.out, by rw [Array.size_setIfInBounds]; exact HCS.out, fun i hi => ?_⟩
        by_cases e : i = j
        · subst e
          rw [Array.getElem?_setIfInBounds_self_of_lt (by rw [HCS.out]; exact hlt)]
        · rw [Array.getElem?_setIfInBounds_ne (fun h => e h.symm)]
          exact HALL.out i (by omega)
      case measure => simp [intOf]; omega
    · obtain rfl : j = n := by omega
      go_wp2
      go_ret
      exact ⟨ret_intI (by omega), HG.out, cu, HH.out, HCS.out, HALL.out⟩
set_option maxHeartbeats 4000000 in
theorem heldI_any (g n c K : Nat) (w : World) (hn : n ≤ 100000) (hK : K ≤ 1000000000) (hm : MInt w g n K) :
    Calls Tryz.prog 31 #[.slice (some ⟨g, 0, none⟩) n c, .int .i64 K] w fun e w' => e = .returned (.int .i64 (K + n : Nat)) ∧ w' = w := by
  obtain ⟨cur, hg, hz, hc⟩ := hm
  have HG := hid hg
  have HC := hid hc
  clear hg hc
  go_enter Tryz.func31, Tryz.ntmps31
  go_wp2
  go_loopw [1, 5] (fun k i wr => ∃ j : Nat, i = .int .i64 j ∧ k = .int .i64 (K + j : Nat) ∧ j ≤ n ∧ wr = w) (fun _ i _ => n - (intOf i).toNat)
  case atStart => exact ⟨0, rfl, rfl, Nat.zero_le _, rfl⟩
  case round =>
    obtain ⟨j, rfl, rfl, hj, rfl⟩ := hrel
    by_cases hlt : j < n
    · have x0 : wr.cell? ⟨g, j, none⟩ = some (.int .i64 (K + j : Nat)) := (cell_of_row _ _ j _ _ (0, 0) HG.out).trans (HC.out j hlt)
      have hne : (((K + j : Nat) : Int) != ((K + j : Nat) : Int)) = false := by simp
      go_wp2
      go_roundw
      case rel => exact ⟨j + 1, by go_num, by go_num, by omega, by trivial⟩
      case measure => simp [intOf]; omega
    · obtain rfl : j = n := by omega
      go_wp2
      go_ret
      exact ⟨ret_intI (by omega), rfl⟩
end Go.Proofs.YtfedmbadhcdpdaaGreatDoor.C
/-! Shapes that are marked, and marks that are held. -/
namespace Go.Proofs.YtfedmbadhcdpdaaGreatDoor.C
open Go.RowKit
set_option maxRecDepth 20000
def she0 : ShE := ⟨bot, 0, 0⟩
def wSh (x : ShE) : Nat := 1 + x.s.sl.length + x.s.sk.length
def kN (L : List ShE) : Nat := (L.map wSh).sum
theorem take_nextS {l : List ShE} {j : Nat} (h : j < l.length) : l.take (j + 1) = l.take j ++ [l.getD j she0] := by
  rw [List.take_succ_eq_append_getElem h, List.getD_eq_getElem?_getD, List.getElem?_eq_getElem h]
  rfl
theorem kN_next {L : List ShE} {j : Nat} (h : j < L.length) : kN (L.take (j + 1)) = kN (L.take j) + wSh (L.getD j she0) := by
  unfold kN
  rw [take_nextS h, List.map_append, List.sum_append]
  simp
theorem cellsS_get : ∀ (L : List ShE) (i : Nat), i < L.length → (cellsS L)[i * 3]? = some (.int .i64 ((L.getD i she0).s.st : Nat)) ∧ (cellsS L)[i * 3 + 1]? = some (.slice (some ⟨(L.getD i she0).g1, 0, none⟩) (L.getD i she0).s.sl.length (L.getD i she0).s.sl.length) ∧ (cellsS L)[i * 3 + 2]? = some (.slice (some ⟨(L.getD i she0).g2, 0, none⟩) (L.getD i she0).s.sk.length (L.getD i she0).s.sk.length)
  | [], _, h => absurd h (Nat.not_lt_zero _)
  | x :: l, 0, _ => ⟨rfl, rfl, rfl⟩
  | x :: l, i + 1, h => by
    have := cellsS_get l i (by simp at h; omega)
    have e : (i + 1) * 3 = i * 3 + 1 + 1 + 1 := by omega
    rw [e]
    exact this
structure MkS (B : Nat) (L : List ShE) (K : Nat) (g : Nat) (j : Nat) (cu : Array Value) (W : World) : Prop where
  e : W.heap[g]? = some (.cells cu 43 (0, 0))
  sz : L.length * 3 ≤ cu.size
  bg : B ≤ g
  ref : ∀ i, i < L.length → cu[i * 3 + 1]? = some (.slice (some ⟨(L.getD i she0).g1, 0, none⟩) (L.getD i she0).s.sl.length (L.getD i she0).s.sl.length) ∧ cu[i * 3 + 2]? = some (.slice (some ⟨(L.getD i she0).g2, 0, none⟩) (L.getD i she0).s.sk.length (L.getD i she0).s.sk.length)
  blk : ∀ i, i < L.length → B ≤ (L.getD i she0).g1 ∧ (L.getD i she0).g1 < (L.getD i she0).g2
  asc : ∀ i k, i < k → k < L.length → (L.getD i she0).g2 < (L.getD k she0).g1
  old : ∀ i, j ≤ i → i < L.length → IntB W (L.getD i she0).g1 (L.getD i she0).s.sl ∧ IntB W (L.getD i she0).g2 (L.getD i she0).s.sk
  new : ∀ i, i < j → cu[i * 3]? = some (.int .i64 (K + kN (L.take i) : Nat)) ∧ MInt W (L.getD i she0).g1 (L.getD i she0).s.sl.length (K + kN (L.take i) + 1) ∧ MInt W (L.getD i she0).g2 (L.getD i she0).s.sk.length (K + kN (L.take i) + 1 + (L.getD i she0).s.sl.length)
theorem int_ne {W : World} {g h : Nat} {cu : Array Value} (e : W.heap[g]? = some (.cells cu 43 (0, 0))) {l : List Int} (hi : IntB W h l) : ¬ h = g := fun eq => by
  obtain ⟨c, e2, _⟩ := hi
  rw [eq, e] at e2
  cases e2
theorem mint_ne {W : World} {g h n K : Nat} {cu : Array Value} (e : W.heap[g]? = some (.cells cu 43 (0, 0))) (hi : MInt W h n K) : ¬ h = g := fun eq => by
  obtain ⟨c, e2, _⟩ := hi
  rw [eq, e] at e2
  cases e2
/-- The number of shape j is written, and its two rows are marked. -/
theorem MkS.step {B : Nat} {L : List ShE} {K g j : Nat} {cu : Array Value} {W W1 W2 W3 : World} (h : MkS B L K g j cu W) (hj : j < L.length) (h1 : W1 = W.setCell ⟨g, j * 3, none⟩ (.int .i64 (K + kN (L.take j) : Nat))) (e1 : W1.heap[g]? = some (.cells (cu.setIfInBounds (j * 3) (.int .i64 (K + kN (L.take j) : Nat))) 43 (0, 0)))
    (h2 : W1.grownBy W2 (some (L.getD j she0).g1)) (m1 : MInt W2 (L.getD j she0).g1 (L.getD j she0).s.sl.length (K + kN (L.take j) + 1)) (h3 : W2.grownBy W3 (some (L.getD j she0).g2)) (m2 : MInt W3 (L.getD j she0).g2 (L.getD j she0).s.sk.length (K + kN (L.take j) + 1 + (L.getD j she0).s.sl.length)) :
    MkS B L K g (j + 1) (cu.setIfInBounds (j * 3) (.int .i64 (K + kN (L.take j) : Nat))) W3 := by
  have hst : ∀ k, ¬ k = g → W1.heap[k]? = W.heap[k]? := fun k hk => by rw [h1]; exact set_other _ _ _ _ _ hk
  have hgo := h.old j (Nat.le_refl _) hj
  have hg1 := int_ne h.e hgo.1
  have hg2 := int_ne h.e hgo.2
  have hb := h.blk j hj
  have hs1 : W.heap.size = W1.heap.size := by rw [h1]; simp [World.setCell]
  have far : ∀ k, k < W.heap.size → ¬ k = g → ¬ k = (L.getD j she0).g1 → ¬ k = (L.getD j she0).g2 → W3.heap[k]? = W.heap[k]? := fun k hk n0 n1 n2 => by
    rw [h3.block k (Nat.lt_of_lt_of_le (by rw [← hs1]; exact hk) h2.size) (fun e => n2 (by injection e)), h2.block k (by rw [← hs1]; exact hk) (fun e => n1 (by injection e)), hst k n0]
  have hlg : g < W1.heap.size := lt_hp e1
  refine ⟨?_, by rw [Array.size_setIfInBounds]; exact h.sz, h.bg, fun i hi => ?_, h.blk, h.asc, fun i hi hl => ?_, fun i hi => ?_⟩
  · rw [h3.block g (Nat.lt_of_lt_of_le hlg h2.size) (fun e => hg2 (by injection e with e; exact e.symm)), h2.block g hlg (fun e => hg1 (by injection e with e; exact e.symm))]
    exact e1
  · rw [Array.getElem?_setIfInBounds_ne (by omega), Array.getElem?_setIfInBounds_ne (by omega)]
    exact h.ref i hi
  · have ho := h.old i (by omega) hl
    have ha := h.asc j i (by omega) hl
    have hbi := h.blk i hl
    exact ⟨ho.1.keep (far _ ho.1.lt (int_ne h.e ho.1) (by omega) (by omega)), ho.2.keep (far _ ho.2.lt (int_ne h.e ho.2) (by omega) (by omega))⟩
  · by_cases e : i = j
    · subst e
      refine ⟨Array.getElem?_setIfInBounds_self_of_lt (by have := h.sz; omega), m1.keep (h3.block _ m1.lt (fun e => by injection e with e; omega)), m2⟩
    · have hn := h.new i (by omega)
      have ha := h.asc i j (by omega) hj
      have hbi := h.blk i (by omega)
      refine ⟨?_, hn.2.1.keep (far _ hn.2.1.lt (mint_ne h.e hn.2.1) (by omega) (by omega)), hn.2.2.keep (far _ hn.2.2.lt (mint_ne h.e hn.2.2) (by omega) (by omega))⟩
      rw [Array.getElem?_setIfInBounds_ne (by omega)]
      exact hn.1
end Go.Proofs.YtfedmbadhcdpdaaGreatDoor.C
