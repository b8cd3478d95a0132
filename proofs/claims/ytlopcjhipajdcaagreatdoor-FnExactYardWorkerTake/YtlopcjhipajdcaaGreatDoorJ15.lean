import Derived.BigQuiet
import Derived.Test.YtlopcjhipajdcaaGreatDoorJ14
/-! Sameness. -/
namespace Go.Proofs.YtlopcjhipajdcaaGreatDoor.R
open Go.RowKit
set_option maxRecDepth 20000
end Go.Proofs.YtlopcjhipajdcaaGreatDoor.R
/-! Marks in rows. Printed by gen_yrow.py. -/
namespace Go.Proofs.YtlopcjhipajdcaaGreatDoor.Y
open Go.RowKit R
open Go.Proofs.YtlopcjhipajdcaaGreatDoor.J (FileOk BegOk RepOk ltB Says says_t says_f)
set_option maxRecDepth 20000
/-- The first j elements of the row in block g are marked. -/
structure MFl (g Z K j : Nat) (W : World) : Prop where
  e : ∃ cu : Array Value, W.heap[g]? = some (.cells cu 114 (0, 0)) ∧ cu.size = Z ∧ ∀ i, i < j → cu[i * 2]? = some (.string (mtxt (K + 2 * i))) ∧ cu[i * 2 + 1]? = some (.string (mtxt (K + 2 * i + 1)))
theorem MFl.next {g Z K j : Nat} {W V : World} (h : MFl g Z K j W) (hb : Below W.heap.size W V) : MFl g Z K j V := by
  obtain ⟨cu, e, h1, h2⟩ := h.e
  exact ⟨cu, hp_next e hb, h1, h2⟩
theorem MFl.set {g Z K j i : Nat} {W : World} (h : MFl g Z K j W) (hi : j * 2 ≤ i) (v : Value) : MFl g Z K j (W.setCell ⟨g, i, none⟩ v) := by
  obtain ⟨cu, e, h1, h2⟩ := h.e
  refine ⟨_, set_at (i := i) v e, by rw [Array.size_setIfInBounds]; exact h1, fun z hz => ?_⟩
  have h9 := h2 z hz
  rw [Array.getElem?_setIfInBounds_ne (by omega), Array.getElem?_setIfInBounds_ne (by omega)]
  exact h9
theorem MFl.room {g Z K j i : Nat} {W : World} (h : MFl g Z K j W) (hi : i < Z) : (∃ v, W.cell? ⟨g, i, none⟩ = some v) ∧ W.frozen? ⟨g, i, none⟩ = false := by
  obtain ⟨cu, e, h1, _⟩ := h.e
  exact row_room e (by omega)
theorem MFl.more {g Z K j : Nat} {W : World} (h : MFl g Z K j W) (c0 : W.cell? ⟨g, j * 2, none⟩ = some (.string (mtxt (K + 2 * j)))) (c1 : W.cell? ⟨g, j * 2 + 1, none⟩ = some (.string (mtxt (K + 2 * j + 1)))) : MFl g Z K (j + 1) W := by
  obtain ⟨cu, e, h1, h2⟩ := h.e
  refine ⟨cu, e, h1, fun i hi => ?_⟩
  by_cases hij : i < j
  · exact h2 i hij
  · obtain rfl : i = j := by omega
    rw [row_cell e] at c0 c1
    exact ⟨c0, c1⟩
theorem MFl.lt {g Z K j : Nat} {W : World} (h : MFl g Z K j W) : g < W.heap.size := by
  obtain ⟨cu, e, _⟩ := h.e
  exact lt_hp e
set_option maxHeartbeats 8000000 in
theorem markFl_row {g n cap K Z : Nat} (w : World) (hn : n ≤ 1048576) (hZ : n * 2 ≤ Z) (hK : 0 < K) (hK2 : K ≤ 5000000) (h : MFl g Z K 0 w) :
    Calls Tryz.prog 72 #[.slice (some ⟨g, 0, none⟩) n cap, .int .i64 K] w fun e w' => e = .returned (.int .i64 (K + 2 * n : Nat)) ∧ w.grownBy w' (some g) ∧ MFl g Z K n w' := by
  have HG0 := hid h
  clear h
  go_enter Tryz.func72, Tryz.ntmps72
  go_wp2
  go_loopw [1, 5] (fun k i wr => ∃ (j : Nat), i = .int .i64 j ∧ k = .int .i64 (K + 2 * j : Nat) ∧ j ≤ n ∧ w.grownBy wr (some g) ∧ MFl g Z K j wr) (fun _ i _ => n - (intOf i).toNat)
  case atStart => exact ⟨0, rfl, rfl, Nat.zero_le _, grown_refl _ _, HG0.out⟩
  case round =>
    obtain ⟨j, rfl, rfl, hj, hgw, hh⟩ := hrel
    have HG := hid hgw
    have HH := hid hh
    clear hgw hh HG0
    by_cases hlt : j < n
    · have HJC : Hid (j * 2 + 1 < Z) := hid (by omega)
      obtain ⟨M, hM⟩ : ∃ M, K + 2 * j = M := ⟨_, rfl⟩
      have HM := hid hM
      have hMa : 0 < M := by omega
      have hMb : M ≤ 9500000 := by omega
      rw [hM]
      clear hM
      go_upto_region 6 with (go_at_call 71; refine (markText_int _ (M) _ (by omega) (by omega) (by omega)).mono ?_; rintro e y0 ⟨rfl, hb⟩; have HGy0 := hid (grown_next HG.out hb); have HHy0 := hid (HH.out.next hb); obtain ⟨⟨v0, x0⟩, f0⟩ := HHy0.out.room (i := j * 2) (by have := HJC.out; omega); clear hb)
      have HG0z := hid (grown_setM HGy0.out (j * 2) (.string (mtxt (M))))
      have HH0z := hid (HHy0.out.set (i := j * 2) (by omega) (.string (mtxt (M))))
      have HC := hid (show (y0.setCell ⟨g, j * 2, none⟩ (.string (mtxt (M)))).cell? ⟨g, j * 2, none⟩ = some (.string (mtxt (M))) from cell_eq x0)
      obtain ⟨Z0, hZ0⟩ : ∃ W, y0.setCell ⟨g, j * 2, none⟩ (.string (mtxt (M))) = W := ⟨_, rfl⟩
      rw [hZ0] at HG0z HH0z HC ⊢
      clear hZ0 x0 f0
      go_upto_region 7 with (go_at_call 71; refine (markText_int _ (M + 1) _ (by omega) (by omega) (by omega)).mono ?_; rintro e y1 ⟨rfl, hb⟩; have HGy1 := hid (grown_next HG0z.out hb); have HHy1 := hid (HH0z.out.next hb); have HC := hid (show y1.cell? ⟨g, j * 2, none⟩ = some (.string (mtxt (M))) from (hb.cell (p := ⟨g, _, none⟩) HH0z.out.lt).trans HC.out); obtain ⟨⟨v1, x1⟩, f1⟩ := HHy1.out.room (i := j * 2 + 1) (by have := HJC.out; omega); clear hb)
      have HG1z := hid (grown_setM HGy1.out (j * 2 + 1) (.string (mtxt (M + 1))))
      have HH1z := hid (HHy1.out.set (i := j * 2 + 1) (by omega) (.string (mtxt (M + 1))))
      have HC := hid (show (y1.setCell ⟨g, j * 2 + 1, none⟩ (.string (mtxt (M + 1)))).cell? ⟨g, j * 2, none⟩ = some (.string (mtxt (M))) ∧ (y1.setCell ⟨g, j * 2 + 1, none⟩ (.string (mtxt (M + 1)))).cell? ⟨g, j * 2 + 1, none⟩ = some (.string (mtxt (M + 1))) from ⟨(cell_ne (by omega)).trans HC.out, cell_eq x1⟩)
      obtain ⟨Z1, hZ1⟩ : ∃ W, y1.setCell ⟨g, j * 2 + 1, none⟩ (.string (mtxt (M + 1))) = W := ⟨_, rfl⟩
      rw [hZ1] at HG1z HH1z HC ⊢
      clear hZ1 x1 f1
      have HKE : Hid (K + 2 * (j + 1) = M + 2) := hid (by have := HM.out; omega)
      have HN : Hid (MFl g Z K (j + 1) Z1) := hid (by
        have e := HM.out
        refine HH1z.out.more ?_ ?_
        · rw [e]; exact HC.out.1
        · rw [e]; exact HC.out.2)
      go_wp2
      go_roundw
      case rel => exact ⟨j + 1, by go_num, (by rw [HKE.out]; go_num), by omega, HG1z.out, HN.out⟩
      case measure => simp [intOf]; omega
    · obtain rfl : j = n := by omega
      go_wp2
      go_ret
      exact ⟨rfl, HG.out, HH.out⟩
set_option maxHeartbeats 8000000 in
theorem heldFl_row {g n cap K Z : Nat} (w : World) (hn : n ≤ 1048576) (hK : 0 < K) (hK2 : K ≤ 5000000) (h : MFl g Z K n w) :
    Calls Tryz.prog 96 #[.slice (some ⟨g, 0, none⟩) n cap, .int .i64 K] w fun e w' => e = .returned (.int .i64 (K + 2 * n : Nat)) ∧ Below w.heap.size w w' := by
  have HG0 := hid h
  clear h
  go_enter Tryz.func96, Tryz.ntmps96
  go_wp2
  go_loopw [1, 5] (fun k i wr => ∃ j : Nat, i = .int .i64 j ∧ k = .int .i64 (K + 2 * j : Nat) ∧ j ≤ n ∧ Below w.heap.size w wr) (fun _ i _ => n - (intOf i).toNat)
  case atStart => exact ⟨0, rfl, rfl, Nat.zero_le _, Below.refl _ _⟩
  case round =>
    obtain ⟨j, rfl, rfl, hj, hb⟩ := hrel
    have HB := hid hb
    clear hb
    by_cases hlt : j < n
    · have HC : Hid (∀ V, Below w.heap.size w V → V.cell? ⟨g, j * 2, none⟩ = some (.string (mtxt (K + 2 * j))) ∧ V.cell? ⟨g, j * 2 + 1, none⟩ = some (.string (mtxt (K + 2 * j + 1)))) := hid fun V hV => by
        obtain ⟨cu, e, _, h2⟩ := (HG0.out.next hV).e
        have h9 := h2 j hlt
        exact ⟨(row_cell e _).trans h9.1, (row_cell e _).trans h9.2⟩
      obtain ⟨M, hM⟩ : ∃ M, K + 2 * j = M := ⟨_, rfl⟩
      have HM := hid hM
      have hMa : 0 < M := by omega
      have hMb : M ≤ 9500000 := by omega
      have hM2 := hM
      rw [hM2] at HC
      rw [hM]
      have HKE : Hid (K + 2 * (j + 1) = M + 2) := hid (by omega)
      clear hM hM2
      have HT0 : Hid (∀ (a : Int) (V : World), a = (M + 0 : Nat) → Calls Tryz.prog 71 #[.int .i64 a] V fun e w' => e = .returned (.string (mtxt (M))) ∧ Below V.heap.size V w') := hid fun a V h => markText_int a _ V h (by omega) (by omega)
      obtain ⟨t0, ht0⟩ : ∃ t, mtxt (M) = t := ⟨_, rfl⟩
      rw [ht0] at HC HT0
      clear ht0
      have e0 : (t0.toList != t0.toList) = false := by simp
      have HT1 : Hid (∀ (a : Int) (V : World), a = (M + 1 : Nat) → Calls Tryz.prog 71 #[.int .i64 a] V fun e w' => e = .returned (.string (mtxt (M + 1))) ∧ Below V.heap.size V w') := hid fun a V h => markText_int a _ V h (by omega) (by omega)
      obtain ⟨t1, ht1⟩ : ∃ t, mtxt (M + 1) = t := ⟨_, rfl⟩
      rw [ht1] at HC HT1
      clear ht1
      have e1 : (t1.toList != t1.toList) = false := by simp
      have A0 := fun p : Gr wr => (HC.out _ (HB.out.trans (p.h.mono HB.out.size))).1
      go_wp2_with fail
      have hne2 : Nonempty (Gr wr) := ⟨⟨wr, Below.refl _ _⟩⟩
      refine wp_region_gr (by kernel_rfl) (by kernel_rfl) ?_
      repeat (go_big_quiet_step (first | (go_at_call 71; refine Calls.gr_of (v := .string t0) fun hpw => ?_; exact HT0.out _ _ (by omega))))
      refine wpQuiet_nil ?_
      intro _ hw'
      obtain ⟨pw0, rfl⟩ := hw'
      have HB0 := hid (HB.out.trans (pw0.h.mono HB.out.size))
      obtain ⟨W0, hW0⟩ : ∃ W, pw0.W = W := ⟨_, rfl⟩
      rw [hW0] at HB0 ⊢
      clear hW0 A0 hne2
      have A1 := fun p : Gr W0 => (HC.out _ (HB0.out.trans (p.h.mono HB0.out.size))).2
      go_wp2_with fail
      have hne2 : Nonempty (Gr W0) := ⟨⟨W0, Below.refl _ _⟩⟩
      refine wp_region_gr (by kernel_rfl) (by kernel_rfl) ?_
      repeat (go_big_quiet_step (first | (go_at_call 71; refine Calls.gr_of (v := .string t1) fun hpw => ?_; exact HT1.out _ _ (by omega))))
      refine wpQuiet_nil ?_
      intro _ hw'
      obtain ⟨pw1, rfl⟩ := hw'
      have HB1 := hid (HB0.out.trans (pw1.h.mono HB0.out.size))
      obtain ⟨W1, hW1⟩ : ∃ W, pw1.W = W := ⟨_, rfl⟩
      rw [hW1] at HB1 ⊢
      clear hW1 A1 hne2
      go_wp2
      go_roundw
      case rel => exact ⟨j + 1, by go_num, (by rw [HKE.out]; go_num), by omega, HB1.out⟩
      case measure => simp [intOf]; omega
    · obtain rfl : j = n := by omega
      go_wp2
      go_ret
      exact ⟨rfl, HB.out⟩
set_option maxHeartbeats 4000000 in
theorem markFl_nil (K : Nat) (w : World) :
    Calls Tryz.prog 72 #[.slice none 0 0, .int .i64 K] w fun e w' => e = .returned (.int .i64 K) ∧ w' = w := by
  go_enter Tryz.func72, Tryz.ntmps72
  go_wp2
  go_loop [1, 5] (fun k i => k = .int .i64 K ∧ i = .int .i64 0) (fun _ _ => 0)
  case atStart => exact ⟨rfl, rfl⟩
  case round =>
    obtain ⟨rfl, rfl⟩ := hrel
    go_wp2
    go_ret
    exact ⟨rfl, rfl⟩
set_option maxHeartbeats 4000000 in
theorem heldFl_nil (K : Nat) (w : World) :
    Calls Tryz.prog 96 #[.slice none 0 0, .int .i64 K] w fun e w' => e = .returned (.int .i64 K) ∧ w' = w := by
  go_enter Tryz.func96, Tryz.ntmps96
  go_wp2
  go_loop [1, 5] (fun k i => k = .int .i64 K ∧ i = .int .i64 0) (fun _ _ => 0)
  case atStart => exact ⟨rfl, rfl⟩
  case round =>
    obtain ⟨rfl, rfl⟩ := hrel
    go_wp2
    go_ret
    exact ⟨rfl, rfl⟩
/-- A row that is marked. -/
def MvFl (K : Nat) (W : World) (v : Value) (n : Nat) : Prop := (v = .slice none 0 0 ∧ n = 0) ∨ ∃ g cap Z, v = .slice (some ⟨g, 0, none⟩) n cap ∧ MFl g Z K n W
theorem MvFl.next {K n : Nat} {W V : World} {v : Value} (h : MvFl K W v n) (hb : Below W.heap.size W V) : MvFl K V v n := by
  rcases h with h | ⟨g, cap, Z, e, hm⟩
  · exact .inl h
  · exact .inr ⟨g, cap, Z, e, hm.next hb⟩
theorem MvFl.grown {K n : Nat} {W V : World} {u v : Value} (h : MvFl K W v n) (hg : W.grownBy V u.ownBlock) (ha : Ap u v) : MvFl K V v n := by
  rcases h with h | ⟨g, cap, Z, rfl, hm⟩
  · exact .inl h
  · obtain ⟨cu, e, h1, h2⟩ := hm.e
    exact .inr ⟨g, cap, Z, rfl, ⟨cu, (hg.block g (lt_hp e) fun e2 => ha g e2.symm rfl).trans e, h1, h2⟩⟩
theorem MvFl.sl {K n : Nat} {W : World} {v : Value} (h : MvFl K W v n) : ∃ ad c, v = .slice ad n c := by
  rcases h with ⟨rfl, rfl⟩ | ⟨g, cap, Z, rfl, _⟩
  · exact ⟨_, _, rfl⟩
  · exact ⟨_, _, rfl⟩
theorem markFl_sh {B T K n : Nat} {W : World} {v : Value} (h : Sh B T 114 2 W v n) (hn : n ≤ 1048576) (hK : 0 < K) (hK2 : K ≤ 5000000) :
    Calls Tryz.prog 72 #[v, .int .i64 K] W fun e W' => e = .returned (.int .i64 (K + 2 * n : Nat)) ∧ W.grownBy W' v.ownBlock ∧ MvFl K W' v n ∧ Mk W W' := by
  rcases h with ⟨rfl, rfl⟩ | ⟨g, cap, cur, rfl, hB, hT, hc, hs⟩
  · refine (markFl_nil K W).mono ?_
    rintro e W' ⟨rfl, rfl⟩
    exact ⟨rfl, grown_refl _ _, .inl ⟨rfl, rfl⟩, .refl _⟩
  · refine (markFl_row (cap := cap) W hn hs hK hK2 ⟨cur, hc, rfl, fun i h => absurd h (Nat.not_lt_zero _)⟩).mono ?_
    rintro e W' ⟨rfl, hg, hm⟩
    obtain ⟨cu, e2, h2, _⟩ := hm.e
    exact ⟨rfl, hg, .inr ⟨g, cap, _, rfl, hm⟩, .of_grown hg hc e2 h2⟩
theorem heldFl_mv {K n : Nat} {W : World} {v : Value} (h : MvFl K W v n) (hn : n ≤ 1048576) (hK : 0 < K) (hK2 : K ≤ 5000000) :
    Calls Tryz.prog 96 #[v, .int .i64 K] W fun e W' => e = .returned (.int .i64 (K + 2 * n : Nat)) ∧ Below W.heap.size W W' := by
  rcases h with ⟨rfl, rfl⟩ | ⟨g, cap, Z, rfl, hm⟩
  · refine (heldFl_nil K W).mono ?_
    rintro e W' ⟨rfl, rfl⟩
    exact ⟨rfl, Below.refl _ _⟩
  · exact heldFl_row W hn hK hK2 hm
end Go.Proofs.YtlopcjhipajdcaaGreatDoor.Y
/-! Marks in rows. Printed by gen_yrow.py. -/
namespace Go.Proofs.YtlopcjhipajdcaaGreatDoor.Y
open Go.RowKit R
open Go.Proofs.YtlopcjhipajdcaaGreatDoor.J (FileOk BegOk RepOk ltB Says says_t says_f)
set_option maxRecDepth 20000
/-- The first j elements of the row in block g are marked. -/
structure MSn (g Z K j : Nat) (W : World) : Prop where
  e : ∃ cu : Array Value, W.heap[g]? = some (.cells cu 88 (0, 0)) ∧ cu.size = Z ∧ ∀ i, i < j → cu[i * 4]? = some (.int .i64 (K + 4 * i : Nat)) ∧ cu[i * 4 + 1]? = some (.string (mtxt (K + 4 * i + 1))) ∧ cu[i * 4 + 2]? = some (.int .i64 (K + 4 * i + 2 : Nat)) ∧ cu[i * 4 + 3]? = some (.string (mtxt (K + 4 * i + 3)))
theorem MSn.next {g Z K j : Nat} {W V : World} (h : MSn g Z K j W) (hb : Below W.heap.size W V) : MSn g Z K j V := by
  obtain ⟨cu, e, h1, h2⟩ := h.e
  exact ⟨cu, hp_next e hb, h1, h2⟩
theorem MSn.set {g Z K j i : Nat} {W : World} (h : MSn g Z K j W) (hi : j * 4 ≤ i) (v : Value) : MSn g Z K j (W.setCell ⟨g, i, none⟩ v) := by
  obtain ⟨cu, e, h1, h2⟩ := h.e
  refine ⟨_, set_at (i := i) v e, by rw [Array.size_setIfInBounds]; exact h1, fun z hz => ?_⟩
  have h9 := h2 z hz
  rw [Array.getElem?_setIfInBounds_ne (by omega), Array.getElem?_setIfInBounds_ne (by omega), Array.getElem?_setIfInBounds_ne (by omega), Array.getElem?_setIfInBounds_ne (by omega)]
  exact h9
theorem MSn.room {g Z K j i : Nat} {W : World} (h : MSn g Z K j W) (hi : i < Z) : (∃ v, W.cell? ⟨g, i, none⟩ = some v) ∧ W.frozen? ⟨g, i, none⟩ = false := by
  obtain ⟨cu, e, h1, _⟩ := h.e
  exact row_room e (by omega)
theorem MSn.more {g Z K j : Nat} {W : World} (h : MSn g Z K j W) (c0 : W.cell? ⟨g, j * 4, none⟩ = some (.int .i64 (K + 4 * j : Nat))) (c1 : W.cell? ⟨g, j * 4 + 1, none⟩ = some (.string (mtxt (K + 4 * j + 1)))) (c2 : W.cell? ⟨g, j * 4 + 2, none⟩ = some (.int .i64 (K + 4 * j + 2 : Nat))) (c3 : W.cell? ⟨g, j * 4 + 3, none⟩ = some (.string (mtxt (K + 4 * j + 3)))) : MSn g Z K (j + 1) W := by
  obtain ⟨cu, e, h1, h2⟩ := h.e
  refine ⟨cu, e, h1, fun i hi => ?_⟩
  by_cases hij : i < j
  · exact h2 i hij
  · obtain rfl : i = j := by omega
    rw [row_cell e] at c0 c1 c2 c3
    exact ⟨c0, c1, c2, c3⟩
theorem MSn.lt {g Z K j : Nat} {W : World} (h : MSn g Z K j W) : g < W.heap.size := by
  obtain ⟨cu, e, _⟩ := h.e
  exact lt_hp e
set_option maxHeartbeats 8000000 in
theorem markSn_row {g n cap K Z : Nat} (w : World) (hn : n ≤ 1048576) (hZ : n * 4 ≤ Z) (hK : 0 < K) (hK2 : K ≤ 5000000) (h : MSn g Z K 0 w) :
    Calls Tryz.prog 38 #[.slice (some ⟨g, 0, none⟩) n cap, .int .i64 K] w fun e w' => e = .returned (.int .i64 (K + 4 * n : Nat)) ∧ w.grownBy w' (some g) ∧ MSn g Z K n w' := by
  have HG0 := hid h
  clear h
  go_enter Tryz.func38, Tryz.ntmps38
  go_wp2
  go_loopw [1, 5] (fun k i wr => ∃ (j : Nat), i = .int .i64 j ∧ k = .int .i64 (K + 4 * j : Nat) ∧ j ≤ n ∧ w.grownBy wr (some g) ∧ MSn g Z K j wr) (fun _ i _ => n - (intOf i).toNat)
  case atStart => exact ⟨0, rfl, rfl, Nat.zero_le _, grown_refl _ _, HG0.out⟩
  case round =>
    obtain ⟨j, rfl, rfl, hj, hgw, hh⟩ := hrel
    have HG := hid hgw
    have HH := hid hh
    clear hgw hh HG0
    by_cases hlt : j < n
    · have HJC : Hid (j * 4 + 3 < Z) := hid (by omega)
      obtain ⟨M, hM⟩ : ∃ M, K + 4 * j = M := ⟨_, rfl⟩
      have HM := hid hM
      have hMa : 0 < M := by omega
      have hMb : M ≤ 9500000 := by omega
      rw [hM]
      clear hM
      obtain ⟨⟨v0, x0⟩, f0⟩ := HH.out.room (i := j * 4) (by have := HJC.out; omega)
      go_upto_region 6 with fail
      have HG0z := hid (grown_setM HG.out (j * 4) (.int .i64 ((M : Int))))
      have HH0z := hid (HH.out.set (i := j * 4) (by omega) (.int .i64 ((M : Int))))
      have HC := hid (show (wr.setCell ⟨g, j * 4, none⟩ (.int .i64 ((M : Int)))).cell? ⟨g, j * 4, none⟩ = some (.int .i64 ((M : Int))) from cell_eq x0)
      obtain ⟨Z0, hZ0⟩ : ∃ W, wr.setCell ⟨g, j * 4, none⟩ (.int .i64 ((M : Int))) = W := ⟨_, rfl⟩
      rw [hZ0] at HG0z HH0z HC ⊢
      clear hZ0 x0 f0
      go_upto_region 8 with (go_at_call 71; refine (markText_int _ (M + 1) _ (by omega) (by omega) (by omega)).mono ?_; rintro e y1 ⟨rfl, hb⟩; have HGy1 := hid (grown_next HG0z.out hb); have HHy1 := hid (HH0z.out.next hb); have HC := hid (show y1.cell? ⟨g, j * 4, none⟩ = some (.int .i64 ((M : Int))) from (hb.cell (p := ⟨g, _, none⟩) HH0z.out.lt).trans HC.out); obtain ⟨⟨v1, x1⟩, f1⟩ := HHy1.out.room (i := j * 4 + 1) (by have := HJC.out; omega); clear hb)
      have HG1z := hid (grown_setM HGy1.out (j * 4 + 1) (.string (mtxt (M + 1))))
      have HH1z := hid (HHy1.out.set (i := j * 4 + 1) (by omega) (.string (mtxt (M + 1))))
      have HC := hid (show (y1.setCell ⟨g, j * 4 + 1, none⟩ (.string (mtxt (M + 1)))).cell? ⟨g, j * 4, none⟩ = some (.int .i64 ((M : Int))) ∧ (y1.setCell ⟨g, j * 4 + 1, none⟩ (.string (mtxt (M + 1)))).cell? ⟨g, j * 4 + 1, none⟩ = some (.string (mtxt (M + 1))) from ⟨(cell_ne (by omega)).trans HC.out, cell_eq x1⟩)
      obtain ⟨Z1, hZ1⟩ : ∃ W, y1.setCell ⟨g, j * 4 + 1, none⟩ (.string (mtxt (M + 1))) = W := ⟨_, rfl⟩
      rw [hZ1] at HG1z HH1z HC ⊢
      clear hZ1 x1 f1
      obtain ⟨⟨v2, x2⟩, f2⟩ := HH1z.out.room (i := j * 4 + 2) (by have := HJC.out; omega)
      go_upto_region 10 with fail
      have HG2z := hid (grown_setM HG1z.out (j * 4 + 2) (.int .i64 ((M : Int) + 1 + 1)))
      have HH2z := hid (HH1z.out.set (i := j * 4 + 2) (by omega) (.int .i64 ((M : Int) + 1 + 1)))
      have HC := hid (show (Z1.setCell ⟨g, j * 4 + 2, none⟩ (.int .i64 ((M : Int) + 1 + 1))).cell? ⟨g, j * 4, none⟩ = some (.int .i64 ((M : Int))) ∧ (Z1.setCell ⟨g, j * 4 + 2, none⟩ (.int .i64 ((M : Int) + 1 + 1))).cell? ⟨g, j * 4 + 1, none⟩ = some (.string (mtxt (M + 1))) ∧ (Z1.setCell ⟨g, j * 4 + 2, none⟩ (.int .i64 ((M : Int) + 1 + 1))).cell? ⟨g, j * 4 + 2, none⟩ = some (.int .i64 ((M : Int) + 1 + 1)) from ⟨(cell_ne (by omega)).trans HC.out.1, (cell_ne (by omega)).trans HC.out.2, cell_eq x2⟩)
      obtain ⟨Z2, hZ2⟩ : ∃ W, Z1.setCell ⟨g, j * 4 + 2, none⟩ (.int .i64 ((M : Int) + 1 + 1)) = W := ⟨_, rfl⟩
      rw [hZ2] at HG2z HH2z HC ⊢
      clear hZ2 x2 f2
      go_upto_region 11 with (go_at_call 71; refine (markText_int _ (M + 3) _ (by omega) (by omega) (by omega)).mono ?_; rintro e y3 ⟨rfl, hb⟩; have HGy3 := hid (grown_next HG2z.out hb); have HHy3 := hid (HH2z.out.next hb); have HC := hid (show y3.cell? ⟨g, j * 4, none⟩ = some (.int .i64 ((M : Int))) ∧ y3.cell? ⟨g, j * 4 + 1, none⟩ = some (.string (mtxt (M + 1))) ∧ y3.cell? ⟨g, j * 4 + 2, none⟩ = some (.int .i64 ((M : Int) + 1 + 1)) from ⟨(hb.cell (p := ⟨g, _, none⟩) HH2z.out.lt).trans HC.out.1, (hb.cell (p := ⟨g, _, none⟩) HH2z.out.lt).trans HC.out.2.1, (hb.cell (p := ⟨g, _, none⟩) HH2z.out.lt).trans HC.out.2.2⟩); obtain ⟨⟨v3, x3⟩, f3⟩ := HHy3.out.room (i := j * 4 + 3) (by have := HJC.out; omega); clear hb)
      have HG3z := hid (grown_setM HGy3.out (j * 4 + 3) (.string (mtxt (M + 3))))
      have HH3z := hid (HHy3.out.set (i := j * 4 + 3) (by omega) (.string (mtxt (M + 3))))
      have HC := hid (show (y3.setCell ⟨g, j * 4 + 3, none⟩ (.string (mtxt (M + 3)))).cell? ⟨g, j * 4, none⟩ = some (.int .i64 ((M : Int))) ∧ (y3.setCell ⟨g, j * 4 + 3, none⟩ (.string (mtxt (M + 3)))).cell? ⟨g, j * 4 + 1, none⟩ = some (.string (mtxt (M + 1))) ∧ (y3.setCell ⟨g, j * 4 + 3, none⟩ (.string (mtxt (M + 3)))).cell? ⟨g, j * 4 + 2, none⟩ = some (.int .i64 ((M : Int) + 1 + 1)) ∧ (y3.setCell ⟨g, j * 4 + 3, none⟩ (.string (mtxt (M + 3)))).cell? ⟨g, j * 4 + 3, none⟩ = some (.string (mtxt (M + 3))) from ⟨(cell_ne (by omega)).trans HC.out.1, (cell_ne (by omega)).trans HC.out.2.1, (cell_ne (by omega)).trans HC.out.2.2, cell_eq x3⟩)
      obtain ⟨Z3, hZ3⟩ : ∃ W, y3.setCell ⟨g, j * 4 + 3, none⟩ (.string (mtxt (M + 3))) = W := ⟨_, rfl⟩
      rw [hZ3] at HG3z HH3z HC ⊢
      clear hZ3 x3 f3
      have HKE : Hid (K + 4 * (j + 1) = M + 4) := hid (by have := HM.out; omega)
      have HN : Hid (MSn g Z K (j + 1) Z3) := hid (by
        have e := HM.out
        refine HH3z.out.more ?_ ?_ ?_ ?_
        · rw [e]; exact HC.out.1
        · rw [e]; exact HC.out.2.1
        · rw [e]; exact HC.out.2.2.1
        · rw [e]; exact HC.out.2.2.2)
      go_wp2
      go_roundw
      case rel => exact ⟨j + 1, by go_num, (by rw [HKE.out]; go_num), by omega, HG3z.out, HN.out⟩
      case measure => simp [intOf]; omega
    · obtain rfl : j = n := by omega
      go_wp2
      go_ret
      exact ⟨rfl, HG.out, HH.out⟩
set_option maxHeartbeats 8000000 in
theorem heldSn_row {g n cap K Z : Nat} (w : World) (hn : n ≤ 1048576) (hK : 0 < K) (hK2 : K ≤ 5000000) (h : MSn g Z K n w) :
    Calls Tryz.prog 74 #[.slice (some ⟨g, 0, none⟩) n cap, .int .i64 K] w fun e w' => e = .returned (.int .i64 (K + 4 * n : Nat)) ∧ Below w.heap.size w w' := by
  have HG0 := hid h
  clear h
  go_enter Tryz.func74, Tryz.ntmps74
  go_wp2
  go_loopw [1, 5] (fun k i wr => ∃ j : Nat, i = .int .i64 j ∧ k = .int .i64 (K + 4 * j : Nat) ∧ j ≤ n ∧ Below w.heap.size w wr) (fun _ i _ => n - (intOf i).toNat)
  case atStart => exact ⟨0, rfl, rfl, Nat.zero_le _, Below.refl _ _⟩
  case round =>
    obtain ⟨j, rfl, rfl, hj, hb⟩ := hrel
    have HB := hid hb
    clear hb
    by_cases hlt : j < n
    · have HC : Hid (∀ V, Below w.heap.size w V → V.cell? ⟨g, j * 4, none⟩ = some (.int .i64 (K + 4 * j : Nat)) ∧ V.cell? ⟨g, j * 4 + 1, none⟩ = some (.string (mtxt (K + 4 * j + 1))) ∧ V.cell? ⟨g, j * 4 + 2, none⟩ = some (.int .i64 (K + 4 * j + 2 : Nat)) ∧ V.cell? ⟨g, j * 4 + 3, none⟩ = some (.string (mtxt (K + 4 * j + 3)))) := hid fun V hV => by
        obtain ⟨cu, e, _, h2⟩ := (HG0.out.next hV).e
        have h9 := h2 j hlt
        exact ⟨(row_cell e _).trans h9.1, (row_cell e _).trans h9.2.1, (row_cell e _).trans h9.2.2.1, (row_cell e _).trans h9.2.2.2⟩
      obtain ⟨M, hM⟩ : ∃ M, K + 4 * j = M := ⟨_, rfl⟩
      have HM := hid hM
      have hMa : 0 < M := by omega
      have hMb : M ≤ 9500000 := by omega
      have hM2 := hM
      rw [hM2] at HC
      rw [hM]
      have HKE : Hid (K + 4 * (j + 1) = M + 4) := hid (by omega)
      clear hM hM2
      have HT1 : Hid (∀ (a : Int) (V : World), a = (M + 1 : Nat) → Calls Tryz.prog 71 #[.int .i64 a] V fun e w' => e = .returned (.string (mtxt (M + 1))) ∧ Below V.heap.size V w') := hid fun a V h => markText_int a _ V h (by omega) (by omega)
      obtain ⟨t1, ht1⟩ : ∃ t, mtxt (M + 1) = t := ⟨_, rfl⟩
      rw [ht1] at HC HT1
      clear ht1
      have e1 : (t1.toList != t1.toList) = false := by simp
      have HT3 : Hid (∀ (a : Int) (V : World), a = (M + 3 : Nat) → Calls Tryz.prog 71 #[.int .i64 a] V fun e w' => e = .returned (.string (mtxt (M + 3))) ∧ Below V.heap.size V w') := hid fun a V h => markText_int a _ V h (by omega) (by omega)
      obtain ⟨t3, ht3⟩ : ∃ t, mtxt (M + 3) = t := ⟨_, rfl⟩
      rw [ht3] at HC HT3
      clear ht3
      have e3 : (t3.toList != t3.toList) = false := by simp
      have c0 := (HC.out _ HB.out).1
      have z0 : (((M : Nat) : Int) != (M : Int)) = false := by simp
      have A1 := fun p : Gr wr => (HC.out _ (HB.out.trans (p.h.mono HB.out.size))).2.1
      go_wp2_with fail
      have hne2 : Nonempty (Gr wr) := ⟨⟨wr, Below.refl _ _⟩⟩
      refine wp_region_gr (by kernel_rfl) (by kernel_rfl) ?_
      repeat (go_big_quiet_step (first | (go_at_call 71; refine Calls.gr_of (v := .string t1) fun hpw => ?_; exact HT1.out _ _ (by omega))))
      refine wpQuiet_nil ?_
      intro _ hw'
      obtain ⟨pw1, rfl⟩ := hw'
      have HB1 := hid (HB.out.trans (pw1.h.mono HB.out.size))
      obtain ⟨W1, hW1⟩ : ∃ W, pw1.W = W := ⟨_, rfl⟩
      rw [hW1] at HB1 ⊢
      clear hW1 A1 hne2 c0 z0
      have c2 := (HC.out _ HB1.out).2.2.1
      have z2 : (((M + 2 : Nat) : Int) != (M : Int) + 1 + 1) = false := by simp; omega
      have A3 := fun p : Gr W1 => (HC.out _ (HB1.out.trans (p.h.mono HB1.out.size))).2.2.2
      go_wp2_with fail
      have hne2 : Nonempty (Gr W1) := ⟨⟨W1, Below.refl _ _⟩⟩
      refine wp_region_gr (by kernel_rfl) (by kernel_rfl) ?_
      repeat (go_big_quiet_step (first | (go_at_call 71; refine Calls.gr_of (v := .string t3) fun hpw => ?_; exact HT3.out _ _ (by omega))))
      refine wpQuiet_nil ?_
      intro _ hw'
      obtain ⟨pw3, rfl⟩ := hw'
      have HB3 := hid (HB1.out.trans (pw3.h.mono HB1.out.size))
      obtain ⟨W3, hW3⟩ : ∃ W, pw3.W = W := ⟨_, rfl⟩
      rw [hW3] at HB3 ⊢
      clear hW3 A3 hne2 c2 z2
      go_wp2
      go_roundw
      case rel => exact ⟨j + 1, by go_num, (by rw [HKE.out]; go_num), by omega, HB3.out⟩
      case measure => simp [intOf]; omega
    · obtain rfl : j = n := by omega
      go_wp2
      go_ret
      exact ⟨rfl, HB.out⟩
set_option maxHeartbeats 4000000 in
theorem markSn_nil (K : Nat) (w : World) :
    Calls Tryz.prog 38 #[.slice none 0 0, .int .i64 K] w fun e w' => e = .returned (.int .i64 K) ∧ w' = w := by
  go_enter Tryz.func38, Tryz.ntmps38
  go_wp2
  go_loop [1, 5] (fun k i => k = .int .i64 K ∧ i = .int .i64 0) (fun _ _ => 0)
  case atStart => exact ⟨rfl, rfl⟩
  case round =>
    obtain ⟨rfl, rfl⟩ := hrel
    go_wp2
    go_ret
    exact ⟨rfl, rfl⟩
set_option maxHeartbeats 4000000 in
theorem heldSn_nil (K : Nat) (w : World) :
    Calls Tryz.prog 74 #[.slice none 0 0, .int .i64 K] w fun e w' => e = .returned (.int .i64 K) ∧ w' = w := by
  go_enter Tryz.func74, Tryz.ntmps74
  go_wp2
  go_loop [1, 5] (fun k i => k = .int .i64 K ∧ i = .int .i64 0) (fun _ _ => 0)
  case atStart => exact ⟨rfl, rfl⟩
  case round =>
    obtain ⟨rfl, rfl⟩ := hrel
    go_wp2
    go_ret
    exact ⟨rfl, rfl⟩
/-- A row that is marked. -/
def MvSn (K : Nat) (W : World) (v : Value) (n : Nat) : Prop := (v = .slice none 0 0 ∧ n = 0) ∨ ∃ g cap Z, v = .slice (some ⟨g, 0, none⟩) n cap ∧ MSn g Z K n W
theorem MvSn.next {K n : Nat} {W V : World} {v : Value} (h : MvSn K W v n) (hb : Below W.heap.size W V) : MvSn K V v n := by
  rcases h with h | ⟨g, cap, Z, e, hm⟩
  · exact .inl h
  · exact .inr ⟨g, cap, Z, e, hm.next hb⟩
theorem MvSn.grown {K n : Nat} {W V : World} {u v : Value} (h : MvSn K W v n) (hg : W.grownBy V u.ownBlock) (ha : Ap u v) : MvSn K V v n := by
  rcases h with h | ⟨g, cap, Z, rfl, hm⟩
  · exact .inl h
  · obtain ⟨cu, e, h1, h2⟩ := hm.e
    exact .inr ⟨g, cap, Z, rfl, ⟨cu, (hg.block g (lt_hp e) fun e2 => ha g e2.symm rfl).trans e, h1, h2⟩⟩
theorem MvSn.sl {K n : Nat} {W : World} {v : Value} (h : MvSn K W v n) : ∃ ad c, v = .slice ad n c := by
  rcases h with ⟨rfl, rfl⟩ | ⟨g, cap, Z, rfl, _⟩
  · exact ⟨_, _, rfl⟩
  · exact ⟨_, _, rfl⟩
theorem markSn_sh {B T K n : Nat} {W : World} {v : Value} (h : Sh B T 88 4 W v n) (hn : n ≤ 1048576) (hK : 0 < K) (hK2 : K ≤ 5000000) :
    Calls Tryz.prog 38 #[v, .int .i64 K] W fun e W' => e = .returned (.int .i64 (K + 4 * n : Nat)) ∧ W.grownBy W' v.ownBlock ∧ MvSn K W' v n ∧ Mk W W' := by
  rcases h with ⟨rfl, rfl⟩ | ⟨g, cap, cur, rfl, hB, hT, hc, hs⟩
  · refine (markSn_nil K W).mono ?_
    rintro e W' ⟨rfl, rfl⟩
    exact ⟨rfl, grown_refl _ _, .inl ⟨rfl, rfl⟩, .refl _⟩
  · refine (markSn_row (cap := cap) W hn hs hK hK2 ⟨cur, hc, rfl, fun i h => absurd h (Nat.not_lt_zero _)⟩).mono ?_
    rintro e W' ⟨rfl, hg, hm⟩
    obtain ⟨cu, e2, h2, _⟩ := hm.e
    exact ⟨rfl, hg, .inr ⟨g, cap, _, rfl, hm⟩, .of_grown hg hc e2 h2⟩
theorem heldSn_mv {K n : Nat} {W : World} {v : Value} (h : MvSn K W v n) (hn : n ≤ 1048576) (hK : 0 < K) (hK2 : K ≤ 5000000) :
    Calls Tryz.prog 74 #[v, .int .i64 K] W fun e W' => e = .returned (.int .i64 (K + 4 * n : Nat)) ∧ Below W.heap.size W W' := by
  rcases h with ⟨rfl, rfl⟩ | ⟨g, cap, Z, rfl, hm⟩
  · refine (heldSn_nil K W).mono ?_
    rintro e W' ⟨rfl, rfl⟩
    exact ⟨rfl, Below.refl _ _⟩
  · exact heldSn_row W hn hK hK2 hm
end Go.Proofs.YtlopcjhipajdcaaGreatDoor.Y
/-! Marks in rows. Printed by gen_yrow.py. -/
namespace Go.Proofs.YtlopcjhipajdcaaGreatDoor.Y
open Go.RowKit R
open Go.Proofs.YtlopcjhipajdcaaGreatDoor.J (FileOk BegOk RepOk ltB Says says_t says_f)
set_option maxRecDepth 20000
/-- The first j elements of the row in block g are marked. -/
structure MStr (g Z K j : Nat) (W : World) : Prop where
  e : ∃ cu : Array Value, W.heap[g]? = some (.cells cu 9 (0, 0)) ∧ cu.size = Z ∧ ∀ i, i < j → cu[i]? = some (.string (mtxt (K + i)))
theorem MStr.next {g Z K j : Nat} {W V : World} (h : MStr g Z K j W) (hb : Below W.heap.size W V) : MStr g Z K j V := by
  obtain ⟨cu, e, h1, h2⟩ := h.e
  exact ⟨cu, hp_next e hb, h1, h2⟩
theorem MStr.set {g Z K j i : Nat} {W : World} (h : MStr g Z K j W) (hi : j ≤ i) (v : Value) : MStr g Z K j (W.setCell ⟨g, i, none⟩ v) := by
  obtain ⟨cu, e, h1, h2⟩ := h.e
  refine ⟨_, set_at (i := i) v e, by rw [Array.size_setIfInBounds]; exact h1, fun z hz => ?_⟩
  have h9 := h2 z hz
  rw [Array.getElem?_setIfInBounds_ne (by omega)]
  exact h9
theorem MStr.room {g Z K j i : Nat} {W : World} (h : MStr g Z K j W) (hi : i < Z) : (∃ v, W.cell? ⟨g, i, none⟩ = some v) ∧ W.frozen? ⟨g, i, none⟩ = false := by
  obtain ⟨cu, e, h1, _⟩ := h.e
  exact row_room e (by omega)
theorem MStr.more {g Z K j : Nat} {W : World} (h : MStr g Z K j W) (c0 : W.cell? ⟨g, j, none⟩ = some (.string (mtxt (K + j)))) : MStr g Z K (j + 1) W := by
  obtain ⟨cu, e, h1, h2⟩ := h.e
  refine ⟨cu, e, h1, fun i hi => ?_⟩
  by_cases hij : i < j
  · exact h2 i hij
  · obtain rfl : i = j := by omega
    rw [row_cell e] at c0
    exact c0
theorem MStr.lt {g Z K j : Nat} {W : World} (h : MStr g Z K j W) : g < W.heap.size := by
  obtain ⟨cu, e, _⟩ := h.e
  exact lt_hp e
set_option maxHeartbeats 8000000 in
theorem markStr_row {g n cap K Z : Nat} (w : World) (hn : n ≤ 1048576) (hZ : n * 1 ≤ Z) (hK : 0 < K) (hK2 : K ≤ 5000000) (h : MStr g Z K 0 w) :
    Calls Tryz.prog 70 #[.slice (some ⟨g, 0, none⟩) n cap, .int .i64 K] w fun e w' => e = .returned (.int .i64 (K + 1 * n : Nat)) ∧ w.grownBy w' (some g) ∧ MStr g Z K n w' := by
  have HG0 := hid h
  clear h
  go_enter Tryz.func70, Tryz.ntmps70
  go_wp2
  go_loopw [1, 5] (fun k i wr => ∃ (j : Nat), i = .int .i64 j ∧ k = .int .i64 (K + 1 * j : Nat) ∧ j ≤ n ∧ w.grownBy wr (some g) ∧ MStr g Z K j wr) (fun _ i _ => n - (intOf i).toNat)
  case atStart => exact ⟨0, rfl, rfl, Nat.zero_le _, grown_refl _ _, HG0.out⟩
  case round =>
    obtain ⟨j, rfl, rfl, hj, hgw, hh⟩ := hrel
    have HG := hid hgw
    have HH := hid hh
    clear hgw hh HG0
    by_cases hlt : j < n
    · have HJC : Hid (j * 1 + 0 < Z) := hid (by omega)
      obtain ⟨M, hM⟩ : ∃ M, K + 1 * j = M := ⟨_, rfl⟩
      have HM := hid hM
      have hMa : 0 < M := by omega
      have hMb : M ≤ 9500000 := by omega
      rw [hM]
      clear hM
      go_upto_region 5 with (go_at_call 71; refine (markText_int _ (M) _ (by omega) (by omega) (by omega)).mono ?_; rintro e y0 ⟨rfl, hb⟩; have HGy0 := hid (grown_next HG.out hb); have HHy0 := hid (HH.out.next hb); obtain ⟨⟨v0, x0⟩, f0⟩ := HHy0.out.room (i := j) (by have := HJC.out; omega); clear hb)
      have HG0z := hid (grown_setM HGy0.out (j) (.string (mtxt (M))))
      have HH0z := hid (HHy0.out.set (i := j) (by omega) (.string (mtxt (M))))
      have HC := hid (show (y0.setCell ⟨g, j, none⟩ (.string (mtxt (M)))).cell? ⟨g, j, none⟩ = some (.string (mtxt (M))) from cell_eq x0)
      obtain ⟨Z0, hZ0⟩ : ∃ W, y0.setCell ⟨g, j, none⟩ (.string (mtxt (M))) = W := ⟨_, rfl⟩
      rw [hZ0] at HG0z HH0z HC ⊢
      clear hZ0 x0 f0
      have HKE : Hid (K + 1 * (j + 1) = M + 1) := hid (by have := HM.out; omega)
      have HN : Hid (MStr g Z K (j + 1) Z0) := hid (by
        have e : K + j = M := by have := HM.out; omega
        refine HH0z.out.more ?_
        · rw [e]; exact HC.out)
      go_wp2
      go_roundw
      case rel => exact ⟨j + 1, by go_num, (by rw [HKE.out]; go_num), by omega, HG0z.out, HN.out⟩
      case measure => simp [intOf]; omega
    · obtain rfl : j = n := by omega
      go_wp2
      go_ret
      exact ⟨rfl, HG.out, HH.out⟩
set_option maxHeartbeats 8000000 in
theorem heldStr_row {g n cap K Z : Nat} (w : World) (hn : n ≤ 1048576) (hK : 0 < K) (hK2 : K ≤ 5000000) (h : MStr g Z K n w) :
    Calls Tryz.prog 95 #[.slice (some ⟨g, 0, none⟩) n cap, .int .i64 K] w fun e w' => e = .returned (.int .i64 (K + 1 * n : Nat)) ∧ Below w.heap.size w w' := by
  have HG0 := hid h
  clear h
  go_enter Tryz.func95, Tryz.ntmps95
  go_wp2
  go_loopw [1, 5] (fun k i wr => ∃ j : Nat, i = .int .i64 j ∧ k = .int .i64 (K + 1 * j : Nat) ∧ j ≤ n ∧ Below w.heap.size w wr) (fun _ i _ => n - (intOf i).toNat)
  case atStart => exact ⟨0, rfl, rfl, Nat.zero_le _, Below.refl _ _⟩
  case round =>
    obtain ⟨j, rfl, rfl, hj, hb⟩ := hrel
    have HB := hid hb
    clear hb
    by_cases hlt : j < n
    · have HC : Hid (∀ V, Below w.heap.size w V → V.cell? ⟨g, j, none⟩ = some (.string (mtxt (K + j)))) := hid fun V hV => by
        obtain ⟨cu, e, _, h2⟩ := (HG0.out.next hV).e
        have h9 := h2 j hlt
        exact (row_cell e _).trans h9
      obtain ⟨M, hM⟩ : ∃ M, K + 1 * j = M := ⟨_, rfl⟩
      have HM := hid hM
      have hMa : 0 < M := by omega
      have hMb : M ≤ 9500000 := by omega
      have hM2 : K + j = M := by omega
      rw [hM2] at HC
      rw [hM]
      have HKE : Hid (K + 1 * (j + 1) = M + 1) := hid (by omega)
      clear hM hM2
      have HT0 : Hid (∀ (a : Int) (V : World), a = (M + 0 : Nat) → Calls Tryz.prog 71 #[.int .i64 a] V fun e w' => e = .returned (.string (mtxt (M))) ∧ Below V.heap.size V w') := hid fun a V h => markText_int a _ V h (by omega) (by omega)
      obtain ⟨t0, ht0⟩ : ∃ t, mtxt (M) = t := ⟨_, rfl⟩
      rw [ht0] at HC HT0
      clear ht0
      have e0 : (t0.toList != t0.toList) = false := by simp
      have A0 := fun p : Gr wr => (HC.out _ (HB.out.trans (p.h.mono HB.out.size)))
      go_wp2_with fail
      have hne2 : Nonempty (Gr wr) := ⟨⟨wr, Below.refl _ _⟩⟩
      refine wp_region_gr (by kernel_rfl) (by kernel_rfl) ?_
      repeat (go_big_quiet_step (first | (go_at_call 71; refine Calls.gr_of (v := .string t0) fun hpw => ?_; exact HT0.out _ _ (by omega))))
      refine wpQuiet_nil ?_
      intro _ hw'
      obtain ⟨pw0, rfl⟩ := hw'
      have HB0 := hid (HB.out.trans (pw0.h.mono HB.out.size))
      obtain ⟨W0, hW0⟩ : ∃ W, pw0.W = W := ⟨_, rfl⟩
      rw [hW0] at HB0 ⊢
      clear hW0 A0 hne2
      go_wp2
      go_roundw
      case rel => exact ⟨j + 1, by go_num, (by rw [HKE.out]; go_num), by omega, HB0.out⟩
      case measure => simp [intOf]; omega
    · obtain rfl : j = n := by omega
      go_wp2
      go_ret
      exact ⟨rfl, HB.out⟩
set_option maxHeartbeats 4000000 in
theorem markStr_nil (K : Nat) (w : World) :
    Calls Tryz.prog 70 #[.slice none 0 0, .int .i64 K] w fun e w' => e = .returned (.int .i64 K) ∧ w' = w := by
  go_enter Tryz.func70, Tryz.ntmps70
  go_wp2
  go_loop [1, 5] (fun k i => k = .int .i64 K ∧ i = .int .i64 0) (fun _ _ => 0)
  case atStart => exact ⟨rfl, rfl⟩
  case round =>
    obtain ⟨rfl, rfl⟩ := hrel
    go_wp2
    go_ret
    exact ⟨rfl, rfl⟩
set_option maxHeartbeats 4000000 in
theorem heldStr_nil (K : Nat) (w : World) :
    Calls Tryz.prog 95 #[.slice none 0 0, .int .i64 K] w fun e w' => e = .returned (.int .i64 K) ∧ w' = w := by
  go_enter Tryz.func95, Tryz.ntmps95
  go_wp2
  go_loop [1, 5] (fun k i => k = .int .i64 K ∧ i = .int .i64 0) (fun _ _ => 0)
  case atStart => exact ⟨rfl, rfl⟩
  case round =>
    obtain ⟨rfl, rfl⟩ := hrel
    go_wp2
    go_ret
    exact ⟨rfl, rfl⟩
/-- A row that is marked. -/
def MvStr (K : Nat) (W : World) (v : Value) (n : Nat) : Prop := (v = .slice none 0 0 ∧ n = 0) ∨ ∃ g cap Z, v = .slice (some ⟨g, 0, none⟩) n cap ∧ MStr g Z K n W
theorem MvStr.next {K n : Nat} {W V : World} {v : Value} (h : MvStr K W v n) (hb : Below W.heap.size W V) : MvStr K V v n := by
  rcases h with h | ⟨g, cap, Z, e, hm⟩
  · exact .inl h
  · exact .inr ⟨g, cap, Z, e, hm.next hb⟩
theorem MvStr.grown {K n : Nat} {W V : World} {u v : Value} (h : MvStr K W v n) (hg : W.grownBy V u.ownBlock) (ha : Ap u v) : MvStr K V v n := by
  rcases h with h | ⟨g, cap, Z, rfl, hm⟩
  · exact .inl h
  · obtain ⟨cu, e, h1, h2⟩ := hm.e
    exact .inr ⟨g, cap, Z, rfl, ⟨cu, (hg.block g (lt_hp e) fun e2 => ha g e2.symm rfl).trans e, h1, h2⟩⟩
theorem MvStr.sl {K n : Nat} {W : World} {v : Value} (h : MvStr K W v n) : ∃ ad c, v = .slice ad n c := by
  rcases h with ⟨rfl, rfl⟩ | ⟨g, cap, Z, rfl, _⟩
  · exact ⟨_, _, rfl⟩
  · exact ⟨_, _, rfl⟩
theorem markStr_sh {B T K n : Nat} {W : World} {v : Value} (h : Sh B T 9 1 W v n) (hn : n ≤ 1048576) (hK : 0 < K) (hK2 : K ≤ 5000000) :
    Calls Tryz.prog 70 #[v, .int .i64 K] W fun e W' => e = .returned (.int .i64 (K + 1 * n : Nat)) ∧ W.grownBy W' v.ownBlock ∧ MvStr K W' v n ∧ Mk W W' := by
  rcases h with ⟨rfl, rfl⟩ | ⟨g, cap, cur, rfl, hB, hT, hc, hs⟩
  · refine (markStr_nil K W).mono ?_
    rintro e W' ⟨rfl, rfl⟩
    exact ⟨rfl, grown_refl _ _, .inl ⟨rfl, rfl⟩, .refl _⟩
  · refine (markStr_row (cap := cap) W hn hs hK hK2 ⟨cur, hc, rfl, fun i h => absurd h (Nat.not_lt_zero _)⟩).mono ?_
    rintro e W' ⟨rfl, hg, hm⟩
    obtain ⟨cu, e2, h2, _⟩ := hm.e
    exact ⟨rfl, hg, .inr ⟨g, cap, _, rfl, hm⟩, .of_grown hg hc e2 h2⟩
theorem heldStr_mv {K n : Nat} {W : World} {v : Value} (h : MvStr K W v n) (hn : n ≤ 1048576) (hK : 0 < K) (hK2 : K ≤ 5000000) :
    Calls Tryz.prog 95 #[v, .int .i64 K] W fun e W' => e = .returned (.int .i64 (K + 1 * n : Nat)) ∧ Below W.heap.size W W' := by
  rcases h with ⟨rfl, rfl⟩ | ⟨g, cap, Z, rfl, hm⟩
  · refine (heldStr_nil K W).mono ?_
    rintro e W' ⟨rfl, rfl⟩
    exact ⟨rfl, Below.refl _ _⟩
  · exact heldStr_row W hn hK hK2 hm
end Go.Proofs.YtlopcjhipajdcaaGreatDoor.Y
