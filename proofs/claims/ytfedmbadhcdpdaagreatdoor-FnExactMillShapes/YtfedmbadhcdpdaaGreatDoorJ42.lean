import Derived.Test.YtfedmbadhcdpdaaGreatDoorJ41
/-! Marking a row of shapes. -/
namespace Go.Proofs.YtfedmbadhcdpdaaGreatDoor.C
open Go.RowKit
set_option maxRecDepth 20000
theorem markI_int (g n c K : Nat) (w : World) (hn : n ≤ 600) (hK : K ≤ 900000000) (l : List Int) (hl : l.length = n) (hb : IntB w g l) (a : Int) (he : a = (K : Nat)) :
    Calls Tryz.prog 30 #[.slice (some ⟨g, 0, none⟩) n c, .int .i64 a] w fun e w' => e = .returned (.int .i64 (K + n : Nat)) ∧ w.grownBy w' (some g) ∧ MInt w' g n K := by
  subst he
  obtain ⟨cur, e, hz, _⟩ := hb
  exact markI_any g n c K w (by omega) (by omega) cur e (by rw [hz, hl])
theorem kN_le : ∀ L : List ShE, (∀ x ∈ L, x.s.sl.length ≤ 600 ∧ x.s.sk.length ≤ 600) → kN L ≤ L.length * 1201
  | [], _ => Nat.zero_le _
  | x :: L, h => by
    have h1 := kN_le L fun y hy => h y (List.mem_cons_of_mem _ hy)
    have h2 := h x List.mem_cons_self
    have e : kN (x :: L) = wSh x + kN L := by simp [kN]
    rw [e, List.length_cons, Nat.add_mul]
    unfold wSh
    omega
theorem getD_memS {L : List ShE} {j : Nat} (h : j < L.length) : L.getD j she0 ∈ L := by
  rw [List.getD_eq_getElem?_getD, List.getElem?_eq_getElem h]
  exact List.getElem_mem h
theorem MkS.start {B K : Nat} {W : World} {v : Value} {L : List ShE} (h : NRow B W v L) : (v = .slice none 0 0 ∧ L = []) ∨ ∃ g cap cur, v = .slice (some ⟨g, 0, none⟩) L.length cap ∧ MkS B L K g 0 cur W := by
  obtain ⟨_, ⟨rfl, hn⟩ | ⟨g, cap, cur, rfl, hB, hc, hnc, hm, hz, ht⟩⟩ := h.own
  · exact .inl ⟨rfl, List.eq_nil_of_length_eq_zero hn⟩
  · refine .inr ⟨g, cap, cur, rfl, hc, by rw [hz]; exact Nat.mul_le_mul_right 3 hnc, hB, fun i hi => ?_, fun i hi => ?_, fun i k hik hk => ?_, fun i _ hi => ?_, fun i hi => absurd hi (Nat.not_lt_zero _)⟩
    · obtain ⟨_, h1, h2⟩ := cellsS_get L i hi
      have e1 : ∀ j, j < L.length * 3 → cur[j]? = (cellsS L)[j]? := fun j hj => by
        have : (cur.toList.take (L.length * 3))[j]? = (cellsS L)[j]? := by rw [ht]
        rw [List.getElem?_take_of_lt hj, Array.getElem?_toList] at this
        exact this
      rw [e1 _ (by omega), e1 _ (by omega)]
      exact ⟨h1, h2⟩
    · have := h.ins _ (getD_memS hi)
      exact ⟨this.1, this.2.1⟩
    · have h1 := List.pairwise_iff_getElem.1 h.asc i k (by omega) hk hik
      rw [List.getD_eq_getElem?_getD, List.getD_eq_getElem?_getD, List.getElem?_eq_getElem hk, List.getElem?_eq_getElem (show i < L.length by omega)]
      exact h1
    · exact (h.ins _ (getD_memS hi)).2.2
def MarkedS (K : Nat) (W : World) (v : Value) (L : List ShE) : Prop := (v = .slice none 0 0 ∧ L = []) ∨ ∃ B g cap cur, v = .slice (some ⟨g, 0, none⟩) L.length cap ∧ MkS B L K g L.length cur W
set_option maxHeartbeats 4000000 in
theorem markS_nil (K : Nat) (w : World) :
    Calls Tryz.prog 14 #[.slice none 0 0, .int .i64 K] w fun e w' => e = .returned (.int .i64 K) ∧ w' = w := by
  go_enter Tryz.func14, Tryz.ntmps14
  go_wp2
  go_loop [1, 5] (fun k i => k = .int .i64 K ∧ i = .int .i64 0) (fun _ _ => 0)
  case atStart => exact ⟨rfl, rfl⟩
  case round =>
    obtain ⟨rfl, rfl⟩ := hrel
    go_wp2
    go_ret
    exact ⟨rfl, rfl⟩
set_option maxHeartbeats 8000000 in
theorem markS_row {B K g cap : Nat} {L : List ShE} {cur : Array Value} (w : World) (h : MkS B L K g 0 cur w) (hB : B ≤ w.heap.size) (hL : L.length ≤ 50000) (hK : K ≤ 1000) (hw : ∀ x ∈ L, x.s.sl.length ≤ 600 ∧ x.s.sk.length ≤ 600) :
    Calls Tryz.prog 14 #[.slice (some ⟨g, 0, none⟩) L.length cap, .int .i64 K] w fun e w' => e = .returned (.int .i64 (K + kN L : Nat)) ∧ Below B w w' ∧ MarkedS K w' (.slice (some ⟨g, 0, none⟩) L.length cap) L := by
  have HM0 := hid h
  have HW := hid hw
  have HKL : Hid (∀ j, kN (L.take j) ≤ 60100000) := hid fun j => by
    have h1 := kN_le (L.take j) fun x hx => hw x (List.mem_of_mem_take hx)
    have h2 : (L.take j).length ≤ 50000 := by rw [List.length_take]; omega
    have := Nat.mul_le_mul_right 1201 h2
    omega
  clear h hw
  go_enter Tryz.func14, Tryz.ntmps14
  go_wp2
  go_loopw [1, 5] (fun k i wr => ∃ (j : Nat) (cu : Array Value), i = .int .i64 j ∧ k = .int .i64 (K + kN (L.take j) : Nat) ∧ j ≤ L.length ∧ MkS B L K g j cu wr ∧ Below B w wr) (fun _ i _ => L.length - (intOf i).toNat)
  case atStart => exact ⟨0, cur, rfl, rfl, Nat.zero_le _, HM0.out, Below.refl _ _⟩
  case round =>
    obtain ⟨j, cu, rfl, rfl, hj, hm, hlo⟩ := hrel
    have HM := hid hm
    have HLO := hid hlo
    clear hm hlo HM0
    by_cases hlt : j < L.length
    · have HST := hid (fun W1 W2 W3 => HM.out.step (W1 := W1) (W2 := W2) (W3 := W3) hlt)
      have HRF := hid (HM.out.ref j hlt)
      have HOL := hid (HM.out.old j (Nat.le_refl _) hlt)
      have HBK := hid (HM.out.blk j hlt)
      have HXW := hid (HW.out _ (getD_memS hlt))
      have HKN := hid (kN_next hlt)
      have hMl := HKL.out j
      obtain ⟨x, hx⟩ : ∃ x, L.getD j she0 = x := ⟨_, rfl⟩
      rw [hx] at HST HRF HOL HBK HXW HKN
      clear hx
      obtain ⟨⟨st, sl, sk⟩, g1, g2⟩ := x
      dsimp only [wSh] at HST HRF HOL HBK HXW HKN
      obtain ⟨M, hM⟩ : ∃ M, K + kN (L.take j) = M := ⟨_, rfl⟩
      have HMM := hid hM
      have hM2 : M ≤ 60200000 := by omega
      rw [hM] at HST ⊢
      clear hM hMl
      have h600 := HXW.out.1
      have h601 := HXW.out.2
      have HSZ : Hid (j * 3 < cu.size) := hid (by have := HM.out.sz; omega)
      obtain ⟨v0, c0⟩ : ∃ v, wr.cell? ⟨g, j * 3, none⟩ = some v := ⟨_, (cell_of_row _ _ (j * 3) _ _ (0, 0) HM.out.e).trans (Array.getElem?_eq_getElem HSZ.out)⟩
      have f0 : wr.frozen? ⟨g, j * 3, none⟩ = false := by
        unfold World.frozen?
        rw [HM.out.e]
        simp
      have HE1 : Hid ((wr.setCell ⟨g, j * 3, none⟩ (.int .i64 M)).heap[g]? = some (.cells (cu.setIfInBounds (j * 3) (.int .i64 M)) 43 (0, 0))) := hid (by
        unfold World.setCell
        simp only [Array.getElem?_modify, HM.out.e]
        simp)
      have HR1 : Hid ((cu.setIfInBounds (j * 3) (.int .i64 M))[j * 3 + 1]? = some (.slice (some ⟨g1, 0, none⟩) sl.length sl.length) ∧ (cu.setIfInBounds (j * 3) (.int .i64 M))[j * 3 + 2]? = some (.slice (some ⟨g2, 0, none⟩) sk.length sk.length)) := hid (by
        rw [Array.getElem?_setIfInBounds_ne (by omega), Array.getElem?_setIfInBounds_ne (by omega)]
        exact HRF.out)
      have HBS : Hid (Below B wr (wr.setCell ⟨g, j * 3, none⟩ (.int .i64 M))) := hid (set_lo (Below.refl _ _) _ _ HM.out.bg _)
      obtain ⟨W1, hW1⟩ : ∃ W, wr.setCell ⟨g, j * 3, none⟩ (.int .i64 M) = W := ⟨_, rfl⟩
      have HB1 : Hid (IntB W1 g1 sl ∧ IntB W1 g2 sk) := hid ⟨HOL.out.1.keep (by rw [← hW1]; exact set_other _ _ _ _ _ (int_ne HM.out.e HOL.out.1)), HOL.out.2.keep (by rw [← hW1]; exact set_other _ _ _ _ _ (int_ne HM.out.e HOL.out.2))⟩
      rw [hW1] at HE1 HBS
      have HST2 := hid (HST.out W1)
      have HN1 : Hid (W1 = wr.setCell ⟨g, j * 3, none⟩ (.int .i64 M)) := hid hW1.symm
      have r1 : W1.cell? ⟨g, j * 3 + 1, none⟩ = some (.slice (some ⟨g1, 0, none⟩) sl.length sl.length) := (cell_of_row _ _ _ _ _ (0, 0) HE1.out).trans HR1.out.1
      have HM1 := hid (markI_int g1 sl.length sl.length (M + 1) W1 h600 (by omega) sl rfl HB1.out.1)
      have hw9 : (W1.heap.size = wr.heap.size) := by rw [← hW1]; simp [World.setCell]
      have HW9 := hid hw9
      clear hw9
      clear HST
      go_upto_region 7 with (go_at_call 30; refine (HM1.out _ (by omega)).mono ?_; rintro e w2 ⟨rfl, hg2, hm2⟩; have HG2 := hid hg2; have HQ2 := hid hm2; have HX2 := hid ((hg2.block g (lt_hp HE1.out) (fun e => int_ne HE1.out HB1.out.1 (by injection e with e; exact e.symm))).trans HE1.out); have r2 : w2.cell? ⟨g, j * 3 + 2, none⟩ = some (.slice (some ⟨g2, 0, none⟩) sk.length sk.length) := (cell_of_row _ _ _ _ _ (0, 0) HX2.out).trans HR1.out.2; have HM2 := hid (markI_int g2 sk.length sk.length (M + 1 + sl.length) w2 h601 (by omega) sk rfl (HB1.out.2.keep (hg2.block g2 HB1.out.2.lt (fun e => by injection e with e; have := HBK.out.2; omega)))); clear hg2 hm2)
      clear hW1 r1
      go_upto_region 3 with (go_at_call 30; refine (HM2.out _ (by omega)).mono ?_; rintro e w3 ⟨rfl, hg3, hm3⟩; have HG3 := hid hg3; have HQ3 := hid hm3; clear hg3 hm3)
      have HN := hid (HST2.out w2 w3 HN1.out HE1.out HG2.out HQ2.out HG3.out HQ3.out)
      have HL1 : Hid (Below B w W1) := hid (HLO.out.trans HBS.out)
      have HL2 : Hid (Below B w w2) := hid (HL1.out.grown HG2.out (Nat.le_trans hB HL1.out.size) (fun q e => by injection e with e; have := HBK.out.1; omega))
      have HL3 : Hid (Below B w w3) := hid (HL2.out.grown HG3.out (Nat.le_trans hB HL2.out.size) (fun q e => by injection e with e; have := HBK.out; omega))
      have HKE : Hid (K + kN (L.take (j + 1)) = M + 1 + sl.length + sk.length) := hid (by rw [HKN.out]; have := HMM.out; omega)
      clear HST2 r2
      go_wp2
      go_roundw
      case rel => exact ⟨j + 1, _, by go_num, (by rw [HKE.out]; go_num), by omega, HN.out, HL3.out⟩
      case measure => simp [intOf]; omega
    · obtain rfl : j = L.length := by omega
      rw [List.take_length]
      go_wp2
      go_ret
      exact ⟨rfl, HLO.out, .inr ⟨B, g, cap, cu, rfl, HM.out⟩⟩
end Go.Proofs.YtfedmbadhcdpdaaGreatDoor.C
/-! Marks of a row of shapes that are held. -/
namespace Go.Proofs.YtfedmbadhcdpdaaGreatDoor.C
open Go.RowKit
set_option maxRecDepth 20000
theorem heldI_int (g n c K : Nat) (w : World) (hn : n ≤ 600) (hK : K ≤ 900000000) (hm : MInt w g n K) (a : Int) (he : a = (K : Nat)) :
    Calls Tryz.prog 31 #[.slice (some ⟨g, 0, none⟩) n c, .int .i64 a] w fun e w' => e = .returned (.int .i64 (K + n : Nat)) ∧ w' = w := by
  subst he
  exact heldI_any g n c K w (by omega) (by omega) hm
set_option maxHeartbeats 4000000 in
theorem heldS_nil (K : Nat) (w : World) :
    Calls Tryz.prog 15 #[.slice none 0 0, .int .i64 K] w fun e w' => e = .returned (.int .i64 K) ∧ w' = w := by
  go_enter Tryz.func15, Tryz.ntmps15
  go_wp2
  go_loop [1, 5] (fun k i => k = .int .i64 K ∧ i = .int .i64 0) (fun _ _ => 0)
  case atStart => exact ⟨rfl, rfl⟩
  case round =>
    obtain ⟨rfl, rfl⟩ := hrel
    go_wp2
    go_ret
    exact ⟨rfl, rfl⟩
set_option maxHeartbeats 8000000 in
theorem heldS_row {B K g cap : Nat} {L : List ShE} {cur : Array Value} (w : World) (h : MkS B L K g L.length cur w) (hL : L.length ≤ 50000) (hK : K ≤ 1000) (hw : ∀ x ∈ L, x.s.sl.length ≤ 600 ∧ x.s.sk.length ≤ 600) :
    Calls Tryz.prog 15 #[.slice (some ⟨g, 0, none⟩) L.length cap, .int .i64 K] w fun e w' => e = .returned (.int .i64 (K + kN L : Nat)) ∧ w' = w := by
  have HM := hid h
  have HW := hid hw
  have HKL : Hid (∀ j, kN (L.take j) ≤ 60100000) := hid fun j => by
    have h1 := kN_le (L.take j) fun x hx => hw x (List.mem_of_mem_take hx)
    have h2 : (L.take j).length ≤ 50000 := by rw [List.length_take]; omega
    have := Nat.mul_le_mul_right 1201 h2
    omega
  clear h hw
  go_enter Tryz.func15, Tryz.ntmps15
  go_wp2
  go_loopw [1, 5] (fun k i wr => ∃ j : Nat, i = .int .i64 j ∧ k = .int .i64 (K + kN (L.take j) : Nat) ∧ j ≤ L.length ∧ wr = w) (fun _ i _ => L.length - (intOf i).toNat)
  case atStart => exact ⟨0, rfl, rfl, Nat.zero_le _, rfl⟩
  case round =>
    obtain ⟨j, rfl, rfl, hj, rfl⟩ := hrel
    by_cases hlt : j < L.length
    · have HRF := hid (HM.out.ref j hlt)
      have HNW := hid (HM.out.new j hlt)
      have HXW := hid (HW.out _ (getD_memS hlt))
      have HKN := hid (kN_next hlt)
      have hMl := HKL.out j
      obtain ⟨x, hx⟩ : ∃ x, L.getD j she0 = x := ⟨_, rfl⟩
      rw [hx] at HRF HNW HXW HKN
      clear hx
      obtain ⟨⟨st, sl, sk⟩, g1, g2⟩ := x
      dsimp only [wSh] at HRF HNW HXW HKN
      obtain ⟨M, hM⟩ : ∃ M, K + kN (L.take j) = M := ⟨_, rfl⟩
      have HMM := hid hM
      have hM2 : M ≤ 60200000 := by omega
      rw [hM] at HNW ⊢
      clear hM hMl
      have h600 := HXW.out.1
      have h601 := HXW.out.2
      have c0 : wr.cell? ⟨g, j * 3, none⟩ = some (.int .i64 (M : Nat)) := (cell_of_row _ _ _ _ _ (0, 0) HM.out.e).trans HNW.out.1
      have c1 : wr.cell? ⟨g, j * 3 + 1, none⟩ = some (.slice (some ⟨g1, 0, none⟩) sl.length sl.length) := (cell_of_row _ _ _ _ _ (0, 0) HM.out.e).trans HRF.out.1
      have c2 : wr.cell? ⟨g, j * 3 + 2, none⟩ = some (.slice (some ⟨g2, 0, none⟩) sk.length sk.length) := (cell_of_row _ _ _ _ _ (0, 0) HM.out.e).trans HRF.out.2
      have HH1 := hid (heldI_int g1 sl.length sl.length (M + 1) wr h600 (by omega) HNW.out.2.1)
      have HH2 := hid (heldI_int g2 sk.length sk.length (M + 1 + sl.length) wr h601 (by omega) HNW.out.2.2)
      have hne : ((M : Int) != (M : Int)) = false := by simp
      have hp1 : ¬ ((M : Int) + 1 + sl.length < 0) := by omega
      have hp2 : ¬ ((M : Int) + 1 + sl.length + sk.length < 0) := by omega
      have HKE : Hid (K + kN (L.take (j + 1)) = M + 1 + sl.length + sk.length) := hid (by rw [HKN.out]; have := HMM.out; omega)
      go_upto_region 8 with (go_at_call 31; refine (HH1.out _ (by omega)).mono ?_; rintro e w2 ⟨rfl, hw2⟩; have hw3 := hw2.symm; clear hw2; subst hw3)
      go_upto_region 11 with (go_at_call 31; refine (HH2.out _ (by omega)).mono ?_; rintro e w2 ⟨rfl, hw2⟩; have hw3 := hw2.symm; clear hw2; subst hw3)
      go_wp2
      go_roundw
      case rel => exact ⟨j + 1, by go_num, (by rw [HKE.out]; go_num), by omega, by trivial⟩
      case measure => simp [intOf]; omega
    · obtain rfl : j = L.length := by omega
      rw [List.take_length]
      go_wp2
      go_ret
      exact ⟨rfl, rfl⟩
theorem heldS_any {K : Nat} {L : List ShE} {v : Value} (w : World) (h : MarkedS K w v L) (hL : L.length ≤ 50000) (hK : K ≤ 1000) (hw : ∀ x ∈ L, x.s.sl.length ≤ 600 ∧ x.s.sk.length ≤ 600) :
    Calls Tryz.prog 15 #[v, .int .i64 K] w fun e w' => e = .returned (.int .i64 (K + kN L : Nat)) ∧ w' = w := by
  rcases h with ⟨rfl, rfl⟩ | ⟨B, g, cap, cur, rfl, h⟩
  · exact heldS_nil K w
  · exact heldS_row w h hL hK hw
theorem markS_any {B K : Nat} {L : List ShE} {v : Value} (w : World) (h : NRow B w v L) (hB : B ≤ w.heap.size) (hL : L.length ≤ 50000) (hK : K ≤ 1000) (hw : ∀ x ∈ L, x.s.sl.length ≤ 600 ∧ x.s.sk.length ≤ 600) :
    Calls Tryz.prog 14 #[v, .int .i64 K] w fun e w' => e = .returned (.int .i64 (K + kN L : Nat)) ∧ Below B w w' ∧ MarkedS K w' v L := by
  rcases MkS.start (K := K) h with ⟨rfl, rfl⟩ | ⟨g, cap, cur, rfl, hm⟩
  · refine (markS_nil K w).mono ?_
    rintro e w' ⟨rfl, rfl⟩
    exact ⟨rfl, Below.refl _ _, .inl ⟨rfl, rfl⟩⟩
  · exact markS_row w hm hB hL hK hw
end Go.Proofs.YtfedmbadhcdpdaaGreatDoor.C
