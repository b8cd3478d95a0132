import Derived.Test.YtpcfhbbialgcfaaHnMark
/-! Worlds that are marked, marks that are held, worlds that are the same. -/
namespace Go.Proofs.Ytpcfhbbialgcfaa.P
open Go.RowKit
open Go.Proofs.Ytpcfhbbialgcfaa.R (hid Fl fl0 lt_hp hp_next B1 B2 row_cell row_room set_at set_other)
set_option maxRecDepth 20000
set_option maxHeartbeats 4000000 in
theorem eqW_any (Z : List Fl) (ns : List ByteArray) {a b c d : Value} (w : World) (hZ : Z.length ≤ 1048576) (hn : ns.length ≤ 1048576) (k0 : G.RdF w a Z) (k1 : RdN w b ns) (l0 : G.RdF w c Z) (l1 : RdN w d ns) :
    Calls Try.prog 8 #[.agg #[a, b], .agg #[c, d]] w fun e w' => e = .returned (.bool true) ∧ Below w.heap.size w w' := by
  have HB0 := hid (B2.start w (.cells #[a, b] 29) (.cells #[c, d] 29))
  have K0 := hid (And.intro (k0.next HB0.out.lo) (l0.next HB0.out.lo))
  have K1 := hid (And.intro (k1.next HB0.out.lo) (l1.next HB0.out.lo))
  obtain ⟨a0, a1, rfl⟩ := k0.sl
  obtain ⟨b0, b1, rfl⟩ := k1.sl
  obtain ⟨c0, c1, rfl⟩ := l0.sl
  obtain ⟨d0, d1, rfl⟩ := l1.sl
  clear k0 k1 l0 l1
  go_enter Try.func8, Try.ntmps8
  go_upto_region 1 with fail
  obtain ⟨W0, hW0⟩ : ∃ W, (w.alloc (.cells #[.slice a0 Z.length a1, .slice b0 ns.length b1] 29)).alloc (.cells #[.slice c0 Z.length c1, .slice d0 ns.length d1] 29) = W := ⟨_, rfl⟩
  rw [hW0] at HB0 K0 K1 ⊢
  clear hW0
  have p0 : W0.cell? ⟨w.heap.size, 0, none⟩ = some (.slice a0 Z.length a1) := row_cell HB0.out.e 0
  have q0 : W0.cell? ⟨w.heap.size + 1, 0, none⟩ = some (.slice c0 Z.length c1) := row_cell HB0.out.f 0
  go_wp2_with fail
  refine (G.eqF_any Z _ hZ K0.out.1 K0.out.2).mono ?_
  rintro e w1 ⟨rfl, hb1⟩
  have HB1 := hid (HB0.out.next hb1)
  have K2 := hid (And.intro (K1.out.1.next hb1) (K1.out.2.next hb1))
  clear hb1 p0 q0
  have p1 : w1.cell? ⟨w.heap.size, 1, none⟩ = some (.slice b0 ns.length b1) := row_cell HB1.out.e 1
  have q1 : w1.cell? ⟨w.heap.size + 1, 1, none⟩ = some (.slice d0 ns.length d1) := row_cell HB1.out.f 1
  go_wp2_with fail
  refine (eqN_any ns _ hn K2.out.1 K2.out.2).mono ?_
  rintro e w2 ⟨rfl, hb2⟩
  have HB3 := hid (HB1.out.next hb2)
  clear hb2
  go_wp2
  go_ret
  exact ⟨rfl, HB3.out.lo⟩
/-- What is neither a package's row nor a row of names stays. -/
def Rest (W V : World) : Prop := ∀ (i : Nat) (o : Obj), W.heap[i]? = some o → (∀ cs, ¬ o = .cells cs 55 (0, 0)) → (∀ cs, ¬ o = .cells cs 9 (0, 0)) → V.heap[i]? = some o
structure MarkedW (W : World) (a b : Value) (m n : Nat) : Prop where
  f : G.MarkedV 1 W a m
  n_ : MarkedN (1 + 2 * m) W b n
theorem MarkedW.next {W V : World} {a b : Value} {m n : Nat} (h : MarkedW W a b m n) (hb : Below W.heap.size W V) : MarkedW V a b m n := ⟨h.f.next hb, h.n_.next hb⟩
theorem markedV_grown {K m : Nat} {W V : World} {a : Value} (h : G.MarkedV K W a m) {B t k n : Nat} {v : Value} {xs : List Value} (ho : W.ownsRow B t k v n xs) (hg : W.grownBy V v.ownBlock) (ht : t ≠ 55) : G.MarkedV K V a m := by
  rcases h with h | ⟨g, cap, cur, e, hc, hm⟩
  · exact .inl h
  · exact .inr ⟨g, cap, cur, e, grown_ty ho hg hc (fun cs e2 => by injection e2 with _ e2; exact ht e2.symm), hm⟩
set_option maxHeartbeats 4000000 in
theorem markW_own {B : Nat} {w : World} {a b : Value} {Z : List Fl} {ns : List ByteArray} (hB : B ≤ w.heap.size) (h0 : G.OwnF B w a Z) (h1 : OwnN B w b ns) (hZ : Z.length ≤ 100000) (hn : ns.length ≤ 100000) :
    Calls Try.prog 11 #[.agg #[a, b], .int .i64 1] w fun e w' => e = .returned (.int .i64 (1 + 2 * Z.length + ns.length : Nat)) ∧ MarkedW w' a b Z.length ns.length ∧ Below B w w' ∧ Rest w w' := by
  have HB0 := hid (B1.start w (.cells #[a, b] 29))
  have HF := hid (own_next h0 HB0.out.lo)
  have HN := hid (own_next h1 HB0.out.lo)
  obtain ⟨a0, a1, rfl⟩ := own_formK h0
  obtain ⟨b0, b1, rfl⟩ := own_formK h1
  clear h0 h1
  go_enter Try.func11, Try.ntmps11
  go_upto_region 1 with fail
  obtain ⟨W0, hW0⟩ : ∃ W, w.alloc (.cells #[.slice a0 Z.length a1, .slice b0 ns.length b1] 29) = W := ⟨_, rfl⟩
  rw [hW0] at HB0 HF HN ⊢
  clear hW0
  have p0 : W0.cell? ⟨w.heap.size, 0, none⟩ = some (.slice a0 Z.length a1) := row_cell HB0.out.e 0
  have HM1 := hid (G.markF_own (K := 1) HF.out (by omega) (by omega) (by omega))
  obtain ⟨K1, hK1⟩ : ∃ K, 1 + 2 * Z.length = K := ⟨_, rfl⟩
  have HKE := hid hK1
  have hKa : 0 < K1 := by omega
  have hKb : K1 ≤ 3000000 := by omega
  rw [hK1] at HM1
  clear hK1
  have HBW : Hid (B ≤ W0.heap.size) := hid (Nat.le_trans hB HB0.out.lo.size)
  go_wp2_with fail
  refine HM1.out.mono ?_
  rintro e w1 ⟨rfl, hg1, hm1⟩
  have HMF := hid hm1
  have HL1 : Hid (Below B w w1) := hid (grown_loK (HB0.out.lo.mono hB) HF.out HBW.out hg1)
  have HE1 : Hid (w1.heap[w.heap.size]? = some (.cells #[.slice a0 Z.length a1, .slice b0 ns.length b1] 29)) := hid (grown_ty HF.out hg1 HB0.out.e (fun cs e => by injection e with _ e; cases e))
  have HN1 := hid (own_grownK HN.out HF.out hg1 (by decide))
  have HR1 : Hid (Rest w w1) := hid fun i o hi h2 _ => grown_ty HF.out hg1 (hp_next hi HB0.out.lo) h2
  have HZ1 : Hid (B ≤ w1.heap.size) := hid (Nat.le_trans HBW.out hg1.size)
  clear hg1 hm1 p0 HM1
  have p1 : w1.cell? ⟨w.heap.size, 1, none⟩ = some (.slice b0 ns.length b1) := row_cell HE1.out 1
  have HM2 := hid (markN_own (K := K1) HN1.out (by omega) hKa (by omega))
  go_wp2_with fail
  refine HM2.out.mono ?_
  rintro e w2 ⟨rfl, hg2, hm2⟩
  have HE : Hid (MarkedW w2 (.slice a0 Z.length a1) (.slice b0 ns.length b1) Z.length ns.length ∧ Below B w w2 ∧ Rest w w2) := hid ⟨⟨markedV_grown HMF.out HN1.out hg2 (by decide), by rw [HKE.out]; exact hm2⟩, grown_loK HL1.out HN1.out HZ1.out hg2, fun i o hi h2 h3 => grown_ty HN1.out hg2 (HR1.out i o hi h2 h3) h3⟩
  clear hg2 hm2 p1 HM2
  go_wp2
  go_ret
  exact ⟨ret_int (by have := HKE.out; omega), HE.out.1, HE.out.2.1, HE.out.2.2⟩
set_option maxHeartbeats 4000000 in
theorem heldW_any {w : World} {a b : Value} {m n : Nat} (h : MarkedW w a b m n) (hm : m ≤ 100000) (hn : n ≤ 100000) :
    Calls Try.prog 12 #[.agg #[a, b], .int .i64 1] w fun e w' => e = .returned (.int .i64 (1 + 2 * m + n : Nat)) ∧ Below w.heap.size w w' := by
  have HB0 := hid (B1.start w (.cells #[a, b] 29))
  have HF := hid (h.next HB0.out.lo)
  have ha : ∃ x y, a = .slice x m y := h.f.sl
  have hb : ∃ x y, b = .slice x n y := by
    rcases h.n_ with ⟨rfl, rfl⟩ | ⟨g, cap, cur, e, _⟩
    · exact ⟨_, _, rfl⟩
    · exact ⟨_, _, e⟩
  obtain ⟨a0, a1, rfl⟩ := ha
  obtain ⟨b0, b1, rfl⟩ := hb
  clear h
  go_enter Try.func12, Try.ntmps12
  go_upto_region 1 with fail
  obtain ⟨W0, hW0⟩ : ∃ W, w.alloc (.cells #[.slice a0 m a1, .slice b0 n b1] 29) = W := ⟨_, rfl⟩
  rw [hW0] at HB0 HF ⊢
  clear hW0
  have p0 : W0.cell? ⟨w.heap.size, 0, none⟩ = some (.slice a0 m a1) := row_cell HB0.out.e 0
  have HM1 := hid (G.heldF_own (K := 1) HF.out.f (by omega) (by omega) (by omega))
  have HNN := hid HF.out.n_
  obtain ⟨K1, hK1⟩ : ∃ K, 1 + 2 * m = K := ⟨_, rfl⟩
  have HKE := hid hK1
  have hKa : 0 < K1 := by omega
  have hKb : K1 ≤ 3000000 := by omega
  rw [hK1] at HM1 HNN
  clear hK1
  have hKn : ¬ (K1 : Int) < 0 := by omega
  have hKn2 : ¬ ((K1 + n : Nat) : Int) < 0 := by omega
  go_wp2_with fail
  refine HM1.out.mono ?_
  rintro e w1 ⟨rfl, hb1⟩
  have HB1 := hid (HB0.out.next hb1)
  have HN1 := hid (HNN.out.next hb1)
  clear hb1 p0 HM1
  have p1 : w1.cell? ⟨w.heap.size, 1, none⟩ = some (.slice b0 n b1) := row_cell HB1.out.e 1
  have HM2 := hid (heldN_own (K := K1) HN1.out (by omega) hKa (by omega))
  go_wp2_with fail
  refine HM2.out.mono ?_
  rintro e w2 ⟨rfl, hb2⟩
  have HB3 := hid (HB1.out.next hb2)
  clear hb2 p1 HM2
  go_wp2
  go_ret
  exact ⟨ret_int (by have := HKE.out; omega), HB3.out.lo⟩
end Go.Proofs.Ytpcfhbbialgcfaa.P
