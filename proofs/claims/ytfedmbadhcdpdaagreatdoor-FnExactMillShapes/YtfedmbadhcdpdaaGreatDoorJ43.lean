import Derived.Test.YtfedmbadhcdpdaaGreatDoorJ42
import Derived.Test.YtfedmbadhcdpdaaGreatDoorJ15
/-! Rows of shapes that can be read, and that are the same. -/
namespace Go.Proofs.YtfedmbadhcdpdaaGreatDoor.C
open Go.RowKit
set_option maxRecDepth 20000
/-- Shapes that can be read. -/
def RdS (W : World) (v : Value) (l : List Sh) : Prop := ∃ (ad : Option Addr) (c : Nat), v = .slice ad l.length c ∧ (l = [] ∨ ∃ g, ad = some ⟨g, 0, none⟩ ∧ g < W.heap.size ∧ ∀ i, i < l.length → ∃ a b, W.cell? ⟨g, i * 3, none⟩ = some (.int .i64 ((l.getD i bot).st : Nat)) ∧ W.cell? ⟨g, i * 3 + 1, none⟩ = some a ∧ W.cell? ⟨g, i * 3 + 2, none⟩ = some b ∧ IntRow W a (l.getD i bot).sl ∧ IntRow W b (l.getD i bot).sk)
theorem RdS.next {W V : World} {v : Value} {l : List Sh} (h : RdS W v l) (hb : Below W.heap.size W V) : RdS V v l := by
  obtain ⟨ad, c, e, h1⟩ := h
  refine ⟨ad, c, e, ?_⟩
  rcases h1 with h1 | ⟨g, e1, e2, e3⟩
  · exact .inl h1
  · refine .inr ⟨g, e1, Nat.lt_of_lt_of_le e2 hb.size, fun i hi => ?_⟩
    obtain ⟨a, b, c0, c1, c2, r1, r2⟩ := e3 i hi
    exact ⟨a, b, (hb.cell (p := ⟨g, _, none⟩) e2).trans c0, (hb.cell (p := ⟨g, _, none⟩) e2).trans c1, (hb.cell (p := ⟨g, _, none⟩) e2).trans c2, r1.next hb, r2.next hb⟩
theorem RdS.sl {W : World} {v : Value} {l : List Sh} (h : RdS W v l) : ∃ ad c, v = .slice ad l.length c := by
  obtain ⟨ad, c, e, _⟩ := h
  exact ⟨ad, c, e⟩
theorem RdS.at {W : World} {ad : Option Addr} {n c : Nat} {l : List Sh} (h : RdS W (.slice ad n c) l) {i : Nat} (hi : i < l.length) : ∃ g, ad = some ⟨g, 0, none⟩ ∧ g < W.heap.size ∧ ∃ a b, W.cell? ⟨g, i * 3, none⟩ = some (.int .i64 ((l.getD i bot).st : Nat)) ∧ W.cell? ⟨g, i * 3 + 1, none⟩ = some a ∧ W.cell? ⟨g, i * 3 + 2, none⟩ = some b ∧ IntRow W a (l.getD i bot).sl ∧ IntRow W b (l.getD i bot).sk := by
  obtain ⟨ad', c', e, h1⟩ := h
  injection e with ea _ _
  rcases h1 with h1 | ⟨g, e1, e2, e3⟩
  · rw [h1] at hi; exact absurd hi (Nat.not_lt_zero _)
  · exact ⟨g, ea.trans e1, e2, e3 i hi⟩
theorem intRow_B {W : World} {g : Nat} {l : List Int} (h : IntB W g l) (hl : l.length ≤ 1048576) : IntRow W (.slice (some ⟨g, 0, none⟩) l.length l.length) l := by
  obtain ⟨cur, e, _, h3⟩ := h
  exact ⟨_, _, rfl, Nat.le_refl _, by unfold maxLen; omega, .inr ⟨g, cur, rfl, e, h3⟩⟩
theorem RdS.own {B : Nat} {W : World} {v : Value} {L : List ShE} (h : NRow B W v L) (hw : ∀ x ∈ L, x.s.sl.length ≤ 600 ∧ x.s.sk.length ≤ 600) : RdS W v (L.map ShE.s) := by
  obtain ⟨_, ⟨rfl, hn⟩ | ⟨g, cap, cur, rfl, hB, hc, hnc, hm, hz, ht⟩⟩ := h.own
  · have : L = [] := List.eq_nil_of_length_eq_zero hn
    subst this
    exact ⟨none, 0, rfl, .inl rfl⟩
  · refine ⟨_, cap, by rw [List.length_map], .inr ⟨g, rfl, lt_hp hc, fun i hi => ?_⟩⟩
    rw [List.length_map] at hi
    obtain ⟨h0, h1, h2⟩ := cellsS_get L i hi
    have e1 : ∀ j, j < L.length * 3 → cur[j]? = (cellsS L)[j]? := fun j hj => by
      have : (cur.toList.take (L.length * 3))[j]? = (cellsS L)[j]? := by rw [ht]
      rw [List.getElem?_take_of_lt hj, Array.getElem?_toList] at this
      exact this
    have eg : (L.map ShE.s).getD i bot = (L.getD i she0).s := by
      simp [List.getD_eq_getElem?_getD, hi]
    have hx := hw _ (getD_memS hi)
    have hin := h.ins _ (getD_memS hi)
    rw [eg]
    exact ⟨_, _, (cell_hp hc _).trans ((e1 _ (by omega)).trans h0), (cell_hp hc _).trans ((e1 _ (by omega)).trans h1), (cell_hp hc _).trans ((e1 _ (by omega)).trans h2), intRow_B hin.2.2.1 (by omega), intRow_B hin.2.2.2 (by omega)⟩
set_option maxHeartbeats 4000000 in
theorem eqI_any (l : List Int) {u v : Value} (w : World) (hN : l.length ≤ 1048576) (k0 : IntRow w u l) (l0 : IntRow w v l) :
    Calls Tryz.prog 56 #[u, v] w fun e w' => e = .returned (.bool true) ∧ Below w.heap.size w w' := by
  have H1 := hid k0
  have H2 := hid l0
  obtain ⟨au, cu, rfl⟩ := k0.sl
  obtain ⟨av, cv, rfl⟩ := l0.sl
  clear k0 l0
  have hne : ((l.length : Int) != (l.length : Int)) = false := by simp
  go_enter Tryz.func56, Tryz.ntmps56
  go_wp2
  go_loopw [5] (fun i wr => ∃ j : Nat, j ≤ l.length ∧ i = .int .i64 j ∧ Below w.heap.size w wr) (fun i _ => l.length - (intOf i).toNat)
  case atStart => exact ⟨0, Nat.zero_le _, rfl, Below.refl _ _⟩
  case round =>
    obtain ⟨j, hj, rfl, hbw⟩ := hrel
    have HBW := hid hbw
    clear hbw
    by_cases hlt : j < l.length
    · obtain ⟨g, c1, e9, _, _, _, a0⟩ := (H1.out.next HBW.out).at hlt
      injection e9 with ea en ec
      subst ea ec
      clear en
      obtain ⟨g2, c2, e8, _, _, _, b0⟩ := (H2.out.next HBW.out).at hlt
      injection e8 with eb en ec
      subst eb ec
      clear en
      have a1 := a0 j hlt
      have b1 := b0 j hlt
      obtain ⟨x, hx⟩ : ∃ x, l.getD j 0 = x := ⟨_, rfl⟩
      rw [hx] at a1 b1
      clear hx a0 b0
      have h5 : (x != x) = false := by simp
      go_wp2_with fail
      go_quiet (fail)
      go_wp2
      go_roundw
      case rel => exact ⟨j + 1, by omega, by go_num, R.below_drewN HBW.out nq⟩
      case measure => simp [intOf]; omega
    · obtain rfl : j = l.length := by omega
      go_wp2
      go_ret
      exact ⟨rfl, HBW.out⟩
set_option maxHeartbeats 4000000 in
theorem eqSh_any (s : Sh) {u0 v0 u1 v1 : Value} (w : World) (h1 : s.sl.length ≤ 600) (h2 : s.sk.length ≤ 600) (k0 : IntRow w u0 s.sl) (l0 : IntRow w v0 s.sl) (k1 : IntRow w u1 s.sk) (l1 : IntRow w v1 s.sk) :
    Calls Tryz.prog 28 #[.agg #[.int .i64 (s.st : Nat), u0, u1], .agg #[.int .i64 (s.st : Nat), v0, v1]] w fun e w' => e = .returned (.bool true) ∧ Below w.heap.size w w' := by
  have i0 : (((s.st : Nat) : Int) != ((s.st : Nat) : Int)) = false := by simp
  have K0 := hid (And.intro k0 l0)
  obtain ⟨gu0, cu0, rfl⟩ := k0.sl
  obtain ⟨gv0, cv0, rfl⟩ := l0.sl
  have K1 := hid (And.intro k1 l1)
  obtain ⟨gu1, cu1, rfl⟩ := k1.sl
  obtain ⟨gv1, cv1, rfl⟩ := l1.sl
  clear k0 l0 k1 l1
  obtain ⟨st, sl, sk⟩ := s
  dsimp only at i0 K0 K1 h1 h2
  have HB0 := hid (R.B2.start w (.cells #[.int .i64 (st : Nat), .slice gu0 sl.length cu0, .slice gu1 sk.length cu1] 43) (.cells #[.int .i64 (st : Nat), .slice gv0 sl.length cv0, .slice gv1 sk.length cv1] 43))
  go_enter Tryz.func28, Tryz.ntmps28
  go_wp2_with fail
  refine (eqI_any sl _ (by omega) (K0.out.1.next HB0.out.lo) (K0.out.2.next HB0.out.lo)).mono ?_
  rintro e w1 ⟨rfl, hb0⟩
  have HB1 := hid (HB0.out.next hb0)
  clear hb0
  have p1 : w1.cell? ⟨w.heap.size, 2, none⟩ = some (.slice gu1 sk.length cu1) := R.row_cell HB1.out.e 2
  have q1 : w1.cell? ⟨w.heap.size + 1, 2, none⟩ = some (.slice gv1 sk.length cv1) := R.row_cell HB1.out.f 2
  go_wp2_with fail
  refine (eqI_any sk _ (by omega) (K1.out.1.next HB1.out.lo) (K1.out.2.next HB1.out.lo)).mono ?_
  rintro e w2 ⟨rfl, hb1⟩
  have HB2 := hid (HB1.out.next hb1)
  clear hb1
  go_wp2
  go_ret
  exact ⟨rfl, HB2.out.lo⟩
set_option maxHeartbeats 4000000 in
theorem eqS_any (l : List Sh) {u v : Value} (w : World) (hN : l.length ≤ 100000) (hw : ∀ x ∈ l, x.sl.length ≤ 600 ∧ x.sk.length ≤ 600) (k0 : RdS w u l) (l0 : RdS w v l) :
    Calls Tryz.prog 12 #[u, v] w fun e w' => e = .returned (.bool true) ∧ Below w.heap.size w w' := by
  have H1 := hid k0
  have H2 := hid l0
  have HW := hid hw
  obtain ⟨au, cu, rfl⟩ := k0.sl
  obtain ⟨av, cv, rfl⟩ := l0.sl
  clear k0 l0 hw
  have hne : ((l.length : Int) != (l.length : Int)) = false := by simp
  go_enter Tryz.func12, Tryz.ntmps12
  go_wp2
  go_loopw [5] (fun i wr => ∃ j : Nat, j ≤ l.length ∧ i = .int .i64 j ∧ Below w.heap.size w wr) (fun i _ => l.length - (intOf i).toNat)
  case atStart => exact ⟨0, Nat.zero_le _, rfl, Below.refl _ _⟩
  case round =>
    obtain ⟨j, hj, rfl, hbw⟩ := hrel
    have HBW := hid hbw
    clear hbw
    by_cases hlt : j < l.length
    · obtain ⟨gu, hgu, hlu, u0, u1, a0, a1, a2, r0, r1⟩ := (H1.out.next HBW.out).at hlt
      obtain ⟨gv, hgv, hlv, v0, v1, b0, b1, b2, q0, q1⟩ := (H2.out.next HBW.out).at hlt
      subst hgu hgv
      have HXW : Hid ((l.getD j bot).sl.length ≤ 600 ∧ (l.getD j bot).sk.length ≤ 600) := hid (HW.out _ (by rw [List.getD_eq_getElem?_getD, List.getElem?_eq_getElem hlt]; exact List.getElem_mem hlt))
      obtain ⟨s, hs⟩ : ∃ s, l.getD j bot = s := ⟨_, rfl⟩
      rw [hs] at a0 b0 r0 r1 q0 q1 HXW
      clear hs
      have HT := hid (And.intro (And.intro r0 q0) (And.intro r1 q1))
      obtain ⟨x1, y1, rfl⟩ := r0.sl
      obtain ⟨x2, y2, rfl⟩ := r1.sl
      obtain ⟨x3, y3, rfl⟩ := q0.sl
      obtain ⟨x4, y4, rfl⟩ := q1.sl
      clear r0 r1 q0 q1
      have A0 := fun p : R.Gr wr => (p.h.cell (p := ⟨_, _, none⟩) hlu).trans a0
      have C0 := fun p : R.Gr wr => (p.h.cell (p := ⟨_, _, none⟩) hlv).trans b0
      have A1 := fun p : R.Gr wr => (p.h.cell (p := ⟨_, _, none⟩) hlu).trans a1
      have C1 := fun p : R.Gr wr => (p.h.cell (p := ⟨_, _, none⟩) hlv).trans b1
      have A2 := fun p : R.Gr wr => (p.h.cell (p := ⟨_, _, none⟩) hlu).trans a2
      have C2 := fun p : R.Gr wr => (p.h.cell (p := ⟨_, _, none⟩) hlv).trans b2
      clear a0 b0 a1 b1 a2 b2
      go_wp2_with fail
      have hne2 : Nonempty (R.Gr wr) := ⟨⟨wr, Below.refl _ _⟩⟩
      refine R.wp_region_gr (by kernel_rfl) (by kernel_rfl) ?_
      repeat (go_big_quiet_step (first | (go_at_call 28; refine R.Calls.gr_of (v := .bool true) fun hpw => ?_; exact eqSh_any s _ HXW.out.1 HXW.out.2 (HT.out.1.1.next hpw) (HT.out.1.2.next hpw) (HT.out.2.1.next hpw) (HT.out.2.2.next hpw))))
      refine wpQuiet_nil ?_
      intro _ hw'
      obtain ⟨pw, rfl⟩ := hw'
      have HB4 := hid (HBW.out.trans (pw.h.mono HBW.out.size))
      clear A0 C0 A1 C1 A2 C2
      go_wp2
      go_roundw
      case rel => exact ⟨j + 1, by omega, by go_num, HB4.out⟩
      case measure => simp [intOf]; omega
    · obtain rfl : j = l.length := by omega
      go_wp2
      go_ret
      exact ⟨rfl, HBW.out⟩
end Go.Proofs.YtfedmbadhcdpdaaGreatDoor.C
