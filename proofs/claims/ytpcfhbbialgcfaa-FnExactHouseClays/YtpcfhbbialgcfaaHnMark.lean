import Derived.Test.YtpcfhbbialgcfaaHcImp
import Derived.Test.YtpcfhbbialgcfaaHgMark
import Derived.Test.YtpcfhbbialgcfaaHgEq
/-! Names that are marked, marks that are held, names that are the same; worlds likewise. -/
namespace Go.Proofs.Ytpcfhbbialgcfaa.P
open Go.RowKit
open Go.Proofs.Ytpcfhbbialgcfaa.R (hid Fl fl0 lt_hp hp_next B1 B2 row_cell row_room set_at set_other Gr wp_region_gr Calls.gr_of below_drewN)
set_option maxRecDepth 20000
def MarkN (K n : Nat) (cur : Array Value) : Prop := ∀ i, i < n → cur[i]? = some (.string (mtxt (K + i)))
set_option maxHeartbeats 4000000 in
theorem markN_any (g n cap K : Nat) (w : World) (hn : n ≤ 1048576) (hK : 0 < K) (hK2 : K ≤ 5000000) (cur : Array Value) (hg : w.heap[g]? = some (.cells cur 9 (0, 0))) (hsz : n ≤ cur.size) :
    Calls Try.prog 28 #[.slice (some ⟨g, 0, none⟩) n cap, .int .i64 K] w fun e w' => e = .returned (.int .i64 (K + n : Nat)) ∧ w.grownBy w' (some g) ∧ ∃ cur', w'.heap[g]? = some (.cells cur' 9 (0, 0)) ∧ MarkN K n cur' := by
  have HG0 := hid hg
  clear hg
  go_enter Try.func28, Try.ntmps28
  go_wp2
  go_loopw [1, 5] (fun k i wr => ∃ (j : Nat) (cu : Array Value), i = .int .i64 j ∧ k = .int .i64 (K + j : Nat) ∧ j ≤ n ∧ w.grownBy wr (some g) ∧ wr.heap[g]? = some (.cells cu 9 (0, 0)) ∧ cu.size = cur.size ∧ MarkN K j cu) (fun _ i _ => n - (intOf i).toNat)
  case atStart => exact ⟨0, cur, rfl, rfl, Nat.zero_le _, ⟨rfl, rfl, rfl, Nat.le_refl _, fun _ _ _ => rfl⟩, HG0.out, rfl, fun i h => absurd h (Nat.not_lt_zero _)⟩
  case round =>
    obtain ⟨j, cu, rfl, rfl, hj, hgw, hh, hcs, hall⟩ := hrel
    have HG := hid hgw
    have HH := hid hh
    have HALL := hid hall
    have HCS := hid hcs
    clear hgw hall hcs hh
    by_cases hlt : j < n
    · have hsz2 : Hid (j < cu.size) := hid (by rw [HCS.out]; omega)
      go_wp2_with (go_at_call 43; refine (markText_int _ (K + j) _ (by omega) (by omega) (by omega)).mono ?_; rintro e w1 ⟨rfl, hb1⟩; have HB1 := hid hb1; have HW1 := hid (hp_next HH.out hb1); have f1 := frozen_hp HW1.out j; obtain ⟨v1, x1⟩ := has_cell (i := j) HW1.out hsz2.out; clear hb1)
      have HF := hid (set_at (i := j) (.string (mtxt (K + j))) HW1.out)
      have HGR := hid (grown_setM (grown_next HG.out HB1.out) j (.string (mtxt (K + j))))
      go_roundw
      case rel =>
        refine ⟨j + 1, _, by go_num, by go_num, by omega, HGR.out, HF.out, by rw [Array.size_setIfInBounds]; exact HCS.out, fun i hi => ?_⟩
        by_cases e : i = j
        · subst e
          rw [Array.getElem?_setIfInBounds_self_of_lt hsz2.out]
        · rw [Array.getElem?_setIfInBounds_ne (fun h => e h.symm)]
          exact HALL.out i (by omega)
      case measure => simp [intOf]; omega
    · obtain rfl : j = n := by omega
      go_wp2
      go_ret
      exact ⟨rfl, HG.out, cu, HH.out, HALL.out⟩
set_option maxHeartbeats 4000000 in
theorem markN_nil (K : Nat) (w : World) :
    Calls Try.prog 28 #[.slice none 0 0, .int .i64 K] w fun e w' => e = .returned (.int .i64 K) ∧ w' = w := by
  go_enter Try.func28, Try.ntmps28
  go_wp2
  go_loop [1, 5] (fun k i => k = .int .i64 K ∧ i = .int .i64 0) (fun _ _ => 0)
  case atStart => exact ⟨rfl, rfl⟩
  case round =>
    obtain ⟨rfl, rfl⟩ := hrel
    go_wp2
    go_ret
    exact ⟨rfl, rfl⟩
set_option maxHeartbeats 4000000 in
theorem heldN_nil (K : Nat) (w : World) :
    Calls Try.prog 30 #[.slice none 0 0, .int .i64 K] w fun e w' => e = .returned (.int .i64 K) ∧ w' = w := by
  go_enter Try.func30, Try.ntmps30
  go_wp2
  go_loop [1, 5] (fun k i => k = .int .i64 K ∧ i = .int .i64 0) (fun _ _ => 0)
  case atStart => exact ⟨rfl, rfl⟩
  case round =>
    obtain ⟨rfl, rfl⟩ := hrel
    go_wp2
    go_ret
    exact ⟨rfl, rfl⟩
set_option maxHeartbeats 8000000 in
theorem heldN_any (g n cap K : Nat) (w : World) (hn : n ≤ 1048576) (hK : 0 < K) (hK2 : K ≤ 5000000) (cur : Array Value) (hg : w.heap[g]? = some (.cells cur 9 (0, 0))) (hm : MarkN K n cur) :
    Calls Try.prog 30 #[.slice (some ⟨g, 0, none⟩) n cap, .int .i64 K] w fun e w' => e = .returned (.int .i64 (K + n : Nat)) ∧ Below w.heap.size w w' := by
  have HG0 := hid hg
  have HM := hid hm
  clear hg hm
  go_enter Try.func30, Try.ntmps30
  go_wp2
  go_loopw [1, 5] (fun k i wr => ∃ j : Nat, i = .int .i64 j ∧ k = .int .i64 (K + j : Nat) ∧ j ≤ n ∧ Below w.heap.size w wr) (fun _ i _ => n - (intOf i).toNat)
  case atStart => exact ⟨0, rfl, rfl, Nat.zero_le _, Below.refl _ _⟩
  case round =>
    obtain ⟨j, rfl, rfl, hj, hb⟩ := hrel
    have HB := hid hb
    clear hb
    by_cases hlt : j < n
    · have HC : Hid (∀ V, Below w.heap.size w V → V.cell? ⟨g, j, none⟩ = some (.string (mtxt (K + j)))) := hid fun V hV => (row_cell (hp_next HG0.out hV) _).trans (HM.out j hlt)
      have HT1 : Hid (∀ V, Calls Try.prog 43 #[.int .i64 (K + j : Nat)] V fun e w' => e = .returned (.string (mtxt (K + j))) ∧ Below V.heap.size V w') := hid fun V => markText_any _ V (by omega) (by omega)
      obtain ⟨t1, ht1⟩ : ∃ t, mtxt (K + j) = t := ⟨_, rfl⟩
      rw [ht1] at HC HT1
      clear ht1
      have e1 : (t1.toList != t1.toList) = false := by simp
      have A0 := fun p : R.Gr wr => (HC.out _ (HB.out.trans (p.h.mono HB.out.size)))
      go_wp2_with fail
      have hne2 : Nonempty (R.Gr wr) := ⟨⟨wr, Below.refl _ _⟩⟩
      refine R.wp_region_gr (by kernel_rfl) (by kernel_rfl) ?_
      repeat (go_big_quiet_step (first | (go_at_call 43; refine R.Calls.gr_of (v := .string t1) fun hpw => ?_; exact HT1.out _)))
      refine wpQuiet_nil ?_
      intro _ hw'
      obtain ⟨pw, rfl⟩ := hw'
      have HB4 := hid (HB.out.trans (pw.h.mono HB.out.size))
      clear A0 hne2
      go_wp2
      go_roundw
      case rel => exact ⟨j + 1, by go_num, by go_num, by omega, HB4.out⟩
      case measure => simp [intOf]; omega
    · obtain rfl : j = n := by omega
      go_wp2
      go_ret
      exact ⟨rfl, HB.out⟩
def MarkedN (K : Nat) (W : World) (v : Value) (n : Nat) : Prop := (v = .slice none 0 0 ∧ n = 0) ∨ ∃ g cap cur, v = .slice (some ⟨g, 0, none⟩) n cap ∧ W.heap[g]? = some (.cells cur 9 (0, 0)) ∧ MarkN K n cur
theorem MarkedN.next {K n : Nat} {W V : World} {v : Value} (h : MarkedN K W v n) (hb : Below W.heap.size W V) : MarkedN K V v n := by
  rcases h with h | ⟨g, cap, cur, e, hg, hm⟩
  · exact .inl h
  · exact .inr ⟨g, cap, cur, e, hp_next hg hb, hm⟩
theorem markN_own {B K : Nat} {W : World} {v : Value} {ns : List ByteArray} (h : OwnN B W v ns) (hl : ns.length ≤ 1048576) (hK : 0 < K) (hK2 : K ≤ 5000000) :
    Calls Try.prog 28 #[v, .int .i64 K] W fun e W' => e = .returned (.int .i64 (K + ns.length : Nat)) ∧ W.grownBy W' v.ownBlock ∧ MarkedN K W' v ns.length := by
  obtain ⟨_, ⟨rfl, hn⟩ | ⟨g, cap, cur, rfl, hB, hc, hnc, hm, hz, ht⟩⟩ := h
  · refine (markN_nil K W).mono ?_
    rintro e W' ⟨rfl, rfl⟩
    refine ⟨by rw [hn]; rfl, grown_refl _ _, .inl ⟨rfl, hn⟩⟩
  · refine (markN_any g ns.length cap K W hl hK hK2 cur hc (by rw [hz]; omega)).mono ?_
    rintro e W' ⟨rfl, hg, cur', h1, h3⟩
    exact ⟨rfl, hg, .inr ⟨g, cap, cur', rfl, h1, h3⟩⟩
theorem heldN_own {K n : Nat} {W : World} {v : Value} (h : MarkedN K W v n) (hl : n ≤ 1048576) (hK : 0 < K) (hK2 : K ≤ 5000000) :
    Calls Try.prog 30 #[v, .int .i64 K] W fun e W' => e = .returned (.int .i64 (K + n : Nat)) ∧ Below W.heap.size W W' := by
  rcases h with ⟨rfl, rfl⟩ | ⟨g, cap, cur, rfl, hg, hm⟩
  · refine (heldN_nil K W).mono ?_
    rintro e W' ⟨rfl, rfl⟩
    exact ⟨rfl, Below.refl _ _⟩
  · exact heldN_any g n cap K W hl hK hK2 cur hg hm
/-- Names that can be read. -/
def RdN (W : World) (v : Value) (ns : List ByteArray) : Prop := ∃ (ad : Option Addr) (c : Nat), v = .slice ad ns.length c ∧ (ns = [] ∨ ∃ g, ad = some ⟨g, 0, none⟩ ∧ g < W.heap.size ∧ ∀ i, i < ns.length → W.cell? ⟨g, i, none⟩ = some (.string (ns.getD i ⟨#[]⟩)))
theorem RdN.next {W V : World} {v : Value} {ns : List ByteArray} (h : RdN W v ns) (hb : Below W.heap.size W V) : RdN V v ns := by
  obtain ⟨ad, c, e, h1⟩ := h
  refine ⟨ad, c, e, ?_⟩
  rcases h1 with h1 | ⟨g, e1, e2, e3⟩
  · exact .inl h1
  · exact .inr ⟨g, e1, Nat.lt_of_lt_of_le e2 hb.size, fun i hi => (hb.cell (p := ⟨g, _, none⟩) e2).trans (e3 i hi)⟩
theorem RdN.sl {W : World} {v : Value} {ns : List ByteArray} (h : RdN W v ns) : ∃ ad c, v = .slice ad ns.length c := by
  obtain ⟨ad, c, e, _⟩ := h
  exact ⟨ad, c, e⟩
theorem RdN.at {W : World} {ad : Option Addr} {n c : Nat} {ns : List ByteArray} (h : RdN W (.slice ad n c) ns) {i : Nat} (hi : i < ns.length) : ∃ g, ad = some ⟨g, 0, none⟩ ∧ W.cell? ⟨g, i, none⟩ = some (.string (ns.getD i ⟨#[]⟩)) := by
  obtain ⟨ad', c', e, h1⟩ := h
  injection e with ea _ _
  rcases h1 with h1 | ⟨g, e1, _, e3⟩
  · rw [h1] at hi; exact absurd hi (Nat.not_lt_zero _)
  · exact ⟨g, ea.trans e1, e3 i hi⟩
theorem RdN.own {B : Nat} {W : World} {v : Value} {ns : List ByteArray} (h : OwnN B W v ns) : RdN W v ns := by
  obtain ⟨ad, c, rfl⟩ := own_formK h
  refine ⟨ad, c, rfl, ?_⟩
  by_cases e : ns = []
  · exact .inl e
  · have hp : 0 < ns.length := Nat.pos_of_ne_zero fun h => e (List.eq_nil_of_length_eq_zero h)
    obtain ⟨g, hg, _⟩ := own_cell h hp
    subst hg
    refine .inr ⟨g, rfl, (own_blockK h rfl).2.1, fun i hi => ?_⟩
    obtain ⟨g2, hg2, h2⟩ := own_cell h hi
    injection hg2 with hg2
    injection hg2 with hg2 _ _
    subst hg2
    exact h2
set_option maxHeartbeats 4000000 in
theorem eqN_any (l : List ByteArray) {u v : Value} (w : World) (hN : l.length ≤ 1048576) (k0 : RdN w u l) (l0 : RdN w v l) :
    Calls Try.prog 24 #[u, v] w fun e w' => e = .returned (.bool true) ∧ Below w.heap.size w w' := by
  have H1 := hid k0
  have H2 := hid l0
  obtain ⟨au, cu, rfl⟩ := k0.sl
  obtain ⟨av, cv, rfl⟩ := l0.sl
  clear k0 l0
  have hne : ((l.length : Int) != (l.length : Int)) = false := by simp
  go_enter Try.func24, Try.ntmps24
  go_wp2
  go_loopw [5] (fun i wr => ∃ j : Nat, j ≤ l.length ∧ i = .int .i64 j ∧ Below w.heap.size w wr) (fun i _ => l.length - (intOf i).toNat)
  case atStart => exact ⟨0, Nat.zero_le _, rfl, Below.refl _ _⟩
  case round =>
    obtain ⟨j, hj, rfl, hbw⟩ := hrel
    have HBW := hid hbw
    clear hbw
    by_cases hlt : j < l.length
    · obtain ⟨gu, hgu, a0⟩ := (H1.out.next HBW.out).at hlt
      obtain ⟨gv, hgv, b0⟩ := (H2.out.next HBW.out).at hlt
      subst hgu hgv
      obtain ⟨x, hx⟩ : ∃ x, l.getD j ⟨#[]⟩ = x := ⟨_, rfl⟩
      rw [hx] at a0 b0
      clear hx
      have h5 : (x.toList != x.toList) = false := by simp
      go_wp2_with fail
      go_quiet (fail)
      go_wp2
      go_roundw
      case rel => exact ⟨j + 1, by omega, by go_num, below_drewN HBW.out nq⟩
      case measure => simp [intOf]; omega
    · obtain rfl : j = l.length := by omega
      go_wp2
      go_ret
      exact ⟨rfl, HBW.out⟩
end Go.Proofs.Ytpcfhbbialgcfaa.P
