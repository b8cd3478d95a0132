import Derived.Test.YtpcfhbbialgcfaaHgPut
import Derived.Test.YtpcfhbbialgcfaaPlMark
import Derived.Test.YtpcfhbbialgcfaaPlMarkP
/-! Packages that are marked, and marks that are held; rows of packages that are the same. Printed by gen_hc.py. -/
namespace Go.Proofs.Ytpcfhbbialgcfaa.G
open Go.RowKit
open Go.Proofs.Ytpcfhbbialgcfaa.R (hid Fl fl0 lt_hp hp_next B1 B2 row_cell row_room set_at set_other Gr wp_region_gr Calls.gr_of)
open Go.Proofs.Ytpcfhbbialgcfaa.P
set_option maxRecDepth 20000
set_option maxRecDepth 20000 in
set_option maxHeartbeats 4000000 in
theorem markF_any (g n cap K : Nat) (w : World) (hn : n ≤ 1048576) (hK : 0 < K) (hK2 : K ≤ 5000000) (cur : Array Value) (hg : w.heap[g]? = some (.cells cur 55 (0, 0))) (hsz : n * 2 ≤ cur.size) :
    Calls Try.prog 27 #[.slice (some ⟨g, 0, none⟩) n cap, .int .i64 K] w fun e w' => e = .returned (.int .i64 (K + 2 * n : Nat)) ∧ w.grownBy w' (some g) ∧ ∃ cur', w'.heap[g]? = some (.cells cur' 55 (0, 0)) ∧ cur'.size = cur.size ∧ Marked K n cur' := by
  have HG0 := hid hg
  clear hg
  go_enter Try.func27, Try.ntmps27
  go_wp2
  go_loopw [1, 5] (fun k i wr => ∃ (j : Nat) (cu : Array Value), i = .int .i64 j ∧ k = .int .i64 (K + 2 * j : Nat) ∧ j ≤ n ∧ w.grownBy wr (some g) ∧ wr.heap[g]? = some (.cells cu 55 (0, 0)) ∧ cu.size = cur.size ∧ Marked K j cu) (fun _ i _ => n - (intOf i).toNat)
  case atStart => exact ⟨0, cur, rfl, rfl, Nat.zero_le _, ⟨rfl, rfl, rfl, Nat.le_refl _, fun _ _ _ => rfl⟩, HG0.out, rfl, fun i h => absurd h (Nat.not_lt_zero _)⟩
  case round =>
    obtain ⟨j, cu, rfl, rfl, hj, hgw, hh, hcs, hall⟩ := hrel
    have HG := hid hgw
    have HH := hid hh
    have HALL := hid hall
    have HCS := hid hcs
    clear hgw hall hcs hh
    by_cases hlt : j < n
    · have hsz2 : Hid (j * 2 + 1 < cu.size) := hid (by rw [HCS.out]; omega)
      go_wp2_with (first
        | (go_at_call 43; refine (markText_int _ (K + 2 * j) _ (by omega) (by omega) (by omega)).mono ?_; rintro e w1 ⟨rfl, hb1⟩; have HB1 := hid hb1; have HW1 := hid (hp_next HH.out hb1); have f1 := frozen_hp HW1.out (j * 2); obtain ⟨v1, x1⟩ := has_cell (i := j * 2) HW1.out (by have := hsz2.out; omega); clear hb1)
        | (go_at_call 43; refine (markText_int _ (K + 2 * j + 1) _ (by omega) (by omega) (by omega)).mono ?_; rintro e w2 ⟨rfl, hb2⟩; have HB2 := hid hb2; have HW2 := hid (hp_next (set_at (i := j * 2) (.string (mtxt (K + 2 * j))) HW1.out) hb2); have f2 := frozen_hp HW2.out (j * 2 + 1); obtain ⟨v2, x2⟩ := has_cell (i := j * 2 + 1) HW2.out (by rw [Array.size_setIfInBounds]; exact hsz2.out); clear hb2))
      have HF := hid (set_at (i := j * 2 + 1) (.string (mtxt (K + 2 * j + 1))) HW2.out)
      have HGR := hid (grown_setM (grown_next (grown_setM (grown_next HG.out HB1.out) (j * 2) (.string (mtxt (K + 2 * j)))) HB2.out) (j * 2 + 1) (.string (mtxt (K + 2 * j + 1))))
      have H4 := hid (set_two cu j (.string (mtxt (K + 2 * j))) (.string (mtxt (K + 2 * j + 1))) hsz2.out)
      go_roundw
      case rel =>
        refine ⟨j + 1, _, by go_num, by go_num, by omega, HGR.out, HF.out, (H4.out.1).trans HCS.out, fun i hi => ?_⟩
        rcases Nat.lt_or_eq_of_le (Nat.lt_succ_iff.1 hi) with h | h
        · have h5 := H4.out.2.2.2
          have h6 := HALL.out i h
          exact ⟨(h5 _ (by omega)).trans h6.1, (h5 _ (by omega)).trans h6.2⟩
        · subst h
          exact ⟨H4.out.2.1, H4.out.2.2.1⟩
      case measure => simp [intOf]; omega
    · obtain rfl : j = n := by omega
      go_wp2
      go_ret
      exact ⟨ret_int (by omega), HG.out, cu, HH.out, HCS.out, HALL.out⟩
set_option maxRecDepth 20000 in
set_option maxHeartbeats 4000000 in
theorem mark_nil (K : Nat) (w : World) :
    Calls Try.prog 27 #[.slice none 0 0, .int .i64 K] w fun e w' => e = .returned (.int .i64 K) ∧ w' = w := by
  go_enter Try.func27, Try.ntmps27
  go_wp2
  go_loop [1, 5] (fun k i => k = .int .i64 K ∧ i = .int .i64 0) (fun _ _ => 0)
  case atStart => exact ⟨rfl, rfl⟩
  case round =>
    obtain ⟨rfl, rfl⟩ := hrel
    go_wp2
    go_ret
    exact ⟨rfl, rfl⟩
set_option maxRecDepth 20000 in
set_option maxHeartbeats 4000000 in
theorem held_nil (K : Nat) (w : World) :
    Calls Try.prog 29 #[.slice none 0 0, .int .i64 K] w fun e w' => e = .returned (.int .i64 K) ∧ w' = w := by
  go_enter Try.func29, Try.ntmps29
  go_wp2
  go_loop [1, 5] (fun k i => k = .int .i64 K ∧ i = .int .i64 0) (fun _ _ => 0)
  case atStart => exact ⟨rfl, rfl⟩
  case round =>
    obtain ⟨rfl, rfl⟩ := hrel
    go_wp2
    go_ret
    exact ⟨rfl, rfl⟩
set_option maxRecDepth 20000 in
set_option maxHeartbeats 8000000 in
theorem heldF_any (g n cap K : Nat) (w : World) (hn : n ≤ 1048576) (hK : 0 < K) (hK2 : K ≤ 5000000) (cur : Array Value) (hg : w.heap[g]? = some (.cells cur 55 (0, 0))) (hm : Marked K n cur) :
    Calls Try.prog 29 #[.slice (some ⟨g, 0, none⟩) n cap, .int .i64 K] w fun e w' => e = .returned (.int .i64 (K + 2 * n : Nat)) ∧ Below w.heap.size w w' := by
  have HG0 := hid hg
  have HM := hid hm
  clear hg hm
  go_enter Try.func29, Try.ntmps29
  go_wp2
  go_loopw [1, 5] (fun k i wr => ∃ j : Nat, i = .int .i64 j ∧ k = .int .i64 (K + 2 * j : Nat) ∧ j ≤ n ∧ Below w.heap.size w wr) (fun _ i _ => n - (intOf i).toNat)
  case atStart => exact ⟨0, rfl, rfl, Nat.zero_le _, Below.refl _ _⟩
  case round =>
    obtain ⟨j, rfl, rfl, hj, hb⟩ := hrel
    have HB := hid hb
    clear hb
    by_cases hlt : j < n
    · have HC : Hid (∀ V, Below w.heap.size w V → V.cell? ⟨g, j * 2, none⟩ = some (.string (mtxt (K + 2 * j))) ∧ V.cell? ⟨g, j * 2 + 1, none⟩ = some (.string (mtxt (K + 2 * j + 1)))) := hid fun V hV => ⟨(row_cell (hp_next HG0.out hV) _).trans (HM.out j hlt).1, (row_cell (hp_next HG0.out hV) _).trans (HM.out j hlt).2⟩
      have HT1 : Hid (∀ V, Calls Try.prog 43 #[.int .i64 (K + 2 * j : Nat)] V fun e w' => e = .returned (.string (mtxt (K + 2 * j))) ∧ Below V.heap.size V w') := hid fun V => markText_any _ V (by omega) (by omega)
      have HT2 : Hid (∀ (a : Int) (V : World), a = (K + 2 * j + 1 : Nat) → Calls Try.prog 43 #[.int .i64 a] V fun e w' => e = .returned (.string (mtxt (K + 2 * j + 1))) ∧ Below V.heap.size V w') := hid fun a V h => markText_int a _ V h (by omega) (by omega)
      obtain ⟨t1, ht1⟩ : ∃ t, mtxt (K + 2 * j) = t := ⟨_, rfl⟩
      obtain ⟨t2, ht2⟩ : ∃ t, mtxt (K + 2 * j + 1) = t := ⟨_, rfl⟩
      rw [ht1, ht2] at HC
      rw [ht1] at HT1
      rw [ht2] at HT2
      clear ht1 ht2
      have e1 : (t1.toList != t1.toList) = false := by simp
      have e2 : (t2.toList != t2.toList) = false := by simp
      have A0 := fun p : R.Gr wr => (HC.out _ (HB.out.trans (p.h.mono HB.out.size))).1
      go_wp2_with fail
      have hne2 : Nonempty (R.Gr wr) := ⟨⟨wr, Below.refl _ _⟩⟩
      refine R.wp_region_gr (by kernel_rfl) (by kernel_rfl) ?_
      repeat (go_big_quiet_step (first | (go_at_call 43; refine R.Calls.gr_of (v := .string t1) fun hpw => ?_; exact HT1.out _)))
      refine wpQuiet_nil ?_
      intro _ hw'
      obtain ⟨pw, rfl⟩ := hw'
      have HB4 := hid (HB.out.trans (pw.h.mono HB.out.size))
      obtain ⟨W4, hW4⟩ : ∃ W, pw.W = W := ⟨_, rfl⟩
      rw [hW4] at HB4 ⊢
      clear hW4 A0 hne2
      have A1 := fun p : R.Gr W4 => (HC.out _ (HB4.out.trans (p.h.mono HB4.out.size))).2
      go_wp2_with fail
      have hne2 : Nonempty (R.Gr W4) := ⟨⟨W4, Below.refl _ _⟩⟩
      refine R.wp_region_gr (by kernel_rfl) (by kernel_rfl) ?_
      repeat (go_big_quiet_step (first | (go_at_call 43; refine R.Calls.gr_of (v := .string t2) fun hpw => ?_; exact HT2.out _ _ (by omega))))
      refine wpQuiet_nil ?_
      intro _ hw'
      obtain ⟨pw2, rfl⟩ := hw'
      have HB5 := hid (HB4.out.trans (pw2.h.mono HB4.out.size))
      clear A1 hne2
      go_wp2
      go_roundw
      case rel => exact ⟨j + 1, by go_num, by go_num, by omega, HB5.out⟩
      case measure => simp [intOf]; omega
    · obtain rfl : j = n := by omega
      go_wp2
      go_ret
      exact ⟨ret_int (by omega), HB.out⟩
def MarkedV (K : Nat) (W : World) (v : Value) (n : Nat) : Prop := (v = .slice none 0 0 ∧ n = 0) ∨ ∃ g cap cur, v = .slice (some ⟨g, 0, none⟩) n cap ∧ W.heap[g]? = some (.cells cur 55 (0, 0)) ∧ Marked K n cur
theorem MarkedV.next {K n : Nat} {W V : World} {v : Value} (h : MarkedV K W v n) (hb : Below W.heap.size W V) : MarkedV K V v n := by
  rcases h with h | ⟨g, cap, cur, e, hg, hm⟩
  · exact .inl h
  · exact .inr ⟨g, cap, cur, e, hp_next hg hb, hm⟩
theorem MarkedV.sl {K n : Nat} {W : World} {v : Value} (h : MarkedV K W v n) : ∃ ad c, v = .slice ad n c := by
  rcases h with ⟨rfl, rfl⟩ | ⟨g, cap, cur, e, _⟩
  · exact ⟨_, _, rfl⟩
  · exact ⟨_, _, e⟩
theorem own_below {W V : World} {B n : Nat} {v : Value} {xs : List Value} (h : W.ownsRow B 55 2 v n xs) (hB : B ≤ W.heap.size) (hg : W.grownBy V v.ownBlock) : Below B W V := grow_lo (Below.refl _ _) h hB hg
theorem own_ltF {W : World} {B n : Nat} {v : Value} {xs : List Value} (h : W.ownsRow B 55 2 v n xs) {g : Nat} (e : v.ownBlock = some g) : B ≤ g ∧ g < W.heap.size := by
  obtain ⟨_, ⟨rfl, _⟩ | ⟨g', cap, cur, rfl, hB, hc, _⟩⟩ := h
  · cases e
  · simp [Value.ownBlock] at e
    subst e
    exact ⟨hB, lt_hp hc⟩
theorem own_abB {W V : World} {B B' n : Nat} {v : Value} {xs : List Value} (h : W.ownsRow B 55 2 v n xs) (hb : AbB B' W V) (hB : B' ≤ B) : V.ownsRow B 55 2 v n xs := by
  obtain ⟨hl, h | ⟨g, cap, cur, e, hg, hc, h⟩⟩ := h
  · exact ⟨hl, .inl h⟩
  · exact ⟨hl, .inr ⟨g, cap, cur, e, hg, (hb g (Nat.le_trans hB hg) (lt_hp hc)).trans hc, h⟩⟩
theorem abB_mark {W V U : World} {B B' n : Nat} {v : Value} {xs : List Value} (h : U.ownsRow B 55 2 v n xs) (hU : U.heap.size ≤ B') (hg : W.grownBy V v.ownBlock) : AbB B' W V := fun i hi hl => hg.block i hl fun e => by
  have := (own_ltF h e.symm).2
  omega
theorem markF_own {B K : Nat} {W : World} {v : Value} {l : List Fl} (h : OwnF B W v l) (hl : l.length ≤ 1048576) (hK : 0 < K) (hK2 : K ≤ 5000000) :
    Calls Try.prog 27 #[v, .int .i64 K] W fun e W' => e = .returned (.int .i64 (K + 2 * l.length : Nat)) ∧ W.grownBy W' v.ownBlock ∧ MarkedV K W' v l.length := by
  obtain ⟨_, ⟨rfl, hn⟩ | ⟨g, cap, cur, rfl, hB, hc, hnc, hm, hz, ht⟩⟩ := h
  · refine (mark_nil K W).mono ?_
    rintro e W' ⟨rfl, rfl⟩
    refine ⟨by rw [hn]; rfl, grown_refl _ _, .inl ⟨rfl, hn⟩⟩
  · refine (markF_any g l.length cap K W hl hK hK2 cur hc (by rw [hz]; omega)).mono ?_
    rintro e W' ⟨rfl, hg, cur', h1, _, h3⟩
    exact ⟨rfl, hg, .inr ⟨g, cap, cur', rfl, h1, h3⟩⟩
theorem heldF_own {K n : Nat} {W : World} {v : Value} (h : MarkedV K W v n) (hl : n ≤ 1048576) (hK : 0 < K) (hK2 : K ≤ 5000000) :
    Calls Try.prog 29 #[v, .int .i64 K] W fun e W' => e = .returned (.int .i64 (K + 2 * n : Nat)) ∧ Below W.heap.size W W' := by
  rcases h with ⟨rfl, rfl⟩ | ⟨g, cap, cur, rfl, hg, hm⟩
  · refine (held_nil K W).mono ?_
    rintro e W' ⟨rfl, rfl⟩
    exact ⟨rfl, Below.refl _ _⟩
  · exact heldF_any g n cap K W hl hK hK2 cur hg hm
end Go.Proofs.Ytpcfhbbialgcfaa.G
