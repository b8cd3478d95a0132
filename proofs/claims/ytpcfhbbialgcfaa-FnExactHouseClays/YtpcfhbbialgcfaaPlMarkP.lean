import Derived.Test.YtpcfhbbialgcfaaPlMark
import Derived.Test.YtpcfhbbialgcfaaPlSpecL
/-! Marks of rows of one's own. -/
namespace Go.Proofs.Ytpcfhbbialgcfaa.P
open Go.RowKit
open Go.Proofs.Ytpcfhbbialgcfaa.R (hid Fl fl0 lt_hp hp_next B1 row_cell SFlR)
set_option maxRecDepth 20000
def MarkedV (K : Nat) (W : World) (v : Value) (n : Nat) : Prop := (v = .slice none 0 0 ∧ n = 0) ∨ ∃ g cap cur, v = .slice (some ⟨g, 0, none⟩) n cap ∧ W.heap[g]? = some (.cells cur 45 (0, 0)) ∧ Marked K n cur
theorem MarkedV.next {K n : Nat} {W V : World} {v : Value} (h : MarkedV K W v n) (hb : Below W.heap.size W V) : MarkedV K V v n := by
  rcases h with h | ⟨g, cap, cur, e, hg, hm⟩
  · exact .inl h
  · exact .inr ⟨g, cap, cur, e, hp_next hg hb, hm⟩
theorem MarkedV.sl {K n : Nat} {W : World} {v : Value} (h : MarkedV K W v n) : ∃ ad c, v = .slice ad n c := by
  rcases h with ⟨rfl, rfl⟩ | ⟨g, cap, cur, e, _⟩
  · exact ⟨_, _, rfl⟩
  · exact ⟨_, _, e⟩
theorem al_grown {W V : World} {o : Obj} {b : Option Nat} (h : (W.alloc o).grownBy V b) : W.grownBy V b :=
  ⟨h.os, h.tape, h.output, Nat.le_trans (by simp) h.size, fun k hk hne => (h.block k (by simp; omega) hne).trans (Below.heap_alloc _ _ _ hk)⟩
theorem grown_refl (W : World) (b : Option Nat) : W.grownBy W b := ⟨rfl, rfl, rfl, Nat.le_refl _, fun _ _ _ => rfl⟩
theorem own_below {W V : World} {B n : Nat} {v : Value} {xs : List Value} (h : W.ownsRow B 45 2 v n xs) (hB : B ≤ W.heap.size) (hg : W.grownBy V v.ownBlock) : Below B W V := grow_lo (Below.refl _ _) h hB hg
theorem own_ltF {W : World} {B n : Nat} {v : Value} {xs : List Value} (h : W.ownsRow B 45 2 v n xs) {g : Nat} (e : v.ownBlock = some g) : B ≤ g ∧ g < W.heap.size := by
  obtain ⟨_, ⟨rfl, _⟩ | ⟨g', cap, cur, rfl, hB, hc, _⟩⟩ := h
  · cases e
  · simp [Value.ownBlock] at e
    subst e
    exact ⟨hB, lt_hp hc⟩
/-- All from B on stays. -/
def AbB (B : Nat) (W V : World) : Prop := ∀ i, B ≤ i → i < W.heap.size → V.heap[i]? = W.heap[i]?
theorem own_abB {W V : World} {B B' n : Nat} {v : Value} {xs : List Value} (h : W.ownsRow B 45 2 v n xs) (hb : AbB B' W V) (hB : B' ≤ B) : V.ownsRow B 45 2 v n xs := by
  obtain ⟨hl, h | ⟨g, cap, cur, e, hg, hc, h⟩⟩ := h
  · exact ⟨hl, .inl h⟩
  · exact ⟨hl, .inr ⟨g, cap, cur, e, hg, (hb g (Nat.le_trans hB hg) (lt_hp hc)).trans hc, h⟩⟩
theorem abB_mark {W V U : World} {B B' n : Nat} {v : Value} {xs : List Value} (h : U.ownsRow B 45 2 v n xs) (hU : U.heap.size ≤ B') (hg : W.grownBy V v.ownBlock) : AbB B' W V := fun i hi hl => hg.block i hl fun e => by
  have := (own_ltF h e.symm).2
  omega
theorem sfl_own {B : Nat} {W : World} {v : Value} {l : List Fl} (h : SFlR B W v l) (hl : l.length ≤ 1048576) : OwnF B W v l := by
  obtain ⟨g, e, hg, cur, h1, h2, h3⟩ := h
  refine ⟨by rw [cellsF_len], .inr ⟨g, l.length, cur, e, hg, h1, Nat.le_refl _, by unfold maxLen; omega, h2, ?_⟩⟩
  apply List.ext_getElem?
  intro j
  by_cases hj : j < l.length * 2
  · obtain ⟨i, hi, ej⟩ : ∃ i, i < l.length ∧ (j = i * 2 ∨ j = i * 2 + 1) := ⟨j / 2, by omega, by omega⟩
    obtain ⟨b0, b1⟩ := cellsF_get l i hi
    rw [List.getElem?_take_of_lt hj, Array.getElem?_toList]
    rcases ej with rfl | rfl
    · rw [b0, (h3 i hi).1]
    · rw [b1, (h3 i hi).2]
  · rw [List.getElem?_eq_none (by rw [List.length_take]; omega), List.getElem?_eq_none (by rw [cellsF_len]; omega)]
theorem markF_own {B K : Nat} {W : World} {v : Value} {l : List Fl} (h : OwnF B W v l) (hl : l.length ≤ 1048576) (hK : 0 < K) (hK2 : K ≤ 5000000) :
    Calls Try.prog 26 #[v, .int .i64 K] W fun e W' => e = .returned (.int .i64 (K + 2 * l.length : Nat)) ∧ W.grownBy W' v.ownBlock ∧ MarkedV K W' v l.length := by
  obtain ⟨_, ⟨rfl, hn⟩ | ⟨g, cap, cur, rfl, hB, hc, hnc, hm, hz, ht⟩⟩ := h
  · refine (mark_nil K W).mono ?_
    rintro e W' ⟨rfl, rfl⟩
    refine ⟨by rw [hn]; rfl, grown_refl _ _, .inl ⟨rfl, hn⟩⟩
  · refine (markF_any g l.length cap K W hl hK hK2 cur hc (by rw [hz]; omega)).mono ?_
    rintro e W' ⟨rfl, hg, cur', h1, _, h3⟩
    exact ⟨rfl, hg, .inr ⟨g, cap, cur', rfl, h1, h3⟩⟩
set_option maxHeartbeats 2000000 in
theorem markP_own {B : Nat} {W : World} {v : Value} {l : List Fl} (h : OwnF B W v l) (hl : l.length ≤ 1048576) :
    Calls Try.prog 10 #[.agg #[v], .int .i64 1] W fun e W' => e = .returned (.int .i64 (1 + 2 * l.length : Nat)) ∧ W.grownBy W' v.ownBlock ∧ MarkedV 1 W' v l.length := by
  have HB := hid (B1.start W (.cells #[v] 33))
  have HM := hid (markF_own (K := 1) (own_next h HB.out.lo) hl (by omega) (by omega))
  obtain ⟨ad, c, rfl⟩ := own_form2 h
  clear h
  obtain ⟨K, hK⟩ : ∃ K, 1 + 2 * l.length = K := ⟨_, rfl⟩
  rw [hK] at HM ⊢
  clear hK
  go_enter Try.func10, Try.ntmps10
  go_wp2_with fail
  refine HM.out.mono ?_
  rintro e w1 ⟨rfl, hg, hm⟩
  have HE := hid (And.intro (al_grown hg) hm)
  clear hg hm
  go_wp2
  go_ret
  exact ⟨rfl, HE.out.1, HE.out.2⟩
end Go.Proofs.Ytpcfhbbialgcfaa.P
