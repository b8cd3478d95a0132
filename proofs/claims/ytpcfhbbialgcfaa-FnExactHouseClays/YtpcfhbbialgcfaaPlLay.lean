import Derived.Test.YtpcfhbbialgcfaaPlMap
import Derived.Deep.DeepCutAuto
import Derived.Deep.RegionLaw
/-! A file laid into a box. -/
namespace Go.Proofs.Ytpcfhbbialgcfaa.P
open Go.RowKit
open Go.Proofs.Ytpcfhbbialgcfaa.R (hid set_other Fl fl0 lt_hp hp_next B1 row_cell set_at below_drewN)
set_option maxRecDepth 20000
/-- Where a name belongs. -/
def atN (ns : List ByteArray) (t : ByteArray) : Nat := Lib.bsGo (fun j => Op.bytesLess (ns.getD j ⟨#[]⟩).toList t.toList) ns.length 0 ns.length
def thereN (ns : List ByteArray) (t : ByteArray) : Prop := atN ns t < ns.length ∧ ns.getD (atN ns t) ⟨#[]⟩ = t
instance (ns : List ByteArray) (t : ByteArray) : Decidable (thereN ns t) := instDecidableAnd
def putN (ns : List ByteArray) (t : ByteArray) : List ByteArray := if thereN ns t then ns else insAt ns (atN ns t) t
theorem own_form {W : World} {B n : Nat} {e : TypeId} {v : Value} {xs : List Value} (h : W.ownsRow B e 1 v n xs) : ∃ ad c, v = .slice ad n c := by
  obtain ⟨_, ⟨rfl, rfl⟩ | ⟨g, cap, cur, rfl, _⟩⟩ := h
  · exact ⟨none, 0, rfl⟩
  · exact ⟨_, cap, rfl⟩
theorem step_enter {P : Program} {ops : Array Oper} {o : Oper} {a : Act} {w : World} {K : Act → World → Prop} {Q : Exit → Act → World → Prop} {E : Prop} (hg : o.guard = none) {f : FuncId} {vals : Array Value}
    (hx : (execOp a.eval o).run P w = .ok (.enter f vals) w) {Q' : Ending → World → Prop} (hc : Calls P f vals w Q') (h : ∀ e w', Q' e w' → ∃ v, e = .returned v ∧ K (a.put o.dst v) w') :
    if Region.wanted o (yielded ops a.tmps) = true then Oper.wp P o a w K Q else E := by
  have hw : Region.wanted o (yielded ops a.tmps) = true := by simp [Region.wanted, hg]
  rw [if_pos hw]
  unfold Oper.wp
  rw [hx, Oper.upon_enter]
  refine hc.mono fun e w' hq => ?_
  obtain ⟨v, rfl, hk⟩ := h e w' hq
  exact hk
theorem bsGo_le (p : Nat → Bool) : ∀ (g lo hi : Nat), lo ≤ hi → Lib.bsGo p g lo hi ≤ hi := by
  intro g
  induction g with
  | zero => intro lo hi h1; simp [Lib.bsGo]; omega
  | succ g ih =>
    intro lo hi h1
    by_cases hlt : lo < hi
    · simp only [Lib.bsGo, hlt, if_true]
      split
      · exact ih _ _ (by omega)
      · exact Nat.le_trans (ih _ _ (by omega)) (by omega)
    · simp [Lib.bsGo, hlt]; omega
theorem atN_le (ns : List ByteArray) (t : ByteArray) : atN ns t ≤ ns.length := bsGo_le _ _ _ _ (Nat.zero_le _)
theorem own_ty {W : World} {B n : Nat} {v : Value} {xs : List Value} {g : Nat} {o : Obj} (h : W.ownsRow B 9 1 v n xs) (hg : W.heap[g]? = some o) (ho : ∀ cs fr, ¬ o = .cells cs 9 fr) : some g ≠ v.ownBlock := fun e => by
  obtain ⟨_, ⟨rfl, _⟩ | ⟨g', cap, cur, rfl, _, hc, _⟩⟩ := h
  · cases e
  · simp [Value.ownBlock] at e
    subst e
    rw [hc] at hg
    injection hg with hg
    exact ho _ _ hg.symm
theorem own_lt {W : World} {B n : Nat} {v : Value} {xs : List Value} (h : W.ownsRow B 9 1 v n xs) {g : Nat} (e : v.ownBlock = some g) : B ≤ g ∧ g < W.heap.size := by
  obtain ⟨_, ⟨rfl, _⟩ | ⟨g', cap, cur, rfl, hB, hc, _⟩⟩ := h
  · cases e
  · simp [Value.ownBlock] at e
    subst e
    exact ⟨hB, lt_hp hc⟩
theorem grown_below {B : Nat} {W V : World} {o : Option Nat} (hg : W.grownBy V o) (hB : B ≤ W.heap.size) (ho : ∀ k, o = some k → B ≤ k) : Below B W V :=
  ⟨hg.os, hg.tape, hg.output, hg.size, fun i hi => hg.block i (by omega) (fun e => by have := ho i e.symm; omega)⟩
end Go.Proofs.Ytpcfhbbialgcfaa.P
