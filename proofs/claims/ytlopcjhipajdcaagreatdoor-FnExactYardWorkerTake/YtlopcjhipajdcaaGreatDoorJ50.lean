import Derived.Test.YtlopcjhipajdcaaGreatDoorJ48
import Derived.Test.YtlopcjhipajdcaaGreatDoorJ49
/-! Sizes; what the law keeps. Printed by gen_yrow.py. -/
namespace Go.Proofs.YtlopcjhipajdcaaGreatDoor.Y
open Go.RowKit R
open Go.Proofs.YtlopcjhipajdcaaGreatDoor.J (FileOk BegOk RepOk ltB Says says_t says_f)
set_option maxRecDepth 20000
/-- How many marks a message's rows take. -/
def cntMs (m : Ms) : Nat := m.target.ins.length + m.target.outs.length + 4 * m.seen.length + 2 * m.turn.files.length + m.turn.said.length
theorem cnt_le (m : Ms) : cntMs m ≤ 4 * wMs m := by
  have h0 := wSStr_ge m.target.ins m.target.ins.length
  have h1 := wSStr_ge m.target.outs m.target.outs.length
  have h2 := wSSn_ge m.seen m.seen.length
  have h3 := wSFl_ge m.turn.files m.turn.files.length
  have h4 := wSStr_ge m.turn.said m.turn.said.length
  unfold cntMs wMs wTg wTu
  omega
theorem lnMs_of {m : Ms} (h : wMs m ≤ 1048576) : LnMs m := by
  have h0 := wSStr_ge m.target.ins m.target.ins.length
  have h1 := wSStr_ge m.target.outs m.target.outs.length
  have h2 := wSSn_ge m.seen m.seen.length
  have h3 := wSFl_ge m.turn.files m.turn.files.length
  have h4 := wSStr_ge m.turn.said m.turn.said.length
  unfold wMs wTg wTu at h
  exact ⟨by omega, by omega, by omega, by omega, by omega⟩
theorem szMs_of {m : Ms} (h : wMs m ≤ 1048576) : SzMs m := by
  have hs := smMs_of h
  have hl := lnMs_of h
  unfold wMs wTg wTu at h
  refine ⟨hs.1, ⟨hl.n2, hs.2.1.2⟩, ⟨hl.n3, fun i hi => ?_⟩, ⟨hl.n4, fun i hi => ?_⟩, by omega, by omega⟩
  · have := wSFl_at m.turn.files hi
    unfold wFl at this
    constructor <;> omega
  · have := wSStr_at m.turn.said hi
    omega
/-- What is asked of a message's size in the law. -/
structure LkMs (m : Ms) : Prop where
  sm : SmMs m
  ln : LnMs m
  sz : SzMs m
  lo : LoMs m
  ct : cntMs m ≤ 4194304
theorem lkMs_of {m : Ms} (h : wMs m ≤ 1048576) : LkMs m := ⟨smMs_of h, lnMs_of h, szMs_of h, loMs_of h, by have := cnt_le m; omega⟩
theorem take_lk {x : Wk} {m : Ms} {R : Wk} (h : TakeIs x m R) (h1 : LkMs x.offer) (h2 : LkMs m) : LkMs R.offer := by
  rcases h with ⟨_, rfl⟩ | ⟨_, _, rfl⟩ | ⟨_, _, rfl⟩
  · exact lkMs_of (by decide)
  · exact h2
  · exact h1
theorem RdMs.ofR {B : Nat} {W : World} {m : Ms} {u0 u1 u2 u3 u4 : Value} (h0 : SStrR B W u0 m.target.ins) (h1 : SStrR B W u1 m.target.outs) (h2 : SSnR B W u2 m.seen) (h3 : SFlR B W u3 m.turn.files) (h4 : SStrR B W u4 m.turn.said) : RdMs W m u0 u1 u2 u3 u4 := ⟨.ofR h0, .ofR h1, .ofR h2, .ofR h3, .ofR h4⟩
/-- The rows of a message may be marked. -/
structure ShMs (B T : Nat) (W : World) (m : Ms) (u0 u1 u2 u3 u4 : Value) : Prop where
  h0 : Sh B T 9 1 W u0 m.target.ins.length
  h1 : Sh B T 9 1 W u1 m.target.outs.length
  h2 : Sh B T 88 4 W u2 m.seen.length
  h3 : Sh B T 114 2 W u3 m.turn.files.length
  h4 : Sh B T 9 1 W u4 m.turn.said.length
theorem Sh.monoB {B B' T t k n : Nat} {W : World} {v : Value} (h : Sh B T t k W v n) (hb : B' ≤ B) : Sh B' T t k W v n := by
  rcases h with h | ⟨g, cap, cur, e, hB, r⟩
  · exact .inl h
  · exact .inr ⟨g, cap, cur, e, Nat.le_trans hb hB, r⟩
theorem ShMs.mk' {B T : Nat} {W V : World} {m : Ms} {u0 u1 u2 u3 u4 : Value} (h : ShMs B T W m u0 u1 u2 u3 u4) (hm : Mk W V) : ShMs B T V m u0 u1 u2 u3 u4 := ⟨h.h0.mk hm, h.h1.mk hm, h.h2.mk hm, h.h3.mk hm, h.h4.mk hm⟩
theorem ShMs.ofR {B B' T : Nat} {W : World} {m : Ms} {u0 u1 u2 u3 u4 : Value} (hl : LnMs m) (h0 : SStrR B' W u0 m.target.ins) (h1 : SStrR B' W u1 m.target.outs) (h2 : SSnR B' W u2 m.seen) (h3 : SFlR B' W u3 m.turn.files) (h4 : SStrR B' W u4 m.turn.said) (hB : B ≤ B') (hT : W.heap.size ≤ T) : ShMs B T W m u0 u1 u2 u3 u4 :=
  ⟨(Sh.own (ownStr_of h0 hl.n0) hT).monoB hB, (Sh.own (ownStr_of h1 hl.n1) hT).monoB hB, (Sh.own (ownSn_of h2 hl.n2) hT).monoB hB, (Sh.own (ownFl_of h3 hl.n3) hT).monoB hB, (Sh.own (ownStr_of h4 hl.n4) hT).monoB hB⟩
theorem OwnMs.sh {B T : Nat} {W : World} {m : Ms} {u0 u1 u2 u3 u4 : Value} (h : OwnMs B W m u0 u1 u2 u3 u4) (hT : W.heap.size ≤ T) : ShMs B T W m u0 u1 u2 u3 u4 := ⟨Sh.own h.o0 hT, Sh.own h.o1 hT, Sh.own h.o2 hT, Sh.own h.o3 hT, Sh.own h.o4 hT⟩
/-- Two boxes that came in. -/
structure L2 (w : World) (C M : Array Value) (W : World) : Prop where
  lo : Below w.heap.size w W
  e : W.heap[w.heap.size]? = some (.cells C 32 (0, 0))
  m : W.heap[w.heap.size + 1]? = some (.cells M 30 (0, 0))
theorem L2.start (w : World) (C M : Array Value) : L2 w C M ((w.alloc (.cells C 32)).alloc (.cells M 30)) := by
  have h := B2.start w (.cells C 32) (.cells M 30)
  exact ⟨h.lo, h.e, h.f⟩
theorem L2.next {w W V : World} {C M : Array Value} (h : L2 w C M W) (hb : Below W.heap.size W V) : L2 w C M V := ⟨h.lo.trans (hb.mono h.lo.size), hp_next h.e hb, hp_next h.m hb⟩
theorem L2.sz {w W : World} {C M : Array Value} (h : L2 w C M W) : w.heap.size + 2 ≤ W.heap.size := lt_hp h.m
theorem L2.lm {w W V : World} {C M : Array Value} {B T : Nat} (h : L2 w C M W) (hm : Lm B T W V) (hB : w.heap.size + 2 ≤ B) : L2 w C M V := ⟨h.lo.trans (hm.lo.mono (by omega)), (hm.lo.block _ (by omega)).trans h.e, (hm.lo.block _ (by omega)).trans h.m⟩
theorem own_setRowT {W : World} {B t k n : Nat} {v : Value} {xs : List Value} (h : W.ownsRow B t k v n xs) {g : Nat} {cur : Array Value} {u : TypeId} (hg : W.heap[g]? = some (.cells cur u (0, 0))) (hne : t ≠ u) (cs : Array Value) : (W.setRow g cs).ownsRow B t k v n xs := by
  obtain ⟨h1, h2 | ⟨g2, cap, cu, a, hB, c, d⟩⟩ := h
  · exact ⟨h1, .inl h2⟩
  · refine ⟨h1, .inr ⟨g2, cap, cu, a, hB, (setRow_other _ _ _ _ fun e => ?_).trans c, d⟩⟩
    rw [e, hg] at c
    injection c with c
    injection c with _ e2 _
    exact hne e2.symm
theorem OwnMs.setRowT {B : Nat} {W : World} {m : Ms} {u0 u1 u2 u3 u4 : Value} (h : OwnMs B W m u0 u1 u2 u3 u4) {g : Nat} {cur : Array Value} (hg : W.heap[g]? = some (.cells cur 43 (0, 0))) (cs : Array Value) : OwnMs B (W.setRow g cs) m u0 u1 u2 u3 u4 :=
  ⟨own_setRowT h.o0 hg (by decide) cs, own_setRowT h.o1 hg (by decide) cs, own_setRowT h.o2 hg (by decide) cs, own_setRowT h.o3 hg (by decide) cs, own_setRowT h.o4 hg (by decide) cs, h.a01, h.a04, h.a14⟩
theorem RdMs.lm {W V : World} {m : Ms} {u0 u1 u2 u3 u4 : Value} {B T : Nat} {w : World} (h : RdMs w m u0 u1 u2 u3 u4) (hw : Below w.heap.size w W) (hm : Lm B T W V) (hB : w.heap.size ≤ B) : RdMs V m u0 u1 u2 u3 u4 := h.next (hw.trans (hm.lo.mono hB))
end Go.Proofs.YtlopcjhipajdcaaGreatDoor.Y
