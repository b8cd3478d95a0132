import Derived.Test.YtpcfhbbialgcfaaPlSpecL
/-! The place of a box. Printed by gen_plplace.py. -/
namespace Go.Proofs.Ytpcfhbbialgcfaa.P
open Go.RowKit
open Go.Proofs.Ytpcfhbbialgcfaa.R (hid small set_other Fl fl0 lt_hp hp_next B1 B2 row_cell row_room SFlR OkFlS below_drewN below_set info_parts info_Fl)
set_option maxRecDepth 20000
theorem step_append_own_at {P : Program} {ops : Array Oper} {o : Oper} {a : Act} {w : World} {K : Act → World → Prop} {Q : Exit → Act → World → Prop} {E : Prop} (hg : o.guard = none) (s x : Operand) (t : TypeId)
    (hop : o.op = Op.call { callee := Callee.builtin Builtin.append, args := #[s, x], argTypes := #[t, t] })
    (base : Nat) (e : TypeId) (i : TypeInfo) (z : Value) (size bytes : Nat) (ht : P.underlying t = some (.slice e)) (hi : P.info? e = some i) (hz : i.zero = some z)
    (hsize : i.size = size) (hby : i.bytes = bytes) (hzs : z.cells.size = size) (hsz : 0 < size)
    (v : Value) (n : Nat) (xs : List Value) (hs : a.eval s = v) (hown : w.ownsRow base e size v n xs)
    (ad : Addr) (m c : Nat) (news : List Value) (hx : a.eval x = .slice (some ad) m c) (hl : news.length = m * size) (hnews : ∀ j u, news[j]? = some u → w.cell? (ad.add j) = some u) (h1 : ∀ u ∈ news, u.oneCell' = true)
    (h63 : n + m ≤ maxLen) (hbytes : (n + m) * bytes ≤ 140737488355328) (hbase : base ≤ w.heap.size)
    (h : ∀ v' w', w'.ownsRow base e size v' (n + m) (xs ++ news) → w.grownBy w' v.ownBlock → (v' = .slice none 0 0 ↔ v = .slice none 0 0 ∧ m = 0) → (v'.ownBlock = v.ownBlock ∨ v'.ownBlock = some w.heap.size) → K (a.put o.dst v') w') :
    if Region.wanted o (yielded ops a.tmps) = true then Oper.wp P o a w K Q else E := by
  have hw : Region.wanted o (yielded ops a.tmps) = true := by simp [Region.wanted, hg]
  rw [if_pos hw]
  obtain ⟨v', w', hr, h2, h3, h4, h5⟩ := run_append_own_at (P := P) w base t o.type e i z size bytes ht hi hz hsize hby hzs hsz v n xs hown ad m c news hl hnews h1 h63 hbytes hbase
  unfold Oper.wp
  simp [execOp, hop, resolve, invoke, builtin, hs, hx, hr, Result.andThen]
  exact h v' w' h2 h3 h4 h5
theorem own_tyF {W : World} {B n : Nat} {v : Value} {xs : List Value} {g : Nat} {cs : Array Value} (h : W.ownsRow B 45 2 v n xs) (hg : W.heap[g]? = some (.cells cs 33)) : some g ≠ v.ownBlock := fun e => by
  obtain ⟨_, ⟨rfl, _⟩ | ⟨g', cap, cur, rfl, _, hc, _⟩⟩ := h
  · cases e
  · simp [Value.ownBlock] at e
    subst e
    rw [hc] at hg
    cases hg
/-- The place while it is made: two boxes. -/
structure PW (w : World) (v : Value) (W : World) : Prop where
  lo : Below w.heap.size w W
  r : W.heap[w.heap.size]? = some (.cells #[.slice none 0 0] 33)
  p : W.heap[w.heap.size + 1]? = some (.cells #[v] 33)
theorem PW.grown {w W V U : World} {v u : Value} {n : Nat} {xs : List Value} (h : PW w v W) (hb : Below W.heap.size W V) (ho : V.ownsRow w.heap.size 45 2 u n xs) (hg : V.grownBy U u.ownBlock) : Below w.heap.size w U ∧ U.heap[w.heap.size]? = some (.cells #[.slice none 0 0] 33) ∧ U.heap[w.heap.size + 1]? = some (.cells #[v] 33) := by
  have hr := hp_next h.r hb
  have hp := hp_next h.p hb
  have hl := h.lo.trans (hb.mono h.lo.size)
  exact ⟨grow_lo hl ho hl.size hg, (hg.block _ (lt_hp hr) (own_tyF ho hr)).trans hr, (hg.block _ (lt_hp hp) (own_tyF ho hp)).trans hp⟩
end Go.Proofs.Ytpcfhbbialgcfaa.P
