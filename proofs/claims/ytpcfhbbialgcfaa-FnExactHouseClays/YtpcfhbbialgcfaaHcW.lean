import Derived.Test.YtpcfhbbialgcfaaHcPacks
import Derived.Test.YtpcfhbbialgcfaaHgPut
import Derived.Test.YtpcfhbbialgcfaaPlPlace
/-! The packages and names of a place, while they are put together. -/
namespace Go.Proofs.Ytpcfhbbialgcfaa.P
open Go.RowKit
open Go.Proofs.Ytpcfhbbialgcfaa.R (hid set_other Fl fl0 lt_hp hp_next B1 B2 row_cell SFlR below_set set_at)
set_option maxRecDepth 20000
theorem own_keepK {W V : World} {B t k n : Nat} {v : Value} {xs : List Value} (h : W.ownsRow B t k v n xs) (hk : ∀ (g : Nat) (cs : Array Value), W.heap[g]? = some (.cells cs t (0, 0)) → V.heap[g]? = W.heap[g]?) : V.ownsRow B t k v n xs := by
  obtain ⟨h1, h2 | ⟨g, cap, cur, a, b, c, d⟩⟩ := h
  · exact ⟨h1, .inl h2⟩
  · exact ⟨h1, .inr ⟨g, cap, cur, a, b, (hk g cur c).trans c, d⟩⟩
theorem own_blockK {W : World} {B t k n : Nat} {v : Value} {xs : List Value} (h : W.ownsRow B t k v n xs) {g : Nat} (e : v.ownBlock = some g) : B ≤ g ∧ g < W.heap.size ∧ ∃ cs, W.heap[g]? = some (.cells cs t (0, 0)) := by
  obtain ⟨_, ⟨rfl, _⟩ | ⟨g', cap, cur, rfl, hB, hc, _⟩⟩ := h
  · cases e
  · simp [Value.ownBlock] at e
    subst e
    exact ⟨hB, lt_hp hc, _, hc⟩
theorem own_monoK {W : World} {B B' t k n : Nat} {v : Value} {xs : List Value} (h : W.ownsRow B' t k v n xs) (hb : B ≤ B') : W.ownsRow B t k v n xs := by
  obtain ⟨hl, h | ⟨g, cap, cur, e, hB, h⟩⟩ := h
  · exact ⟨hl, .inl h⟩
  · exact ⟨hl, .inr ⟨g, cap, cur, e, Nat.le_trans hb hB, h⟩⟩
theorem own_formK {W : World} {B t k n : Nat} {v : Value} {xs : List Value} (h : W.ownsRow B t k v n xs) : ∃ ad c, v = .slice ad n c := by
  obtain ⟨_, ⟨rfl, rfl⟩ | ⟨g, cap, cur, rfl, _⟩⟩ := h
  · exact ⟨none, 0, rfl⟩
  · exact ⟨_, cap, rfl⟩
/-- A row grows: what is of another type stays. -/
theorem grown_ty {W V : World} {B t k n : Nat} {v : Value} {xs : List Value} (h : W.ownsRow B t k v n xs) (hg : W.grownBy V v.ownBlock) {b : Nat} {o : Obj} (hb : W.heap[b]? = some o) (ho : ∀ cs, ¬ o = .cells cs t (0, 0)) : V.heap[b]? = some o := by
  refine (hg.block b (lt_hp hb) fun e => ?_).trans hb
  obtain ⟨_, _, cs, hc⟩ := own_blockK h e.symm
  rw [hb] at hc
  injection hc with hc
  exact ho cs hc
theorem grown_loK {w W V : World} {B t k n : Nat} {v : Value} {xs : List Value} (lo : Below B w W) (h : W.ownsRow B t k v n xs) (hB : B ≤ W.heap.size) (hg : W.grownBy V v.ownBlock) : Below B w V :=
  lo.grown hg hB fun _q e => (own_blockK h e).1
/-- Three boxes: the place, the answer, what is put together. -/
structure CW (w : World) (r p : Nat) (pv a b : Value) (W : World) : Prop where
  lo : Below w.heap.size w W
  hr : w.heap.size < r
  hp : w.heap.size < p
  ne : r ≠ p
  e : W.heap[w.heap.size]? = some (.cells #[pv] 33)
  r_ : W.heap[r]? = some (.cells #[.slice none 0 0, .slice none 0 0] 29)
  p_ : W.heap[p]? = some (.cells #[a, b] 29)
theorem CW.next {w : World} {r p : Nat} {pv a b : Value} {W V : World} (h : CW w r p pv a b W) (hb : Below W.heap.size W V) : CW w r p pv a b V :=
  ⟨h.lo.trans (hb.mono h.lo.size), h.hr, h.hp, h.ne, hp_next h.e hb, hp_next h.r_ hb, hp_next h.p_ hb⟩
theorem CW.grown {w : World} {r p : Nat} {pv a b : Value} {W V : World} {t k n : Nat} {v : Value} {xs : List Value} (h : CW w r p pv a b W) (ho : W.ownsRow w.heap.size t k v n xs) (hg : W.grownBy V v.ownBlock) (h1 : t ≠ 33) (h2 : t ≠ 29) : CW w r p pv a b V :=
  ⟨grown_loK h.lo ho h.lo.size hg, h.hr, h.hp, h.ne, grown_ty ho hg h.e (fun cs e => by injection e with _ e; exact h1 e.symm), grown_ty ho hg h.r_ (fun cs e => by injection e with _ e; exact h2 e.symm), grown_ty ho hg h.p_ (fun cs e => by injection e with _ e; exact h2 e.symm)⟩
theorem CW.setF {w : World} {r p : Nat} {pv a b : Value} {W : World} (h : CW w r p pv a b W) (u : Value) : CW w r p pv u b (W.setCell ⟨p, 0, none⟩ u) :=
  ⟨below_set h.lo _ _ (Nat.le_of_lt h.hp) _, h.hr, h.hp, h.ne, (set_other _ _ _ _ _ (Nat.ne_of_lt h.hp)).trans h.e, (set_other _ _ _ _ _ h.ne).trans h.r_, set_at _ h.p_⟩
theorem CW.setN {w : World} {r p : Nat} {pv a b : Value} {W : World} (h : CW w r p pv a b W) (u : Value) : CW w r p pv a u (W.setCell ⟨p, 1, none⟩ u) :=
  ⟨below_set h.lo _ _ (Nat.le_of_lt h.hp) _, h.hr, h.hp, h.ne, (set_other _ _ _ _ _ (Nat.ne_of_lt h.hp)).trans h.e, (set_other _ _ _ _ _ h.ne).trans h.r_, set_at _ h.p_⟩
theorem own_setW {W : World} {B t k n : Nat} {v : Value} {xs : List Value} (h : W.ownsRow B t k v n xs) {q i : Nat} {u : Value} {cs : Array Value} (hq : W.heap[q]? = some (.cells cs 29)) (ht : t ≠ 29) : (W.setCell ⟨q, i, none⟩ u).ownsRow B t k v n xs :=
  own_keepK h fun g cs2 hg => set_other _ _ _ _ _ fun e => by
    rw [e, hq] at hg
    injection hg with hg
    injection hg with _ hg
    exact ht hg.symm
theorem own_grownK {W V : World} {B t k n : Nat} {v : Value} {xs : List Value} (h : W.ownsRow B t k v n xs) {B2 t2 k2 n2 : Nat} {v2 : Value} {xs2 : List Value} (ho : W.ownsRow B2 t2 k2 v2 n2 xs2) (hg : W.grownBy V v2.ownBlock) (ht : t ≠ t2) : V.ownsRow B t k v n xs :=
  own_keepK h fun g cs hc => (grown_ty ho hg hc (fun cs2 e => by injection e with _ e; exact ht e)).trans hc.symm
def HcEnd (l : List Fl) (w : World) (e : Ending) (w' : World) : Prop := ∃ a b Z ns, e = .returned (.agg #[a, b]) ∧ HcIs l Z ns ∧ G.OwnF w.heap.size w' a Z ∧ OwnN w.heap.size w' b ns ∧ Below w.heap.size w w'
theorem own_nilF (W : World) (B : Nat) : G.OwnF B W (.slice none 0 0) [] := ⟨rfl, .inl ⟨rfl, rfl⟩⟩
theorem own_nilN (W : World) (B : Nat) : OwnN B W (.slice none 0 0) [] := ⟨rfl, .inl ⟨rfl, rfl⟩⟩
theorem nms_next {l : List Fl} {j : Nat} (h : j < l.length) : nms (l.take (j + 1)) = nms (l.take j) ++ [(l.getD j fl0).name] := by
  rw [take_next h]
  simp [nms]
theorem moreN {B : Nat} {W : World} {v : Value} {ns : List ByteArray} {t : ByteArray} {n : Nat} (h : W.ownsRow B 9 1 v (n + 1) ((ns.map fun t => Value.string t) ++ [.string t])) (hn : n = ns.length) : OwnN B W v (ns ++ [t]) := by
  unfold OwnN
  rw [List.map_append, List.length_append, ← hn]
  exact h
theorem str_info : (Try.prog.info? 9).map (fun i => (i.zero, i.size, i.bytes)) = some (some (.string ⟨#[]⟩), 1, 16) := by kernel_rfl
theorem lit_str (W : World) (t : ByteArray) : ∀ j u, ([.string t] : List Value)[j]? = some u → (W.alloc (.cells #[.string t] 9)).cell? ((⟨W.heap.size, 0, none⟩ : Addr).add j) = some u := fun j u hj => by
  rw [R.add_at, row_cell (heap_alloc_new W _) j]
  simpa using hj
theorem one_str (t : ByteArray) : ∀ u ∈ ([.string t] : List Value), u.oneCell' = true := fun u hu => by
  simp only [List.mem_cons, List.not_mem_nil, or_false] at hu
  subst hu
  rfl
end Go.Proofs.Ytpcfhbbialgcfaa.P
