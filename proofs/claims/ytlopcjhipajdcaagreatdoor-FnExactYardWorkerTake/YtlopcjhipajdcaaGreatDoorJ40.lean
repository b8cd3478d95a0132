import Derived.Laws.AppendOwnNone
import Derived.Deep.MidRow
import Derived.Laws.CopyOwn
import Derived.Test.YtlopcjhipajdcaaGreatDoorJ12
import Derived.Test.YtlopcjhipajdcaaGreatDoorJ34
/-! Appending rows; boxes written in ranges. Printed by gen_yrow.py. -/
namespace Go.Proofs.YtlopcjhipajdcaaGreatDoor.Y
open Go.RowKit R
open Go.Proofs.YtlopcjhipajdcaaGreatDoor.J (FileOk BegOk RepOk ltB Says says_t says_f)
set_option maxRecDepth 20000
theorem Ap.symm {u v : Value} (h : Ap u v) : Ap v u := fun g e e2 => h g e2 e
theorem own_set {W : World} {B t k n : Nat} {v : Value} {xs : List Value} (h : W.ownsRow B t k v n xs) {b : Nat} (hb : b < B) (i : Nat) (u : Value) : (W.setCell ⟨b, i, none⟩ u).ownsRow B t k v n xs := by
  obtain ⟨h1, h2 | ⟨g, cap, cur, a, hB, c, d⟩⟩ := h
  · exact ⟨h1, .inl h2⟩
  · exact ⟨h1, .inr ⟨g, cap, cur, a, hB, (set_other _ _ _ _ _ (by omega)).trans c, d⟩⟩
theorem own_hp {W V : World} {B t k n : Nat} {v : Value} {xs : List Value} (h : W.ownsRow B t k v n xs) (hk : ∀ i, B ≤ i → i < W.heap.size → V.heap[i]? = W.heap[i]?) : V.ownsRow B t k v n xs := by
  obtain ⟨h1, h2 | ⟨g, cap, cur, a, hB, c, d⟩⟩ := h
  · exact ⟨h1, .inl h2⟩
  · exact ⟨h1, .inr ⟨g, cap, cur, a, hB, (hk g hB (lt_hp c)).trans c, d⟩⟩
theorem setCells_other (b k : Nat) (h : k ≠ b) : ∀ (vs : List Value) (o : Nat) (W : World), (W.setCells b o vs).heap[k]? = W.heap[k]?
  | [], _, _ => rfl
  | v :: r, o, W => by rw [World.setCells, setCells_other b k h r, set_other _ _ _ _ _ h]
theorem setCells_below {B b : Nat} (hB : B ≤ b) : ∀ (vs : List Value) (o : Nat) (w W : World), Below B w W → Below B w (W.setCells b o vs)
  | [], _, _, _, h => h
  | v :: r, o, w, W, h => by rw [World.setCells]; exact setCells_below hB r _ _ _ (below_set h _ _ hB _)
theorem setCells_heap (b : Nat) (t : TypeId) (post : List Value) : ∀ (new pre old : List Value) (W : World), old.length = new.length → W.heap[b]? = some (.cells (pre ++ (old ++ post)).toArray t (0, 0)) → (W.setCells b pre.length new).heap[b]? = some (.cells (pre ++ (new ++ post)).toArray t (0, 0))
  | [], pre, [], W, _, h => h
  | [], _, _ :: _, _, e, _ => by simp at e
  | _ :: _, _, [], _, e, _ => by simp at e
  | v :: r, pre, x :: old, W, e, h => by
    rw [World.setCells]
    have h2 : (W.setCell ⟨b, pre.length, none⟩ v).heap[b]? = some (.cells ((pre ++ [v]) ++ (old ++ post)).toArray t (0, 0)) := by
      rw [set_at v h]
      congr 2
      apply Array.toList_inj.1
      simp
    have h3 := setCells_heap b t post r (pre ++ [v]) old (W.setCell ⟨b, pre.length, none⟩ v) (by simpa using e) h2
    simpa using h3
theorem setCells_own {W : World} {B t k n : Nat} {v : Value} {xs : List Value} (h : W.ownsRow B t k v n xs) {b : Nat} (hb : b < B) (o : Nat) (vs : List Value) : (W.setCells b o vs).ownsRow B t k v n xs := own_hp h fun i hi _ => setCells_other b i (by omega) vs o W
theorem setRow_own {W : World} {B t k n : Nat} {v : Value} {xs : List Value} (h : W.ownsRow B t k v n xs) {b : Nat} (hb : b < B) (cs : Array Value) : (W.setRow b cs).ownsRow B t k v n xs := own_hp h fun i hi _ => setRow_other W b i cs (by omega)
/-- What came in, and what is answered: two boxes. -/
structure Q2 (w : World) (C R : Array Value) (t : TypeId) (W : World) : Prop where
  lo : Below w.heap.size w W
  e : W.heap[w.heap.size]? = some (.cells C t (0, 0))
  r : W.heap[w.heap.size + 1]? = some (.cells R t (0, 0))
theorem Q2.start (w : World) (C R : Array Value) (t : TypeId) : Q2 w C R t ((w.alloc (.cells C t)).alloc (.cells R t)) := by
  have h := B2.start w (.cells C t) (.cells R t)
  exact ⟨h.lo, h.e, h.f⟩
theorem Q2.next {w W V : World} {C R : Array Value} {t : TypeId} (h : Q2 w C R t W) (hb : Below W.heap.size W V) : Q2 w C R t V := ⟨h.lo.trans (hb.mono h.lo.size), hp_next h.e hb, hp_next h.r hb⟩
theorem Q2.sz {w W : World} {C R : Array Value} {t : TypeId} (h : Q2 w C R t W) : w.heap.size + 2 ≤ W.heap.size := lt_hp h.r
theorem Q2.set {w W : World} {C R : Array Value} {t : TypeId} (h : Q2 w C R t W) (i : Nat) (v : Value) : Q2 w (C.setIfInBounds i v) R t (W.setCell ⟨w.heap.size, i, none⟩ v) := ⟨below_set h.lo _ _ (Nat.le_refl _) _, set_at v h.e, (set_other _ _ _ _ _ (by omega)).trans h.r⟩
theorem Q2.cast {w W : World} {C C' R : Array Value} {t : TypeId} (h : Q2 w C R t W) (e : C = C') : Q2 w C' R t W := e ▸ h
theorem Q2.mid {w W : World} {pre old new post : List Value} {R : Array Value} {t : TypeId} (h : Q2 w (pre ++ (old ++ post)).toArray R t W) (e : old.length = new.length) : Q2 w (pre ++ (new ++ post)).toArray R t (W.setCells w.heap.size pre.length new) :=
  ⟨setCells_below (Nat.le_refl _) _ _ _ _ h.lo, setCells_heap _ _ _ _ _ _ _ e h.e, (setCells_other _ _ (by omega) _ _ _).trans h.r⟩
/-- A row of one's own grows: the boxes stay. -/
theorem Q2.grown {w W V : World} {C R : Array Value} {t : TypeId} {B u k n : Nat} {v : Value} {xs : List Value} (h : Q2 w C R t W) (ho : W.ownsRow B u k v n xs) (hB : w.heap.size + 2 ≤ B) (hW : B ≤ W.heap.size) (hg : W.grownBy V v.ownBlock) : Q2 w C R t V :=
  have hb : Below B W V := (Below.refl _ _).grown hg hW fun _q e => (own_blockK ho e).1
  ⟨h.lo.trans (hb.mono (by omega)), (hb.block _ (by omega)).trans h.e, (hb.block _ (by omega)).trans h.r⟩
theorem partsStr : ∃ i, Tryz.prog.info? 9 = some i ∧ i.zero = some (.string ⟨#[]⟩) ∧ i.size = 1 ∧ i.bytes = 16 := by
  have h : (Tryz.prog.info? 9).map (fun i => (i.zero, i.size, i.bytes)) = some (some (.string ⟨#[]⟩), 1, 16) := by kernel_rfl
  obtain ⟨i0, hi, hz0, hz1, hz2⟩ := info_parts h
  exact ⟨i0, hi, hz0, hz1, hz2⟩
theorem run_append_noStr (w : World) (base : Nat) (ty : TypeId) (i : TypeInfo) (hi : Tryz.prog.info? 9 = some i) (v : Value) (n c : Nat) (xs : List Value) (hown : w.ownsRow base 9 1 v n xs) (ad : Option Addr) :
    (Builtin.append_ #[22, 22] ty #[v, .slice ad 0 c]).run Tryz.prog w = .ok v w := by
  rcases hown.2 with ⟨rfl, rfl⟩ | ⟨g, cap, cur, rfl, _, _, hnc, _⟩ <;> cases ad
  · simp [Builtin.append_, run_underlying Tryz.underlying22, sizeOf, typeInfo, hi, Builtin.lenOf, Builtin.firstCells]
  · simp [Builtin.append_, run_underlying Tryz.underlying22, sizeOf, typeInfo, hi, Builtin.lenOf, Builtin.firstCells, loadCells, loadCellsFrom]
  · simp [Builtin.append_, run_underlying Tryz.underlying22, sizeOf, typeInfo, hi, Builtin.lenOf, Builtin.firstCells, hnc, storeCells]
  · simp [Builtin.append_, run_underlying Tryz.underlying22, sizeOf, typeInfo, hi, Builtin.lenOf, Builtin.firstCells, hnc, storeCells, loadCells, loadCellsFrom]
theorem wpList_appStr {w : World} {ops : Array Oper} {rest : List Oper} {o : Oper} {a : Act} {Q : Exit → Act → World → Prop} (hgd : o.guard = none) (s x : Operand)
    (ho : o.op = .call { callee := .builtin .append, args := #[s, x], argTypes := #[22, 22] })
    (base : Nat) (v : Value) (n : Nat) (xs : List Value) (hs : a.eval s = v) (hown : w.ownsRow base 9 1 v n xs) (xv : Value) (l : List ByteArray) (hx : a.eval x = xv) (hrow : RdStr w xv l)
    (h63 : n + l.length ≤ 3000000) (hbase : base ≤ w.heap.size)
    (h : ∀ v' w', w'.ownsRow base 9 1 v' (n + l.length) (xs ++ cStr l) → w.grownBy w' v.ownBlock → wpList Tryz.prog ops Q rest (a.put o.dst v') w') :
    wpList Tryz.prog ops Q (o :: rest) a w := by
  obtain ⟨i0, hi, hz0, hz1, hz2⟩ := partsStr
  obtain ⟨ad, c, rfl, hl⟩ := hrow
  rcases hl with e | ⟨g, rfl, ha, hc⟩
  · subst e
    refine wpList_plain hgd fun K hK => ?_
    have hrun := run_append_noStr w base o.type i0 hi v n c xs hown ad
    unfold Oper.wp
    simp [execOp, ho, resolve, invoke, builtin, hs, hx, hrun, Result.andThen]
    exact hK _ _ (h v w (by simpa [cStr] using hown) ⟨rfl, rfl, rfl, Nat.le_refl _, fun _ _ _ => rfl⟩)
  · refine wpList_append_own _ hgd s x 22 ho base 9 i0 (.string ⟨#[]⟩) 1 16 Tryz.underlying22 hi hz0 hz1 hz2 rfl (by decide) v n xs hs hown ⟨g, 0, none⟩ l.length c (cStr l) hx (cStr_len l) ?_ ?_ (by unfold maxLen; omega) (by omega) hbase (fun v' w' h1 h2 _ => h v' w' h1 h2)
    · intro j u hj
      have hlt : j < l.length * 1 := by
        have := (List.getElem?_eq_some_iff.1 hj).1
        rw [cStr_len] at this
        exact this
      rw [add_at]
      have h9 := cStr_get l j (by omega)
      have h8 := hc j (by omega)
      rw [h9] at hj
      injection hj with hj
      rw [← hj]
      exact h8
    · intro u hu
      obtain ⟨j, hj, e⟩ := List.mem_iff_getElem.1 hu
      have hj2 : j < l.length * 1 := by rw [← cStr_len]; exact hj
      have hj3 : (cStr l)[j]? = some u := by rw [List.getElem?_eq_getElem hj, e]
      have h9 := cStr_get l j (by omega)
      rw [h9] at hj3
      injection hj3 with hj3
      rw [← hj3]
      rfl
theorem partsFl : ∃ i, Tryz.prog.info? 114 = some i ∧ i.zero = some (.agg #[.string ⟨#[]⟩, .string ⟨#[]⟩]) ∧ i.size = 2 ∧ i.bytes = 32 := by
  have h : (Tryz.prog.info? 114).map (fun i => (i.zero, i.size, i.bytes)) = some (some (.agg #[.string ⟨#[]⟩, .string ⟨#[]⟩]), 2, 32) := by kernel_rfl
  obtain ⟨i0, hi, hz0, hz1, hz2⟩ := info_parts h
  exact ⟨i0, hi, hz0, hz1, hz2⟩
theorem run_append_noFl (w : World) (base : Nat) (ty : TypeId) (i : TypeInfo) (hi : Tryz.prog.info? 114 = some i) (v : Value) (n c : Nat) (xs : List Value) (hown : w.ownsRow base 114 2 v n xs) (ad : Option Addr) :
    (Builtin.append_ #[37, 37] ty #[v, .slice ad 0 c]).run Tryz.prog w = .ok v w := by
  rcases hown.2 with ⟨rfl, rfl⟩ | ⟨g, cap, cur, rfl, _, _, hnc, _⟩ <;> cases ad
  · simp [Builtin.append_, run_underlying Tryz.underlying37, sizeOf, typeInfo, hi, Builtin.lenOf, Builtin.firstCells]
  · simp [Builtin.append_, run_underlying Tryz.underlying37, sizeOf, typeInfo, hi, Builtin.lenOf, Builtin.firstCells, loadCells, loadCellsFrom]
  · simp [Builtin.append_, run_underlying Tryz.underlying37, sizeOf, typeInfo, hi, Builtin.lenOf, Builtin.firstCells, hnc, storeCells]
  · simp [Builtin.append_, run_underlying Tryz.underlying37, sizeOf, typeInfo, hi, Builtin.lenOf, Builtin.firstCells, hnc, storeCells, loadCells, loadCellsFrom]
theorem wpList_appFl {w : World} {ops : Array Oper} {rest : List Oper} {o : Oper} {a : Act} {Q : Exit → Act → World → Prop} (hgd : o.guard = none) (s x : Operand)
    (ho : o.op = .call { callee := .builtin .append, args := #[s, x], argTypes := #[37, 37] })
    (base : Nat) (v : Value) (n : Nat) (xs : List Value) (hs : a.eval s = v) (hown : w.ownsRow base 114 2 v n xs) (xv : Value) (l : List Fl) (hx : a.eval x = xv) (hrow : RdFl w xv l)
    (h63 : n + l.length ≤ 3000000) (hbase : base ≤ w.heap.size)
    (h : ∀ v' w', w'.ownsRow base 114 2 v' (n + l.length) (xs ++ cFl l) → w.grownBy w' v.ownBlock → wpList Tryz.prog ops Q rest (a.put o.dst v') w') :
    wpList Tryz.prog ops Q (o :: rest) a w := by
  obtain ⟨i0, hi, hz0, hz1, hz2⟩ := partsFl
  obtain ⟨ad, c, rfl, hl⟩ := hrow
  rcases hl with e | ⟨g, rfl, ha, hc⟩
  · subst e
    refine wpList_plain hgd fun K hK => ?_
    have hrun := run_append_noFl w base o.type i0 hi v n c xs hown ad
    unfold Oper.wp
    simp [execOp, ho, resolve, invoke, builtin, hs, hx, hrun, Result.andThen]
    exact hK _ _ (h v w (by simpa [cFl] using hown) ⟨rfl, rfl, rfl, Nat.le_refl _, fun _ _ _ => rfl⟩)
  · refine wpList_append_own _ hgd s x 37 ho base 114 i0 (.agg #[.string ⟨#[]⟩, .string ⟨#[]⟩]) 2 32 Tryz.underlying37 hi hz0 hz1 hz2 rfl (by decide) v n xs hs hown ⟨g, 0, none⟩ l.length c (cFl l) hx (cFl_len l) ?_ ?_ (by unfold maxLen; omega) (by omega) hbase (fun v' w' h1 h2 _ => h v' w' h1 h2)
    · intro j u hj
      have hlt : j < l.length * 2 := by
        have := (List.getElem?_eq_some_iff.1 hj).1
        rw [cFl_len] at this
        exact this
      rw [add_at]
      obtain ⟨i, hi2, ej⟩ : ∃ i, i < l.length ∧ (j = i * 2 ∨ j = i * 2 + 1) := ⟨j / 2, by omega, by omega⟩
      have h9 := cFl_get l i hi2
      have h8 := hc i hi2
      rcases ej with rfl | rfl
      · rw [h9.1] at hj
        injection hj with hj
        rw [← hj]
        exact h8.1
      · rw [h9.2] at hj
        injection hj with hj
        rw [← hj]
        exact h8.2
    · intro u hu
      obtain ⟨j, hj, e⟩ := List.mem_iff_getElem.1 hu
      have hj2 : j < l.length * 2 := by rw [← cFl_len]; exact hj
      have hj3 : (cFl l)[j]? = some u := by rw [List.getElem?_eq_getElem hj, e]
      obtain ⟨i, hi2, ej⟩ : ∃ i, i < l.length ∧ (j = i * 2 ∨ j = i * 2 + 1) := ⟨j / 2, by omega, by omega⟩
      have h9 := cFl_get l i hi2
      rcases ej with rfl | rfl
      · rw [h9.1] at hj3
        injection hj3 with hj3
        rw [← hj3]
        rfl
      · rw [h9.2] at hj3
        injection hj3 with hj3
        rw [← hj3]
        rfl
theorem partsSn : ∃ i, Tryz.prog.info? 88 = some i ∧ i.zero = some (.agg #[.int .i64 0, .string ⟨#[]⟩, .int .i64 0, .string ⟨#[]⟩]) ∧ i.size = 4 ∧ i.bytes = 48 := by
  have h : (Tryz.prog.info? 88).map (fun i => (i.zero, i.size, i.bytes)) = some (some (.agg #[.int .i64 0, .string ⟨#[]⟩, .int .i64 0, .string ⟨#[]⟩]), 4, 48) := by kernel_rfl
  obtain ⟨i0, hi, hz0, hz1, hz2⟩ := info_parts h
  exact ⟨i0, hi, hz0, hz1, hz2⟩
theorem run_append_noSn (w : World) (base : Nat) (ty : TypeId) (i : TypeInfo) (hi : Tryz.prog.info? 88 = some i) (v : Value) (n c : Nat) (xs : List Value) (hown : w.ownsRow base 88 4 v n xs) (ad : Option Addr) :
    (Builtin.append_ #[36, 36] ty #[v, .slice ad 0 c]).run Tryz.prog w = .ok v w := by
  rcases hown.2 with ⟨rfl, rfl⟩ | ⟨g, cap, cur, rfl, _, _, hnc, _⟩ <;> cases ad
  · simp [Builtin.append_, run_underlying Tryz.underlying36, sizeOf, typeInfo, hi, Builtin.lenOf, Builtin.firstCells]
  · simp [Builtin.append_, run_underlying Tryz.underlying36, sizeOf, typeInfo, hi, Builtin.lenOf, Builtin.firstCells, loadCells, loadCellsFrom]
  · simp [Builtin.append_, run_underlying Tryz.underlying36, sizeOf, typeInfo, hi, Builtin.lenOf, Builtin.firstCells, hnc, storeCells]
  · simp [Builtin.append_, run_underlying Tryz.underlying36, sizeOf, typeInfo, hi, Builtin.lenOf, Builtin.firstCells, hnc, storeCells, loadCells, loadCellsFrom]
theorem wpList_appSn {w : World} {ops : Array Oper} {rest : List Oper} {o : Oper} {a : Act} {Q : Exit → Act → World → Prop} (hgd : o.guard = none) (s x : Operand)
    (ho : o.op = .call { callee := .builtin .append, args := #[s, x], argTypes := #[36, 36] })
    (base : Nat) (v : Value) (n : Nat) (xs : List Value) (hs : a.eval s = v) (hown : w.ownsRow base 88 4 v n xs) (xv : Value) (l : List Sn) (hx : a.eval x = xv) (hrow : RdSn w xv l)
    (h63 : n + l.length ≤ 3000000) (hbase : base ≤ w.heap.size)
    (h : ∀ v' w', w'.ownsRow base 88 4 v' (n + l.length) (xs ++ cSn l) → w.grownBy w' v.ownBlock → wpList Tryz.prog ops Q rest (a.put o.dst v') w') :
    wpList Tryz.prog ops Q (o :: rest) a w := by
  obtain ⟨i0, hi, hz0, hz1, hz2⟩ := partsSn
  obtain ⟨ad, c, rfl, hl⟩ := hrow
  rcases hl with e | ⟨g, rfl, ha, hc⟩
  · subst e
    refine wpList_plain hgd fun K hK => ?_
    have hrun := run_append_noSn w base o.type i0 hi v n c xs hown ad
    unfold Oper.wp
    simp [execOp, ho, resolve, invoke, builtin, hs, hx, hrun, Result.andThen]
    exact hK _ _ (h v w (by simpa [cSn] using hown) ⟨rfl, rfl, rfl, Nat.le_refl _, fun _ _ _ => rfl⟩)
  · refine wpList_append_own _ hgd s x 36 ho base 88 i0 (.agg #[.int .i64 0, .string ⟨#[]⟩, .int .i64 0, .string ⟨#[]⟩]) 4 48 Tryz.underlying36 hi hz0 hz1 hz2 rfl (by decide) v n xs hs hown ⟨g, 0, none⟩ l.length c (cSn l) hx (cSn_len l) ?_ ?_ (by unfold maxLen; omega) (by omega) hbase (fun v' w' h1 h2 _ => h v' w' h1 h2)
    · intro j u hj
      have hlt : j < l.length * 4 := by
        have := (List.getElem?_eq_some_iff.1 hj).1
        rw [cSn_len] at this
        exact this
      rw [add_at]
      obtain ⟨i, hi2, ej⟩ : ∃ i, i < l.length ∧ (j = i * 4 ∨ j = i * 4 + 1 ∨ j = i * 4 + 2 ∨ j = i * 4 + 3) := ⟨j / 4, by omega, by omega⟩
      have h9 := cSn_get l i hi2
      have h8 := hc i hi2
      rcases ej with rfl | rfl | rfl | rfl
      · rw [h9.1] at hj
        injection hj with hj
        rw [← hj]
        exact h8.1
      · rw [h9.2.1] at hj
        injection hj with hj
        rw [← hj]
        exact h8.2.1
      · rw [h9.2.2.1] at hj
        injection hj with hj
        rw [← hj]
        exact h8.2.2.1
      · rw [h9.2.2.2] at hj
        injection hj with hj
        rw [← hj]
        exact h8.2.2.2
    · intro u hu
      obtain ⟨j, hj, e⟩ := List.mem_iff_getElem.1 hu
      have hj2 : j < l.length * 4 := by rw [← cSn_len]; exact hj
      have hj3 : (cSn l)[j]? = some u := by rw [List.getElem?_eq_getElem hj, e]
      obtain ⟨i, hi2, ej⟩ : ∃ i, i < l.length ∧ (j = i * 4 ∨ j = i * 4 + 1 ∨ j = i * 4 + 2 ∨ j = i * 4 + 3) := ⟨j / 4, by omega, by omega⟩
      have h9 := cSn_get l i hi2
      rcases ej with rfl | rfl | rfl | rfl
      · rw [h9.1] at hj3
        injection hj3 with hj3
        rw [← hj3]
        rfl
      · rw [h9.2.1] at hj3
        injection hj3 with hj3
        rw [← hj3]
        rfl
      · rw [h9.2.2.1] at hj3
        injection hj3 with hj3
        rw [← hj3]
        rfl
      · rw [h9.2.2.2] at hj3
        injection hj3 with hj3
        rw [← hj3]
        rfl
end Go.Proofs.YtlopcjhipajdcaaGreatDoor.Y
