import Derived.Test.YtfookokepnnmoaaDoorJIChunk
import Derived.Test.YtfookokepnnmoaaDoorJIRec
namespace Go.Proofs.YtfookokepnnmoaaDoor
open Go.RowKit Go.Shelf
attribute [local go_sem] Oper.semAt_some
theorem kept_block {W W' : World} {row : Option Nat} {k : Nat} {o : Obj} (hg : W.grownBy W' row) (hr : ∀ r, row = some r → ∃ o : Obj, W.heap[r]? = some o ∧ o.isCells = false) (h : W.heap[k]? = some o) (ho : o.isCells = true) : W'.heap[k]? = some o :=
  (hg.block k (Array.getElem?_eq_some_iff.1 h).1 (fun e => by obtain ⟨o', h1, h2⟩ := hr k e.symm; rw [h] at h1; cases h1; rw [ho] at h2; cases h2)).trans h
theorem kept_row {W W' : World} {row : Option Nat} {B e size k : Nat} {v : Value} {xs : List Value} (hg : W.grownBy W' row) (hr : ∀ r, row = some r → ∃ o : Obj, W.heap[r]? = some o ∧ o.isCells = false) (h : W.ownsRow B e size v k xs) : W'.ownsRow B e size v k xs := by
  obtain ⟨h1, h2 | ⟨g, cap, cur, a, b, c, d⟩⟩ := h
  · exact ⟨h1, .inl h2⟩
  · exact ⟨h1, .inr ⟨g, cap, cur, a, b, kept_block hg hr c rfl, d⟩⟩
theorem kept_below {w W W' : World} {row : Option Nat} {B : Nat} (h : Below B w W) (hB : B ≤ w.heap.size) (hg : W.grownBy W' row) (hr : ∀ r, row = some r → B ≤ r) : Below B w W' :=
  h.grown hg (Nat.le_trans hB h.size) hr
theorem cell_heap {W : World} {k : Nat} {cs : Array Value} {t : TypeId} (h : W.heap[k]? = some (.cells cs t (0, 0))) (i : Nat) : W.cell? ⟨k, i, none⟩ = cs[i]? := cell_of_row W k i cs t (0, 0) h
theorem frozen_heap {W : World} {k : Nat} {cs : Array Value} {t : TypeId} (h : W.heap[k]? = some (.cells cs t (0, 0))) (i : Nat) : W.frozen? ⟨k, i, none⟩ = false := by
  simp [World.frozen?, h]
theorem set_heap {W : World} {k i : Nat} {cs : Array Value} {t : TypeId} (h : W.heap[k]? = some (.cells cs t (0, 0))) (v : Value) : (W.setCell ⟨k, i, none⟩ v).heap[k]? = some (.cells (cs.setIfInBounds i v) t (0, 0)) :=
  heap_setCell_same W k i cs t v h
theorem own_slice {w : World} {B e size k : Nat} {v : Value} {xs : List Value} (h : w.ownsRow B e size v k xs) : ∃ a cap, v = .slice a k cap := by
  obtain ⟨_, ⟨rfl, rfl⟩ | ⟨g, cap, cur, rfl, _⟩⟩ := h
  · exact ⟨none, 0, rfl⟩
  · exact ⟨_, cap, rfl⟩
def dT : Tr := .node 0 0 ⟨#[]⟩ []
/-- The name of a pair. -/
def kx (ks : List Tr) (m x : Nat) : Tr := ks.getD (2 * min x (m - 1)) dT
/-- Pairs whose names are names, ascending. -/
def GoodP (ks : List Tr) (m : Nat) (pre : List Nat) : Prop := (∀ x ∈ pre, (kx ks m x).kind = 4) ∧ ∀ i, i + 1 < pre.length → less (kx ks m (pre.getD i 0)).text.toList (kx ks m (pre.getD (i + 1) 0)).text.toList = true
theorem goodP_nil (ks : List Tr) (m : Nat) : GoodP ks m [] := ⟨by simp, by simp⟩
theorem goodP_snoc {ks : List Tr} {m : Nat} {pre : List Nat} {x : Nat} (h : GoodP ks m pre) (hk : (kx ks m x).kind = 4) (hl : pre.length = 0 ∨ less (kx ks m (pre.getD (pre.length - 1) 0)).text.toList (kx ks m x).text.toList = true) : GoodP ks m (pre ++ [x]) := by
  refine ⟨fun y hy => ?_, fun i hi => ?_⟩
  · rcases List.mem_append.1 hy with hy | hy
    · exact h.1 y hy
    · rw [List.mem_singleton] at hy; subst hy; exact hk
  · rw [List.length_append, List.length_singleton] at hi
    by_cases e : i + 1 < pre.length
    · have := h.2 i e
      rw [List.getD_eq_getElem?_getD, List.getD_eq_getElem?_getD, List.getElem?_append_left (by omega), List.getElem?_append_left e]
      rw [List.getD_eq_getElem?_getD, List.getD_eq_getElem?_getD] at this
      exact this
    · have e2 : i = pre.length - 1 := by omega
      rcases hl with hl | hl
      · omega
      · rw [List.getD_eq_getElem?_getD, List.getD_eq_getElem?_getD, List.getElem?_append_left (by omega), List.getElem?_append_right (by omega), show i + 1 - pre.length = 0 by omega]
        rw [List.getD_eq_getElem?_getD] at hl
        rw [e2]; exact hl
theorem goodP_bad {ks : List Tr} {m : Nat} {pre : List Nat} {x : Nat} (hb : ¬ (kx ks m x).kind = 4 ∨ 0 < pre.length ∧ less (kx ks m (pre.getD (pre.length - 1) 0)).text.toList (kx ks m x).text.toList = false) : ¬ GoodP ks m (pre ++ [x]) := by
  rintro ⟨h1, h2⟩
  rcases hb with hb | ⟨hp, hb⟩
  · exact hb (h1 x (by simp))
  · have := h2 (pre.length - 1) (by simp; omega)
    rw [List.getD_eq_getElem?_getD, List.getD_eq_getElem?_getD, List.getElem?_append_left (by omega), List.getElem?_append_right (by omega), show pre.length - 1 + 1 - pre.length = 0 by omega] at this
    rw [List.getD_eq_getElem?_getD] at hb
    simp only [List.getElem?_cons_zero, Option.getD_some] at this
    rw [hb] at this; cases this
theorem kx_get {ks : List Tr} {m x : Nat} (hk : ks.length = 2 * m) (hx : x < m) : ks[2 * x]? = some (kx ks m x) := by
  unfold kx
  rw [show min x (m - 1) = x by omega, List.getD_eq_getElem?_getD, List.getElem?_eq_getElem (by omega)]; rfl
theorem goodP_all {ks : List Tr} {m : Nat} (hk : ks.length = 2 * m) (h : GoodP ks m (List.range m)) : Fields ks := by
  intro i hi
  refine ⟨⟨_, kx_get hk (by omega), h.1 i (by simp; omega)⟩, fun h0 => ?_⟩
  have := h.2 (i - 1) (by simp; omega)
  refine ⟨_, _, by rw [show 2 * i - 2 = 2 * (i - 1) by omega]; exact kx_get hk (by omega), kx_get hk (by omega), ?_⟩
  rw [show i - 1 + 1 = i by omega] at this
  simp [List.getD_eq_getElem?_getD, List.getElem?_range (show i - 1 < m by omega), List.getElem?_range (show i < m by omega)] at this
  exact this
theorem goodP_pre {ks : List Tr} {m : Nat} (hk : ks.length = 2 * m) (hf : Fields ks) (pre : List Nat) (hp : pre <+: List.range m) : GoodP ks m pre := by
  have hl : pre.length ≤ m := by simpa using hp.length_le
  have hg : ∀ i, i < pre.length → pre[i]? = some i := fun i hi => by
    have := hp.getElem hi
    rw [List.getElem?_eq_getElem hi, this]; simp
  refine ⟨fun x hx => ?_, fun i hi => ?_⟩
  · have hx2 := hp.subset hx
    rw [List.mem_range] at hx2
    obtain ⟨y, hy, hyk⟩ := (hf x (by omega)).1
    rw [kx_get hk hx2] at hy
    cases hy
    exact hyk
  · obtain ⟨y, z, h1, h2, h3⟩ := (hf (i + 1) (by omega)).2 (by omega)
    rw [show 2 * (i + 1) - 2 = 2 * i by omega, kx_get hk (by omega)] at h1
    rw [kx_get hk (by omega)] at h2
    cases h1; cases h2
    rw [List.getD_eq_getElem?_getD, List.getD_eq_getElem?_getD, hg i (by omega), hg (i + 1) hi]
    exact h3
/-- The cells of pairs. -/
def pcell (xs : List Value) (x : Nat) : List Value := [strip (xs.getD (2 * x) .nilIface), xs.getD (2 * x + 1) .nilIface]
def preRow (xs : List Value) (m : Nat) (pre : List Nat) : List Value := pre.flatMap fun x => pcell xs (min x (m - 1))
theorem preRow_snoc (xs : List Value) (m : Nat) (pre : List Nat) (x : Nat) : preRow xs m (pre ++ [x]) = preRow xs m pre ++ pcell xs (min x (m - 1)) := by simp [preRow]
theorem preRow_length (xs : List Value) (m : Nat) (pre : List Nat) : (preRow xs m pre).length = pre.length * 2 := by
  induction pre with
  | nil => rfl
  | cons a l ih => simp [preRow, pcell] at ih ⊢; omega
theorem preRow_last (xs : List Value) (m : Nat) (pre : List Nat) (hp : 0 < pre.length) : (preRow xs m pre)[(pre.length - 1) * 2]? = some (strip (xs.getD (2 * min (pre.getD (pre.length - 1) 0) (m - 1)) .nilIface)) := by
  obtain ⟨l, x, rfl⟩ := (List.eq_nil_or_concat pre).resolve_left (by rintro rfl; cases hp)
  rw [List.concat_eq_append, preRow_snoc, List.length_append, List.length_singleton, Nat.add_sub_cancel, List.getElem?_append_right (by rw [preRow_length]; omega), preRow_length, Nat.sub_self, show (l ++ [x]).getD l.length 0 = x by simp [List.getD_eq_getElem?_getD]]
  rfl
theorem fcells_range : ∀ (m : Nat) (xs : List Value), xs.length = 2 * m → fcells xs = (List.range m).flatMap (pcell xs)
  | 0, xs, h => by
    obtain rfl : xs = [] := List.length_eq_zero_iff.1 (by omega)
    rfl
  | m + 1, xs, h => by
    match xs, h with
    | a :: b :: r, h =>
      have ih := fcells_range m r (by simp at h; omega)
      rw [List.range_succ_eq_map, List.flatMap_cons, List.flatMap_map]
      simp only [fcells, ih]
      show strip a :: b :: _ = [strip a, b] ++ _
      simp only [List.cons_append, List.nil_append]
      congr 2
theorem preRow_all (xs : List Value) (m : Nat) (h : xs.length = 2 * m) : preRow xs m (List.range m) = fcells xs := by
  rw [fcells_range m xs h]
  unfold preRow
  rw [List.flatMap_def, List.flatMap_def]
  congr 1
  refine List.map_congr_left fun x hx => ?_
  rw [List.mem_range] at hx
  rw [show min x (m - 1) = x by omega]
/-- Between two rounds. -/
structure Mid (B : Nat) (w : World) (ks : List Tr) (xs : List Value) (m : Nat) (pre : List Nat) (W : World) : Prop where
  r0 : W.heap[B]? = some (.cells #[.slice none 0 0] 72 (0, 0))
  r1 : W.heap[B + 1]? = some (.cells #[.bool false] 4 (0, 0))
  box : ∃ v, W.heap[B + 2]? = some (.cells #[v] 72 (0, 0)) ∧ W.ownsRow (B + 5) 77 2 v pre.length (preRow xs m pre)
  below : Below B w W
  size : B + 5 ≤ W.heap.size
  good : GoodP ks m pre
/-- A round has left. -/
structure Out (B : Nat) (w : World) (ks : List Tr) (m : Nat) (pre : List Nat) (W : World) : Prop where
  r0 : W.heap[B]? = some (.cells #[.slice none 0 0] 72 (0, 0))
  r1 : W.heap[B + 1]? = some (.cells #[.bool false] 4 (0, 0))
  below : Below B w W
  bad : ¬ GoodP ks m pre
theorem Mid.own (B : Nat) (w : World) (ks : List Tr) (xs : List Value) (m : Nat) (hB : B ≤ w.heap.size) : OwnFrom (B + 5) (fun pre W => Mid B w ks xs m pre W) := fun pre W W' row hs hg hr => by
  have hr2 := fun r e => (hr r e).2
  obtain ⟨v, hv, ho⟩ := hs.box
  exact ⟨kept_block hg hr2 hs.r0 rfl, kept_block hg hr2 hs.r1 rfl, ⟨v, kept_block hg hr2 hv rfl, kept_row hg hr2 ho⟩, kept_below hs.below hB hg (fun r e => by have := (hr r e).1; omega), Nat.le_trans hs.size hg.size, hs.good⟩
theorem Out.own (B : Nat) (w : World) (ks : List Tr) (m : Nat) (hB : B ≤ w.heap.size) : OwnFrom (B + 5) (fun pre W => Out B w ks m pre W) := fun pre W W' row hs hg hr => by
  have hr2 := fun r e => (hr r e).2
  exact ⟨kept_block hg hr2 hs.r0 rfl, kept_block hg hr2 hs.r1 rfl, kept_below hs.below hB hg (fun r e => by have := (hr r e).1; omega), hs.bad⟩
theorem info_fd : (Tryd.prog.info? 77).map (fun i => (i.zero, i.size, i.bytes)) = some (some (.agg #[.string ⟨#[]⟩, .nilIface]), 2, 32) := by kernel_rfl
theorem kind_or {S : Nat → Prop} {W : World} {t : Tr} {v : Value} (h : IsTh S W t v) : t.kind = 4 ∧ v = .iface 65 (.string t.text) ∨ ¬ t.kind = 4 ∧ ∃ T y, v = .iface T y ∧ ¬ T = 65 := by
  obtain ⟨k, n, tx, ks⟩ := t
  simp only [IsTh, Tr.kind, Tr.text] at h ⊢
  rcases h with ⟨rfl, rfl⟩ | ⟨rfl, rfl⟩ | ⟨rfl, rfl⟩ | ⟨rfl, rfl⟩ | ⟨rfl, ad, cap, xs, rfl, _⟩ | ⟨rfl, ad, m, cap, xs, rfl, _⟩
  · exact .inr ⟨by decide, _, _, rfl, by decide⟩
  · exact .inr ⟨by decide, _, _, rfl, by decide⟩
  · exact .inr ⟨by decide, _, _, rfl, by decide⟩
  · exact .inl ⟨rfl, rfl⟩
  · exact .inr ⟨by decide, _, _, rfl, by decide⟩
  · exact .inr ⟨by decide, _, _, rfl, by decide⟩
theorem ta_text (s : ByteArray) (W : World) : (Instr.typeAssert (.iface 65 (.string s)) 45 65 true).run Tryd.prog W = .ok (.tuple #[.string s, .bool true]) W := by kernel_rfl
theorem ta_other (T : TypeId) (v : Value) (hT : ¬ T = 65) (W : World) : (Instr.typeAssert (.iface T v) 45 65 true).run Tryd.prog W = .ok (.tuple #[.string ⟨#[]⟩, .bool false]) W := by
  simp only [Instr.typeAssert, Sem.run_bind, run_underlying Tryd.underlying65, Result.andThen]
  rw [if_neg hT]
  kernel_rfl
theorem isTh_iface {S : Nat → Prop} {W : World} {t : Tr} {v : Value} (h : IsTh S W t v) : ∃ T y, v = .iface T y := by
  obtain ⟨k, n, tx, ks⟩ := t
  simp only [IsTh] at h
  rcases h with ⟨_, rfl⟩ | ⟨_, rfl⟩ | ⟨_, rfl⟩ | ⟨_, rfl⟩ | ⟨_, ad, cap, xs, rfl, _⟩ | ⟨_, ad, m, cap, xs, rfl, _⟩ <;> exact ⟨_, _, rfl⟩
/-- The name that was put last. -/
theorem last_name {S : Nat → Prop} {w : World} {ks : List Tr} {xs : List Value} {m : Nat} {pre : List Nat} (hk : IsThs S w ks xs) (hks : ks.length = 2 * m) (hm : 0 < m) (hg : GoodP ks m pre) (hp : 0 < pre.length) :
    strip (xs.getD (2 * min (pre.getD (pre.length - 1) 0) (m - 1)) .nilIface) = .string (kx ks m (pre.getD (pre.length - 1) 0)).text := by
  obtain ⟨z, hz⟩ : ∃ z, pre.getD (pre.length - 1) 0 = z := ⟨_, rfl⟩
  rw [hz]
  have hmem : z ∈ pre := by
    rw [← hz, List.getD_eq_getElem?_getD, List.getElem?_eq_getElem (by omega)]
    exact List.getElem_mem _
  have hkz := hg.1 z hmem
  obtain ⟨y, hy⟩ : ∃ y, min z (m - 1) = y := ⟨_, rfl⟩
  have hy0 : 2 * y < ks.length := by omega
  obtain ⟨v, hv, hth⟩ := isThs_get hk (2 * y) hy0
  have e : kx ks m z = ks[2 * y] := by unfold kx; rw [hy, List.getD_eq_getElem?_getD, List.getElem?_eq_getElem hy0]; rfl
  rw [e] at hkz ⊢
  rw [hy, List.getD_eq_getElem?_getD, hv]
  rcases kind_or hth with ⟨_, rfl⟩ | ⟨h, _⟩
  · rfl
  · exact absurd hkz h
theorem own_row_cell {W : World} {B e size k : Nat} {ad : Option Addr} {c : Nat} {xs : List Value} (h : W.ownsRow B e size (.slice ad k c) k xs) (hk : 0 < k) : ∃ g, ad = some ⟨g, 0, none⟩ ∧ B ≤ g ∧ k ≤ c ∧ c ≤ maxLen ∧ ∀ i v, xs[i]? = some v → W.cell? ⟨g, i, none⟩ = some v := by
  obtain ⟨h1, ⟨h2, h3⟩ | ⟨g, cap, cur, h2, h3, h4, h5, h6, h7, h8⟩⟩ := h
  · omega
  · injection h2 with a b c
    subst a c
    refine ⟨g, rfl, h3, h5, h6, fun i v hi => ?_⟩
    have hl := (List.getElem?_eq_some_iff.1 hi).1
    have e1 : W.cell? ⟨g, i, none⟩ = cur[i]? := by unfold World.cell?; rw [h4]; rfl
    rw [e1, ← hi, ← h8, List.getElem?_take_of_lt (by omega)]; simp
/-- What 'return nil, false' does in a round. -/
theorem out_set {B : Nat} {w W : World} {ks : List Tr} {xs : List Value} {m : Nat} {pre pre' : List Nat} (hm : Mid B w ks xs m pre W) (hb : ¬ GoodP ks m pre') :
    KeepsOthers W ((W.setCell ⟨B, 0, none⟩ (.slice none 0 0)).setCell ⟨B + 1, 0, none⟩ (.bool false)) ∧ Out B w ks m pre' ((W.setCell ⟨B, 0, none⟩ (.slice none 0 0)).setCell ⟨B + 1, 0, none⟩ (.bool false)) := by
  refine ⟨(KeepsOthers.setCell _ _ _).trans (KeepsOthers.setCell _ _ _), ?_, ?_, ?_, hb⟩
  · rw [Below.heap_setCell _ _ _ _ (show B ≠ B + 1 by omega)]
    exact set_heap hm.r0 _
  · have h0 : (W.setCell ⟨B, 0, none⟩ (.slice none 0 0)).heap[B + 1]? = some (.cells #[.bool false] 4 (0, 0)) := by
      rw [Below.heap_setCell _ _ _ _ (show B + 1 ≠ B by omega)]; exact hm.r1
    exact set_heap h0 _
  · exact (hm.below.setCell (p := ⟨B, 0, none⟩) (Nat.le_refl _) _).setCell (p := ⟨B + 1, 0, none⟩) (Nat.le_succ _) _
theorem stepIn_append {F : Fence} {n : Nat} {P : Program} {ops : Array Oper} {o : Oper} {a : Act} {w w' : World} {K : Act → World → Prop} {Q : Exit → Act → World → Prop} {E : Prop} (hF : ∀ f, F.fn f) (hg : o.guard = none) (s x : Operand) (t : TypeId)
    (hop : o.op = Op.call { callee := Callee.builtin Builtin.append, args := #[s, x], argTypes := #[t, t] }) {vs vx v' : Value} (hs : a.eval s = vs) (hx : a.eval x = vx) (hr : (Builtin.append_ #[t, t] o.type #[vs, vx]).run P w = .ok v' w') (h : K (a.put o.dst v') w') :
    if Region.wanted o (yielded ops a.tmps) = true then Oper.wpIn F n P o a w K Q else E := by
  have hw : Region.wanted o (yielded ops a.tmps) = true := by simp [Region.wanted, hg]
  rw [if_pos hw]
  refine ⟨fun f _ => hF f, ?_⟩
  have e : (o.semAt F.round a.eval).run P w = .ok (.value v') w' := by
    unfold Oper.semAt
    cases F.round <;> simp [execOp, hop, resolve, invoke, builtin, hs, hx, hr, Result.andThen]
  rw [e]
  exact h
theorem cell_two_new (w : World) (a b : Value) (t : TypeId) : ∀ j u, [a, b][j]? = some u → (w.alloc (.cells #[a, b] t)).cell? ((⟨w.heap.size, 0, none⟩ : Addr).add j) = some u := by
  intro j u hj
  have e1 : ((⟨w.heap.size, 0, none⟩ : Addr).add j) = ⟨w.heap.size, j, none⟩ := by unfold Addr.add; simp; intro h; exact h.symm
  rw [e1, cell_new_row, ← hj]; simp
/-- What 'fields = append(fields, ..)' does in a round. -/
theorem mid_app {B : Nat} {w W w1 : World} {ks : List Tr} {xs : List Value} {m x : Nat} {pre : List Nat} {v v' : Value} {X : Obj} {pc : List Value} (hm : Mid B w ks xs m pre W) (hv : W.heap[B + 2]? = some (.cells #[v] 72 (0, 0))) (ho : W.ownsRow (B + 5) 77 2 v pre.length (preRow xs m pre))
    (hpc : pcell xs (min x (m - 1)) = pc) (hown' : w1.ownsRow (B + 5) 77 2 v' (pre.length + 1) (preRow xs m pre ++ pc)) (hgrow : (W.alloc X).grownBy w1 v.ownBlock) (hgp : GoodP ks m (pre ++ [x])) :
    w1.heap[B + 2]? = some (.cells #[v] 72 (0, 0)) ∧ KeepsOthers W (w1.setCell ⟨B + 2, 0, none⟩ v') ∧ Kc B (B + 3) W (w1.setCell ⟨B + 2, 0, none⟩ v') ∧ Mid B w ks xs m (pre ++ [x]) (w1.setCell ⟨B + 2, 0, none⟩ v') := by
  have hs := hm.size
  have hlow : ∀ k, k < B + 5 → w1.heap[k]? = W.heap[k]? := fun k hk =>
    (hgrow.block k (by simp; omega) (fun e => by have := (ho.lt k e.symm).1; omega)).trans (Below.heap_alloc W X k (by omega))
  have hset : ∀ k, k ≠ B + 2 → (w1.setCell ⟨B + 2, 0, none⟩ v').heap[k]? = w1.heap[k]? := fun k hk => Below.heap_setCell w1 ⟨B + 2, 0, none⟩ v' k hk
  have hbox1 : Boxed w1 (B + 2) 72 v := (hlow (B + 2) (by omega)).trans hv
  have hko : KeepsOthers W (w1.setCell ⟨B + 2, 0, none⟩ v') := by
    refine ((KeepsOthers.alloc W X).trans (KeepsOthers.of_grownBy hgrow fun j o ej hj => ?_)).trans (KeepsOthers.setCell _ _ _)
    rcases (ho.alloc X).2 with ⟨rfl, _⟩ | ⟨g, cap, cur, rfl, _, hgb, _⟩
    · simp [Value.ownBlock] at ej
    · obtain rfl : g = j := by simpa [Value.ownBlock] using ej
      rw [hgb] at hj; cases hj; rfl
  have hbW : Below B W (w1.setCell ⟨B + 2, 0, none⟩ v') :=
    (((Below.refl B W).alloc (by omega) X).grown hgrow (by simp; omega) fun j ej => by have := (ho.lt j ej).1; omega).setCell (p := ⟨B + 2, 0, none⟩) (by show B ≤ B + 2; omega) v'
  refine ⟨hbox1, hko, ⟨hbW, ?_, ?_⟩, ⟨?_, ?_, ⟨v', hbox1.set v', ?_⟩, hm.below.trans hbW, Nat.le_trans hs hbW.size, hgp⟩⟩
  · rw [hset _ (by omega), hlow _ (by omega)]
  · rw [hset _ (by omega), hlow _ (by omega)]
  · rw [hset _ (by omega), hlow _ (by omega)]; exact hm.r0
  · rw [hset _ (by omega), hlow _ (by omega)]; exact hm.r1
  · rw [preRow_snoc, List.length_append, hpc]
    exact ownsRow_setCell_below hown' (a := ⟨B + 2, 0, none⟩) (show B + 2 < B + 5 by omega) _
theorem fin_cells {W1 : World} {B D : Nat} {v a : Value} {t u : TypeId} (h0 : W1.heap[B]? = some (.cells #[v] t (0, 0))) (h1 : W1.heap[B + 1]? = some (.cells #[a] u (0, 0))) (hD : B + 5 ≤ D) (o : Obj) :
    (W1.putObj D o).cell? ⟨B, 0, none⟩ = some v ∧ (W1.putObj D o).cell? ⟨B + 1, 0, none⟩ = some a := by
  have e0 : (W1.putObj D o).heap[B]? = some (.cells #[v] t (0, 0)) := (World.putObj_heap_other (fun e => by omega)).trans h0
  have e1 : (W1.putObj D o).heap[B + 1]? = some (.cells #[a] u (0, 0)) := (World.putObj_heap_other (fun e => by omega)).trans h1
  exact ⟨cell_heap e0 0, cell_heap e1 0⟩
end Go.Proofs.YtfookokepnnmoaaDoor
