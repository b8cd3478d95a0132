import Derived.Orders
import Derived.Test.YtfedmbadhcdpdaaGreatDoorJ44
/-! A region that draws its order, by an invariant; a row of numbers copied behind an empty literal. Printed by gen_isreg.py. -/
namespace Go.Proofs.YtfedmbadhcdpdaaGreatDoor.C
open Go.RowKit
set_option maxRecDepth 20000
theorem count_set {l : Array Bool} {i : Nat} (h : l.getD i true = false) : (l.setIfInBounds i true).toList.count false + 1 = l.toList.count false := by
  have hi : i < l.size := by
    rcases Nat.lt_or_ge i l.size with h' | h'
    · exact h'
    · simp [Array.getElem?_eq_none h'] at h
  have hv : l[i] = false := by simpa [hi] using h
  have hp : 0 < l.toList.count false := List.count_pos_iff.2 (by rw [← hv]; exact Array.getElem_mem_toList hi)
  have hv' : l.toList[i]'(by simpa using hi) = false := by simpa using hv
  rw [Array.toList_setIfInBounds, List.count_set (by simpa using hi), hv']
  show l.toList.count false - 1 + 0 + 1 = _
  omega
/-- What is done has all behind it done that it waits for. -/
def Cld (ops : Array Oper) (l : Array Bool) : Prop := ∀ (k : Nat) o, ops[k]? = some o → l.getD k false = true → ∀ e ∈ o.after, Region.binds .any e = true → l.getD e.on false = true
theorem Cld.put {ops : Array Oper} {l : Array Bool} {i : Nat} {o : Oper} (h : Cld ops l) (ho : ops[i]? = some o) (hall : ∀ e ∈ o.after, Region.binds .any e = true → l.getD e.on false = true) : Cld ops (l.setIfInBounds i true) := by
  intro k o' ho' hk e he hb
  by_cases hik : i = k
  · subst hik
    rw [ho] at ho'
    cases ho'
    exact getD_set_true (hall e he hb)
  · rw [getD_set_ne false hik] at hk
    exact getD_set_true (h k o' ho' hk e he hb)
theorem wpAny_inv {P : Program} {ops : Array Oper} {Q : Exit → Act → World → Prop} (I : Array Bool → Act → World → Prop)
    (hs : ∀ l a w i o, l.size = ops.size → Cld ops l → I l a w → ops[i]? = some o → l.getD i true = false → (∀ e ∈ o.after, Region.binds .any e = true → l.getD e.on false = true) → wpOp P ops Q i (I (l.setIfInBounds i true)) a w)
    (hlt : ∀ (i : Nat) o, ops[i]? = some o → ∀ e ∈ o.after, e.on < i)
    (hf : ∀ l a w, I l a w → (∀ k, k < ops.size → l.getD k false = true) → Q .normal a w) :
    ∀ (fuel : Nat) (l : Array Bool) (a : Act) (w : World), l.size = ops.size → Cld ops l → l.toList.count false ≤ fuel → I l a w → wpAny P .any ops Q fuel l a w := by
  have hend : ∀ l a w, l.size = ops.size → I l a w → Region.ready .any ops l = [] → Q .normal a w := fun l a w hl hI hr => by
    refine hf l a w hI fun k => ?_
    induction k using Nat.strongRecOn with
    | _ k ih =>
      intro hk
      cases hlk : l.getD k false with
      | true => rfl
      | false =>
        exfalso
        have hmem : k ∈ Region.ready .any ops l := by
          rw [mem_ready]
          refine ⟨?_, ops[k], Array.getElem?_eq_getElem hk, fun e he _ => ?_⟩
          · have hkl : k < l.size := by omega
            simp [hkl] at hlk ⊢
            exact hlk
          · have h1 := hlt k _ (Array.getElem?_eq_getElem hk) e he
            exact ih e.on h1 (by omega)
        rw [hr] at hmem
        cases hmem
  intro fuel
  induction fuel with
  | zero =>
    intro l a w hl _ hc hI
    have hnone : Region.ready .any ops l = [] := by
      rw [List.eq_nil_iff_forall_not_mem]
      intro j hj
      rw [mem_ready] at hj
      have h1 := count_set hj.1
      omega
    exact ⟨hnone, hend l a w hl hI hnone⟩
  | succ fuel ih =>
    intro l a w hl hcl hc hI
    refine ⟨hend l a w hl hI, fun i hi => ?_⟩
    rw [mem_ready] at hi
    obtain ⟨h0, o, ho, hall⟩ := hi
    refine wpOp_mono (fun a' w' hI' => ?_) (hs l a w i o hl hcl hI ho h0 hall)
    have h1 := count_set h0
    exact ih _ a' w' (by simpa using hl) (hcl.put ho hall) (by omega) hI'
theorem wp_region_inv {P : Program} {id : Nat} {ops : Array Oper} {Q : Exit → Act → World → Prop} {a : Act} {w : World} (hm : P.follows .mixedOrders = true) (I : Array Bool → Act → World → Prop)
    (h0 : I (Array.replicate ops.size false) a w.drew)
    (hs : ∀ l a w i o, l.size = ops.size → Cld ops l → I l a w → ops[i]? = some o → l.getD i true = false → (∀ e ∈ o.after, Region.binds .any e = true → l.getD e.on false = true) → wpOp P ops Q i (I (l.setIfInBounds i true)) a w)
    (hlt : ∀ (i : Nat) o, ops[i]? = some o → ∀ e ∈ o.after, e.on < i)
    (hf : ∀ l a w, I l a w → (∀ k, k < ops.size → l.getD k false = true) → Q .normal a w) : (Code.region id ops true).wp P Q a w :=
  wp_region_any hm (wpAny_inv I hs hlt hf ops.size _ a _ (by simp) (fun k o _ hk => by
    exfalso
    rcases Nat.lt_or_ge k ops.size with h | h
    · simp [h] at hk
    · simp [h] at hk) (by simp) h0)
theorem unl {l : Array Bool} {i : Nat} (h : l.getD i true = false) : l.getD i false = false := by
  cases hk : l[i]? with
  | none => simp [hk] at h
  | some v => simp [hk] at h ⊢; exact h
theorem lst {l : Array Bool} {i : Nat} (h : i < l.size) : (l.setIfInBounds i true).getD i false = true := by simp [h]
theorem wpOp_via {P : Program} {ops : Array Oper} {Q : Exit → Act → World → Prop} {i : Nat} {I : Act → World → Prop} {a : Act} {w : World} (h : ∀ K : Act → World → Prop, (∀ a' w', I a' w' → K a' w') → wpOp P ops Q i K a w) : wpOp P ops Q i I a w := h _ fun _ _ h => h
theorem wpOp_run {P : Program} {ops : Array Oper} {Q : Exit → Act → World → Prop} {i : Nat} {K : Act → World → Prop} {a : Act} {w : World} {o : Oper} (ho : ops[i]? = some o) (hg : o.guard = none) (h : Oper.wp P o a w K Q) : wpOp P ops Q i K a w := by
  unfold wpOp
  rw [ho]
  have hw : Region.wanted o (yielded ops a.tmps) = true := by simp [Region.wanted, hg]
  simp only [hw, if_true]
  exact .inl h
theorem repl_getD (n k : Nat) : (Array.replicate n false).getD k false = false := by
  by_cases h : k < n <;> simp [h]
theorem lt_of_check {ops : Array Oper} (h : ((List.range ops.size).all fun i => match ops[i]? with | some o => o.after.all fun e => decide (e.on < i) | none => true) = true) : ∀ (i : Nat) o, ops[i]? = some o → ∀ e ∈ o.after, e.on < i := by
  intro i o ho e he
  have hi := (Array.getElem?_eq_some_iff.1 ho).1
  rw [List.all_eq_true] at h
  have := h i (List.mem_range.2 hi)
  rw [ho] at this
  simp only [Array.all_eq_true_iff_forall_mem] at this
  exact of_decide_eq_true (this e he)
theorem getD_unset {l : Array Bool} {i k : Nat} (h : (l.setIfInBounds i true).getD k false = false) : l.getD k false = false := by
  cases hk : l.getD k false with
  | false => rfl
  | true => rw [getD_set_true hk] at h; cases h
def updS (u : Nat → Value) (k : Nat) (v : Value) : Nat → Value := fun n => if n = k then v else u n
/-- append of a row of numbers onto an empty literal: a row of one's own. -/
theorem run_append_lit (w : World) (h : Nat) (ty : TypeId) (xv : Value) (l : List Int) (hrow : IntRow w xv l) (hl : l.length ≤ 100000) :
    ∃ v' w', (Builtin.append_ #[41, 41] ty #[.slice (some ⟨h, 0, none⟩) 0 0, xv]).run Tryz.prog w = .ok v' w' ∧ IntRow w' v' l ∧ Below w.heap.size w w' := by
  obtain ⟨i0, hi, hz0, hz1, hz2⟩ := int_parts
  obtain ⟨ad, c, rfl, h1, h2, h3⟩ := hrow
  by_cases e : l = []
  · subst e
    refine ⟨.slice (some ⟨h, 0, none⟩) 0 0, w, ?_, ⟨_, 0, rfl, Nat.le_refl _, Nat.zero_le _, .inl rfl⟩, Below.refl _ _⟩
    cases ad with
    | none => simp [Builtin.append_, run_underlying Tryz.underlying41, sizeOf, typeInfo, hi, Builtin.lenOf, Builtin.firstCells, storeCells]
    | some ad => simp [Builtin.append_, run_underlying Tryz.underlying41, sizeOf, typeInfo, hi, Builtin.lenOf, Builtin.firstCells, storeCells, loadCells, loadCellsFrom]
  · rcases h3 with h3 | ⟨g, cur, rfl, hg, hc⟩
    · exact absurd h3 e
    · have hp : 0 < l.length := Nat.pos_of_ne_zero fun h => e (List.eq_nil_of_length_eq_zero h)
      have hr := run_append_grow (P := Tryz.prog) w 41 ty 3 i0 (.int .i64 0) Tryz.underlying41 hi hz0 ⟨h, 0, none⟩ 0 0 [] (by simp) (by simp) ⟨g, 0, none⟩ l.length c (l.map fun x => Value.int .i64 x) (by simp [hz1]) (int_cells ⟨_, c, rfl, h1, h2, .inr ⟨g, cur, rfl, hg, hc⟩⟩) (by omega) (by omega) (growslice_fits (by omega) (by rw [hz2]; omega))
      refine ⟨_, _, hr, ⟨some ⟨w.heap.size, 0, none⟩, grownCap w (0 + l.length) 0 3, ?_, ?_, ?_, .inr ⟨w.heap.size, _, rfl, heap_alloc_new w.drew _, fun i hi2 => ?_⟩⟩, ((Below.refl _ _).drew).alloc (by simp) _⟩
      · rw [Nat.zero_add]
      · have := grownCap_ge w (0 + l.length) 0 3; omega
      · exact grownCap_le_maxLen w (0 + l.length) 0 3 (by unfold maxLen; omega)
      · have e1 : i < (l.map fun x => Value.int .i64 x).length := by simpa using hi2
        have e2 : (l.map fun x => Value.int .i64 x)[i]? = some (.int .i64 (l.getD i 0)) := by simp [hi2, List.getD_eq_getElem?_getD]
        rw [← e2]
        simp [Array.getElem?_append, hi2]
theorem wpOp_lit {ops : Array Oper} {Q : Exit → Act → World → Prop} {j : Nat} {K : Act → World → Prop} {a : Act} {w : World} {o : Oper} (ho : ops[j]? = some o) (hg : o.guard = none) (s x : Operand)
    (hop : o.op = Op.call { callee := Callee.builtin Builtin.append, args := #[s, x], argTypes := #[41, 41] })
    (b : Nat) (hs : a.eval s = .slice (some ⟨b, 0, none⟩) 0 0) (xv : Value) (l : List Int) (hx : a.eval x = xv) (hrow : IntRow w xv l) (hl : l.length ≤ 100000)
    (h : ∀ v' w', IntRow w' v' l → Below w.heap.size w w' → K (a.put o.dst v') w') : wpOp Tryz.prog ops Q j K a w := by
  unfold wpOp
  rw [ho]
  have hw : Region.wanted o (yielded ops a.tmps) = true := by simp [Region.wanted, hg]
  simp only [hw, if_true]
  refine .inl ?_
  obtain ⟨v', w', hr, h2, h3⟩ := run_append_lit w b o.type xv l hrow hl
  unfold Oper.wp
  simp [execOp, hop, resolve, invoke, builtin, hs, hx, hr, Result.andThen]
  exact h v' w' h2 h3
theorem wpOp_appS {ops : Array Oper} {Q : Exit → Act → World → Prop} {j : Nat} {K : Act → World → Prop} {a : Act} {w : World} {o : Oper} (ho : ops[j]? = some o) (hg : o.guard = none) (s x : Operand)
    (hop : o.op = Op.call { callee := Callee.builtin Builtin.append, args := #[s, x], argTypes := #[34, 34] })
    (base : Nat) (v : Value) (n : Nat) (xs : List Value) (hs : a.eval s = v) (hown : w.ownsRow base 43 3 v n xs)
    (g : Nat) (st : Int) (p q : Value) (hx : a.eval x = .slice (some ⟨g, 0, none⟩) 1 1) (hn1 : w.heap[g]? = some (.cells #[.int .i64 st, p, q] 43 (0, 0))) (hp : p.oneCell' = true) (hq : q.oneCell' = true)
    (h63 : n ≤ 100000) (hbase : base ≤ w.heap.size)
    (h : ∀ v' w', w'.ownsRow base 43 3 v' (n + 1) (xs ++ [.int .i64 st, p, q]) → w.grownBy w' v.ownBlock → (v'.ownBlock = v.ownBlock ∨ v'.ownBlock = some w.heap.size) → K (a.put o.dst v') w') : wpOp Tryz.prog ops Q j K a w := by
  obtain ⟨i0, hi, hz0, hz1, hz2⟩ := info_parts shape_info
  unfold wpOp
  rw [ho]
  have hw : Region.wanted o (yielded ops a.tmps) = true := by simp [Region.wanted, hg]
  simp only [hw, if_true]
  refine .inl ?_
  obtain ⟨v', w', hr, h2, h3, _, h5⟩ := run_append_own_at (P := Tryz.prog) w base 34 o.type 43 i0 _ 3 56 Tryz.underlying34 hi hz0 hz1 hz2 rfl (by decide) v n xs hown ⟨g, 0, none⟩ 1 1 [.int .i64 st, p, q] rfl (fun j u hj => by
    have ea : (⟨g, 0, none⟩ : Addr).add j = ⟨g, j, none⟩ := by
      by_cases hj0 : j = 0
      · subst hj0; simp [Addr.add]
      · simp [Addr.add, hj0]
    rw [ea, cell_of_row _ _ j _ _ (0, 0) hn1]
    simpa using hj) (fun u hu => by
    simp only [List.mem_cons, List.not_mem_nil, or_false] at hu
    rcases hu with rfl | rfl | rfl
    · rfl
    · exact hp
    · exact hq) (by unfold maxLen; omega) (by omega) hbase
  unfold Oper.wp
  simp [execOp, hop, resolve, invoke, builtin, hs, hx, hr, Result.andThen]
  exact h v' w' h2 h3 h5
theorem intRow_one {W : World} {v : Value} {l : List Int} (h : IntRow W v l) : v.oneCell' = true := by
  obtain ⟨ad, c, rfl, _⟩ := h
  rfl
end Go.Proofs.YtfedmbadhcdpdaaGreatDoor.C
/-! The region that copies a shape, by an invariant. -/
namespace Go.Proofs.YtfedmbadhcdpdaaGreatDoor.C
open Go.RowKit
set_option maxRecDepth 20000
/-- What is fixed while the region runs. -/
structure Sc where
  aF : Option Addr
  fl : Nat
  cF : Nat
  q : Nat
  k : Nat
  i : Nat
  g : Nat
  N : Nat
  j : Nat
  b37 : Value
  b38 : Value
  av : Option Addr
  cv : Nat
  st : Nat
  sl : List Int
  sk : List Int
  a1 : Option Addr
  c1 : Nat
  a2 : Option Addr
  c2 : Nat
  L : List Sh
  A : Nat → Sh
  ws : World
  w0 : World
def TA (c : Sc) (u : Nat → Value) : Act := { tmps := #[.agg #[.slice c.aF c.fl c.cF], .int .i64 (c.q : Nat), .pointer (some ⟨c.ws.heap.size, 0, none⟩), undef, .slice none 0 0, u 5, .int .i64 0, .int .i64 (c.k : Nat), .int .i64 (c.i : Nat), .slice (some ⟨c.g, 0, none⟩) c.N c.N, .int .i64 (c.j : Nat), .slice (some ⟨c.ws.heap.size + 1, 0, none⟩) 0 0, .tuple #[.int .i64 0, .int .i64 (c.k : Nat), .int .i64 (c.i : Nat)], .agg #[.slice c.aF c.fl c.cF], .tuple #[.int .i64 0, .int .i64 (c.k : Nat), .int .i64 (c.i : Nat)], .int .i64 0, .int .i64 (c.k : Nat), .int .i64 (c.i : Nat), .int .i64 0, .bool false, .bool false, .int .i64 (c.q : Nat), .pointer (some ⟨c.ws.heap.size, 0, none⟩), .slice c.aF c.fl c.cF, .int .i64 (c.fl : Nat), .int .i64 ((c.fl : Int) - 1), .bool true, .bool false, .bool false, undef, .agg #[.slice c.aF c.fl c.cF], .int .i64 (c.q : Nat), .slice (some ⟨c.g, 0, none⟩) c.N c.N, .int .i64 (c.j : Nat), .slice (some ⟨c.g, 0, none⟩) c.N c.N, .int .i64 (c.N : Nat), .bool true, c.b37, c.b38, u 39, u 40, u 41, u 42, u 43, u 44, u 45, u 46, u 47, u 48, u 49, u 50, u 51, u 52, u 53, u 54, u 55, u 56, u 57, u 58, u 59, u 60, u 61, undef], defers := [] }
/-- What the region comes to. -/
def PST (c : Sc) (x : Value) (w : World) : Prop := ∃ xs, SRow c.ws.heap.size w x (c.L ++ [⟨c.st, c.sl, c.sk⟩]) xs ∧ x.ownBlock ≠ some c.g ∧ ShRow w c.g c.N c.A ∧ Below c.ws.heap.size c.ws w
/-- What is known of the value of operation k once it is done. -/
def Phi (c : Sc) : Nat → Value → World → Prop
  | 0, x, _ => x = .slice c.av c.j c.cv
  | 1, x, _ => x = .slice (some ⟨c.g, 0, none⟩) c.N c.N
  | 7, x, _ => x = .slice (some ⟨c.g, 0, none⟩) c.N c.N
  | 14, x, _ => x = .slice (some ⟨c.g, 0, none⟩) c.N c.N
  | 2, x, _ => x = .int .i64 (c.j : Nat)
  | 8, x, _ => x = .int .i64 (c.j : Nat)
  | 15, x, _ => x = .int .i64 (c.j : Nat)
  | 3, x, _ => x = .pointer (some ⟨c.g, c.j * 3, none⟩)
  | 9, x, _ => x = .pointer (some ⟨c.g, c.j * 3, none⟩)
  | 16, x, _ => x = .pointer (some ⟨c.g, c.j * 3, none⟩)
  | 4, x, _ => x = .pointer (some ⟨c.g, c.j * 3, none⟩)
  | 10, x, _ => x = .pointer (some ⟨c.g, c.j * 3 + 1, none⟩)
  | 17, x, _ => x = .pointer (some ⟨c.g, c.j * 3 + 2, none⟩)
  | 5, x, _ => x = .int .i64 (c.st : Nat)
  | 11, x, _ => x = .slice c.a1 c.sl.length c.c1
  | 18, x, _ => x = .slice c.a2 c.sk.length c.c2
  | 6, x, _ => ∃ b, x = .slice (some ⟨b, 0, none⟩) 0 0
  | 13, x, _ => ∃ b, x = .slice (some ⟨b, 0, none⟩) 0 0
  | 12, x, w => IntRow w x c.sl
  | 19, x, w => IntRow w x c.sk
  | 20, x, w => ∃ p q, x = .agg #[.int .i64 (c.st : Nat), p, q] ∧ IntRow w p c.sl ∧ IntRow w q c.sk
  | 21, x, w => ∃ b p q, x = .slice (some ⟨b, 0, none⟩) 1 1 ∧ w.heap[b]? = some (.cells #[.int .i64 (c.st : Nat), p, q] 43 (0, 0)) ∧ IntRow w p c.sl ∧ IntRow w q c.sk
  | _, x, w => PST c x w
theorem PST.next {c : Sc} {x : Value} {w w' : World} (h : PST c x w) (hb : Below w.heap.size w w') : PST c x w' := by
  obtain ⟨xs, h1, h2, h3, h4⟩ := h
  exact ⟨xs, h1.next hb, h2, h3.next hb, h4.trans (hb.mono h4.size)⟩
theorem Phi.next {c : Sc} {k : Nat} {x : Value} {w w' : World} (hk : k < 24) (h : Phi c k x w) (hb : Below w.heap.size w w') : Phi c k x w' := by
  have h7 : k = 0 ∨ k = 1 ∨ k = 2 ∨ k = 3 ∨ k = 4 ∨ k = 5 ∨ k = 6 ∨ k = 7 ∨ k = 8 ∨ k = 9 ∨ k = 10 ∨ k = 11 ∨ k = 12 ∨ k = 13 ∨ k = 14 ∨ k = 15 ∨ k = 16 ∨ k = 17 ∨ k = 18 ∨ k = 19 ∨ k = 20 ∨ k = 21 ∨ k = 22 ∨ k = 23 := by omega
  rcases h7 with rfl | rfl | rfl | rfl | rfl | rfl | rfl | rfl | rfl | rfl | rfl | rfl | rfl | rfl | rfl | rfl | rfl | rfl | rfl | rfl | rfl | rfl | rfl | rfl
  all_goals first
    | exact h
    | exact IntRow.next h hb
    | (obtain ⟨p, q, e, h1, h2⟩ := h; exact ⟨p, q, e, h1.next hb, h2.next hb⟩)
    | (obtain ⟨b, p, q, e, h0, h1, h2⟩ := h; exact ⟨b, p, q, e, hp_next h0 hb, h1.next hb, h2.next hb⟩)
    | exact PST.next h hb
def dstS (k : Nat) : Nat := if k = 23 then 5 else 39 + k
theorem dstS_ne {i k : Nat} (hi : i < 24) (hk : k < 24) (h : k ≠ i) : dstS k ≠ dstS i := by
  unfold dstS
  split <;> split <;> omega
/-- The invariant. -/
structure SI (c : Sc) (l : Array Bool) (a : Act) (w : World) : Prop where
  ex : ∃ u, a = TA c u ∧ (l.getD 23 false = false → u 5 = .slice c.av c.j c.cv) ∧ ∀ k, k < 24 → l.getD k false = true → (l.getD 22 false = false ∨ 22 ≤ k) → Phi c k (u (dstS k)) w
  all : l.getD 22 false = true → ∀ k, k < 22 → l.getD k false = true
  lo : l.getD 22 false = false → Below c.w0.heap.size c.w0 w
theorem SI.put {c : Sc} {l : Array Bool} {u : Nat → Value} {w w' : World} {i : Nat} {a' : Act} (v : Value) (hi : i < 24) (h22 : i ≠ 22) (hs : i < l.size)
    (h5 : l.getD 23 false = false → u 5 = .slice c.av c.j c.cv) (hphi : ∀ k, k < 24 → l.getD k false = true → (l.getD 22 false = false ∨ 22 ≤ k) → Phi c k (u (dstS k)) w)
    (hall : l.getD 22 false = true → ∀ k, k < 22 → l.getD k false = true) (hlo : l.getD 22 false = false → Below c.w0.heap.size c.w0 w)
    (ha : a' = TA c (updS u (dstS i) v)) (hb : Below w.heap.size w w') (hnew : Phi c i v w') : SI c (l.setIfInBounds i true) a' w' := by
  have e22 : (l.setIfInBounds i true).getD 22 false = l.getD 22 false := getD_set_ne false h22
  refine ⟨⟨updS u (dstS i) v, ha, fun h => ?_, fun k hk hl hc => ?_⟩, fun h k hk => ?_, fun h => ?_⟩
  · have hi28 : i ≠ 23 := fun e => by subst e; rw [lst hs] at h; cases h
    have : updS u (dstS i) v 5 = u 5 := by unfold updS dstS; rw [if_neg hi28, if_neg (by omega)]
    rw [this]
    exact h5 (getD_unset h)
  · by_cases hki : k = i
    · subst hki
      have : updS u (dstS k) v (dstS k) = v := by simp [updS]
      rw [this]
      exact hnew
    · have : updS u (dstS i) v (dstS k) = u (dstS k) := by unfold updS; rw [if_neg (dstS_ne hi hk hki)]
      rw [this]
      rw [getD_set_ne false (Ne.symm hki)] at hl
      rw [e22] at hc
      exact (hphi k hk hl hc).next hk hb
  · rw [e22] at h
    exact getD_set_true (hall h k hk)
  · have h1 := hlo (by rw [← e22]; exact h)
    exact h1.trans (hb.mono h1.size)
end Go.Proofs.YtfedmbadhcdpdaaGreatDoor.C
