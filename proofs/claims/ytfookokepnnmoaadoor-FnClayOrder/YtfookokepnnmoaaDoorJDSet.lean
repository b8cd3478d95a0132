import Derived.Test.YtfookokepnnmoaaDoorJDMake
namespace Go.Proofs.YtfookokepnnmoaaDoor
open Go.RowKit
set_option maxRecDepth 20000
theorem step_enter {P : Program} {ops : Array Oper} {o : Oper} {a : Act} {w : World} {K : Act → World → Prop} {Q : Exit → Act → World → Prop} {E : Prop} (hg : o.guard = none) {f : FuncId} {vals : Array Value}
    (hx : (execOp a.eval o).run P w = .ok (.enter f vals) w) {Q' : Ending → World → Prop} (hc : Calls P f vals w Q') (h : ∀ e w', Q' e w' → ∃ v, e = .returned v ∧ K (a.put o.dst v) w') :
    if Region.wanted o (yielded ops a.tmps) = true then Oper.wp P o a w K Q else E := by
  have hw : Region.wanted o (yielded ops a.tmps) = true := by simp [Region.wanted, hg]
  rw [if_pos hw]
  unfold Oper.wp
  rw [hx, Oper.upon_enter]
  refine hc.mono fun e w' hq => ?_
  obtain ⟨v, rfl, hk⟩ := h e w' hq
  exact hk
theorem fText (k n d : Int) (s : ByteArray) (w : World) : (Instr.field 51 (.agg #[.int .i64 k, .int .i64 n, .string s, .int .i64 d]) 2).run Tryd.prog w = .ok (.string s) w := by kernel_rfl
theorem info_va : (Tryd.prog.info? 25).map (fun i => (i.zero, i.size, i.bytes)) = some (some (.agg #[.slice none 0 0]), 1, 24) := by kernel_rfl
/-- A row of values of its own. -/
def OwnK (R B : Nat) (w : World) (v : Value) (xs : List Value) (ls : List (List At)) : Prop :=
  w.ownsRow B 25 1 v xs.length xs ∧ xs.length = ls.length ∧ (∀ u ∈ xs, u.oneCell' = true) ∧ ∀ (j : Nat) u l, xs[j]? = some u → ls[j]? = some l → ValIn R w u l ∧ l ≠ []
theorem ValIn.one {R : Nat} {w : World} {u : Value} {l : List At} (h : ValIn R w u l) : u.oneCell' = true := by obtain ⟨_, _, _, _, rfl, _⟩ := h; rfl
theorem OwnK.kids {R B : Nat} {w : World} {v : Value} {xs : List Value} {ls : List (List At)} (h : OwnK R B w v xs ls) (hR : R < B) : ∃ ad c, v = .slice ad xs.length c ∧ KidsIn R w ad xs ls := by
  obtain ⟨h1, h2, _, h3⟩ := h
  have hc := h1
  obtain ⟨_, ⟨rfl, h⟩ | ⟨g, c, cur, rfl, hb, hh, _⟩⟩ := h1
  · have : xs = [] := List.eq_nil_of_length_eq_zero h
    subst this
    exact ⟨none, 0, rfl, h2, .inl rfl, h3⟩
  · refine ⟨_, c, rfl, h2, .inr ⟨g, 0, rfl, (Array.getElem?_eq_some_iff.1 hh).1, by omega, fun j u hu => ?_⟩, h3⟩
    have := hc.cells rfl j u hu
    rwa [add_none] at this
theorem OwnK.next {R B : Nat} {w w' : World} {v : Value} {xs : List Value} {ls : List (List At)} (h : OwnK R B w v xs ls) (hb : Below w.heap.size w w') : OwnK R B w' v xs ls :=
  ⟨own_below h.1 hb, h.2.1, h.2.2.1, fun j u l hu hl => ⟨(h.2.2.2 j u l hu hl).1.next hb, (h.2.2.2 j u l hu hl).2⟩⟩
theorem OwnK.sv {R B : Nat} {w w' : World} {v : Value} {xs : List Value} {ls : List (List At)} (h : OwnK R B w v xs ls) (hs : Sv (fun k => k = R) w w') (hR : R < B) : OwnK R B w' v xs ls := by
  refine ⟨?_, h.2.1, h.2.2.1, fun j u l hu hl => ⟨(h.2.2.2 j u l hu hl).1.sv hs, (h.2.2.2 j u l hu hl).2⟩⟩
  obtain ⟨h1, h2 | ⟨g, cap, cur, a, b, c, d⟩⟩ := h.1
  · exact ⟨h1, .inl h2⟩
  · exact ⟨h1, .inr ⟨g, cap, cur, a, b, (hs.block g (Array.getElem?_eq_some_iff.1 c).1 (by omega)).trans c, d⟩⟩
theorem OwnK.lit (R B : Nat) (w : World) (hB : B ≤ w.heap.size) : OwnK R B (w.alloc (.cells #[] 25)) (.slice (some ⟨w.heap.size, 0, none⟩) 0 0) [] [] := by
  refine ⟨?_, rfl, by simp, fun j u l hu _ => by simp at hu⟩
  exact World.ownsRow_made (base := B) (e := 25) (size := 1) w #[] 0 hB (by unfold maxLen; omega) rfl
theorem row_type {w : World} {B n : Nat} {v : Value} {xs : List Value} (h : w.ownsRow B 25 1 v n xs) : ∀ k, v.ownBlock = some k → ∃ cur, w.heap[k]? = some (.cells cur 25 (0, 0)) := by
  intro k hk
  obtain ⟨_, ⟨rfl, _⟩ | ⟨g, cap, cur, rfl, _, c, _⟩⟩ := h
  · cases hk
  · simp only [Value.ownBlock] at hk
    injection hk with hk
    subst hk
    exact ⟨cur, c⟩
theorem ValIn.grown {R B n : Nat} {w w' : World} {v u : Value} {xs : List Value} {l : List At} (h : ValIn R w u l) (ho : w.ownsRow B 25 1 v n xs) (hg : w.grownBy w' v.ownBlock) : ValIn R w' u l := by
  obtain ⟨g, o, N, cap, rfl, h2, h3, h4, h5, h6, h7, cur, fr, h8⟩ := h
  have hb : w'.heap[g]? = w.heap[g]? := hg.block g h5 (fun e => by
    obtain ⟨c2, h9⟩ := row_type ho g e.symm
    rw [h8] at h9
    injection h9 with h9
    injection h9 with _ h10 _
    exact absurd h10 (by decide))
  exact ⟨g, o, N, cap, rfl, h2, h3, h4, Nat.lt_of_lt_of_le h5 hg.size, h6, h7.keep hb, cur, fr, hb.trans h8⟩
/-- What an append of values gives. -/
theorem OwnK.more {R B : Nat} {w w' : World} {v v' : Value} {xs ys : List Value} {ls ms : List (List At)} {n : Nat} (h : OwnK R B w v xs ls) (ho : w'.ownsRow B 25 1 v' n (xs ++ ys)) (hn : n = (xs ++ ys).length) (hg : w.grownBy w' v.ownBlock) (hl : ys.length = ms.length)
    (hy : ∀ (j : Nat) u l, ys[j]? = some u → ms[j]? = some l → ValIn R w u l ∧ l ≠ []) : OwnK R B w' v' (xs ++ ys) (ls ++ ms) := by
  refine ⟨by rw [← hn]; exact ho, by simp [h.2.1, hl], ?_, fun j u l hu hl' => ?_⟩
  · intro u hu
    rcases List.mem_append.1 hu with hu | hu
    · exact h.2.2.1 u hu
    · obtain ⟨j, hj, rfl⟩ := List.getElem_of_mem hu
      exact (hy j _ _ (List.getElem?_eq_getElem hj) (List.getElem?_eq_getElem (by omega))).1.one
  · by_cases hj : j < xs.length
    · rw [List.getElem?_append_left hj] at hu
      rw [List.getElem?_append_left (by rw [← h.2.1]; exact hj)] at hl'
      exact ⟨(h.2.2.2 j u l hu hl').1.grown h.1 hg, (h.2.2.2 j u l hu hl').2⟩
    · rw [List.getElem?_append_right (by omega)] at hu
      rw [List.getElem?_append_right (by rw [← h.2.1]; omega), ← h.2.1] at hl'
      obtain ⟨a, b⟩ := hy _ u l hu hl'
      exact ⟨a.grown h.1 hg, b⟩
end Go.Proofs.YtfookokepnnmoaaDoor
/-! What a drawing function ends with. -/
namespace Go.Proofs.YtfookokepnnmoaaDoor
open Go.RowKit
set_option maxRecDepth 20000
/-- Atoms that are not too large. -/
def AtOk (A : Nat) (l : List At) : Prop := l.length ≤ A ∧ ∀ x ∈ l, x.text.size ≤ 2000 ∧ -10 ≤ x.kids ∧ x.kids ≤ 1000
theorem AtOk.mono {A B : Nat} {l : List At} (h : AtOk A l) (hA : A ≤ B) : AtOk B l := ⟨by have := h.1; omega, h.2⟩
theorem AtOk.one (k n d : Int) (t : ByteArray) (ht : t.size ≤ 2000) (h1 : -10 ≤ d) (h2 : d ≤ 1000) : AtOk 1 [⟨k, n, t, d⟩] := ⟨by simp, fun x hx => by simp at hx; subst hx; exact ⟨ht, h1, h2⟩⟩
theorem AtOk.flat {A m : Nat} {ls : List (List At)} (h : ∀ l ∈ ls, AtOk A l) (hm : ls.length ≤ m) : AtOk (m * A) ls.flatten := by
  induction ls generalizing m with
  | nil => exact ⟨by simp, by simp⟩
  | cons l ls ih =>
    obtain ⟨m, rfl⟩ : ∃ k, m = k + 1 := ⟨m - 1, by simp at hm; omega⟩
    have h1 := h l (by simp)
    have h2 := ih (m := m) (fun l' hl => h l' (by simp [hl])) (by simp at hm; omega)
    refine ⟨?_, fun x hx => ?_⟩
    · simp only [List.flatten_cons, List.length_append, Nat.succ_mul]
      have := h1.1
      have := h2.1
      omega
    · simp only [List.flatten_cons, List.mem_append] at hx
      rcases hx with hx | hx
      · exact h1.2 x hx
      · exact h2.2 x hx
theorem AtOk.snoc {A B : Nat} {l : List At} (h : AtOk A l) (k n d : Int) (t : ByteArray) (ht : t.size ≤ 2000) (h1 : -10 ≤ d) (h2 : d ≤ 1000) (hB : A + 1 ≤ B) : AtOk B (l ++ [⟨k, n, t, d⟩]) := by
  refine ⟨by simp; have := h.1; omega, fun x hx => ?_⟩
  rcases List.mem_append.1 hx with hx | hx
  · exact h.2 x hx
  · exact (AtOk.one k n d t ht h1 h2).2 x hx
theorem ValIn.set {R b i : Nat} {W : World} {s v : Value} {l : List At} {cs : Array Value} {fr : Nat × Nat} (h : ValIn R W s l) (hb : W.heap[b]? = some (.cells cs 25 fr)) : ValIn R (W.setCell ⟨b, i, none⟩ v) s l := by
  obtain ⟨g, o, N, cap, rfl, h2, h3, h4, h5, h6, h7, cur, fr', h8⟩ := h
  have hne : g ≠ b := fun e => by
    subst e
    rw [h8] at hb
    injection hb with hb
    injection hb with _ h10 _
    exact absurd h10 (by decide)
  have hk : (W.setCell ⟨b, i, none⟩ v).heap[g]? = W.heap[g]? := Below.heap_setCell _ _ _ _ hne
  exact ⟨g, o, N, cap, rfl, h2, h3, h4, by simpa using h5, h6, h7.keep hk, cur, fr', hk.trans h8⟩
theorem Rd.set {R b i p : Nat} {W : World} {v : Value} (h : Rd R W p) (hb : R < b) : Rd R (W.setCell ⟨b, i, none⟩ v) p := h.sv (S := fun k => k = b) (Sv.setCell (S := fun k => k = b) (p := ⟨b, i, none⟩) (Sv.refl _ W) (.inl rfl) v) (fun k e => by omega)
/-- A drawing function is under way: it began in w, at p; its answer's cell is there. -/
def Inn (R : Nat) (w W : World) (p q : Nat) : Prop := Sv (fun k => k = R) w W ∧ Rd R W q ∧ W.heap[w.heap.size]? = some (.cells #[.slice none 0 0] 25 (0, 0)) ∧ p ≤ q ∧ R < w.heap.size
theorem Inn.start {R p : Nat} {w : World} (h : Rd R w p) : Inn R w (w.alloc (.cells #[.slice none 0 0] 25)) p p :=
  ⟨(Sv.refl _ _).alloc _, h.next ((Below.refl _ _).alloc (Nat.le_refl _) _), heap_alloc_new w _, Nat.le_refl _, h.lt⟩
theorem Inn.rd {R p q : Nat} {w W : World} (h : Inn R w W p q) : Rd R W q := h.2.1
theorem Inn.lt {R p q : Nat} {w W : World} (h : Inn R w W p q) : w.heap.size < W.heap.size := (Array.getElem?_eq_some_iff.1 h.2.2.1).1
theorem Inn.drew {R p q q' : Nat} {w W W' : World} (h : Inn R w W p q) (hs : Sv (fun k => k = R) W W') (hr : Rd R W' q') (hq : q ≤ q') : Inn R w W' p q' :=
  ⟨h.1.trans hs, hr, (hs.block _ h.lt (by have := h.2.2.2.2; omega)).trans h.2.2.1, by have := h.2.2.2.1; omega, h.2.2.2.2⟩
theorem Inn.next {R p q : Nat} {w W W' : World} (h : Inn R w W p q) (hb : Below W.heap.size W W') : Inn R w W' p q := h.drew (Sv.of_below hb) (h.rd.next hb) (Nat.le_refl _)
theorem Inn.cells {R p q : Nat} {w W : World} (h : Inn R w W p q) : W.cell? ⟨w.heap.size, 0, none⟩ = some (.slice none 0 0) ∧ W.frozen? ⟨w.heap.size, 0, none⟩ = false := ⟨cell_hp h.2.2.1 0, frozen_hp h.2.2.1 0⟩
/-- The end of a drawing function. -/
def DrawEnd (R A C p : Nat) (w : World) (e : Ending) (w' : World) : Prop := ∃ s l, e = .returned (.agg #[s]) ∧ ValIn R w' s l ∧ l ≠ [] ∧ AtOk A l ∧ Drew R C p w w'
theorem Inn.fin {R A C p q : Nat} {w W : World} {s : Value} {l : List At} (h : Inn R w W p q) (hv : ValIn R W s l) (hl : l ≠ []) (ha : AtOk A l) (hq : q ≤ p + C) : DrawEnd R A C p w (.returned (.agg #[s])) (W.setCell ⟨w.heap.size, 0, none⟩ s) :=
  ⟨s, l, rfl, hv.set h.2.2.1, hl, ha, q, h.2.2.2.1, hq, h.rd.set h.2.2.2.2, h.1.setCell (p := ⟨w.heap.size, 0, none⟩) (.inr (Nat.le_refl _)) s⟩
/-- How much may have been read ahead of a draw at d. -/
def PB (d : Int) : Nat := 800000000 - 1000000 * (d.toNat + 1)
theorem PB_le (d : Int) : PB d ≤ 799000000 := by unfold PB; omega
theorem PB_step {d : Int} {p q : Nat} (hd : 0 < d) (h : p ≤ PB d) (hd2 : d ≤ 100) (hq : q ≤ p + 1000000) : q ≤ PB (d - 1) := by
  unfold PB at *
  have : (d - 1).toNat + 1 = d.toNat := by omega
  rw [this]
  omega
/-- What l5Draw is to do at d. -/
def DrawOk (d : Int) (A C : Nat) : Prop := ∀ (R p : Nat) (w : World), p ≤ PB d → Rd R w p → Calls Tryd.prog 28 #[.pointer (some ⟨R, 0, none⟩), .int .i64 d] w fun e w' => DrawEnd R A C p w e w'
theorem lit_cell {R : Nat} {w W : World} {cs : Array Value} {t : TypeId} (hb : Sv (fun k => k = R) (w.alloc (.cells cs t)) W) (hR : R < w.heap.size) (i : Nat) : W.cell? ⟨w.heap.size, i, none⟩ = cs[i]? := by
  rw [hb.cell (p := ⟨w.heap.size, i, none⟩) (by simp) (by show ¬ w.heap.size = R; omega), cell_new_row]
end Go.Proofs.YtfookokepnnmoaaDoor
