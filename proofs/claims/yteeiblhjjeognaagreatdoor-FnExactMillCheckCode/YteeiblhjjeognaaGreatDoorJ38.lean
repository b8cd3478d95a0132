import Derived.Test.YteeiblhjjeognaaGreatDoorJ37
/-! The program's shaper: made, and at work until nothing waits. -/
namespace Go.Proofs.YteeiblhjjeognaaGreatDoor.C
open Go.RowKit
set_option maxRecDepth 20000
def NewEnd (fns : List Fn) (f : Fn) (w : World) (e : Ending) (w' : World) : Prop := ∃ (W2 : World) (b gL : Nat) (cv pv iv : Value) (A : Nat → Sh) (wv : Value), e = .returned (.pointer (some ⟨b, 0, none⟩)) ∧ Below w.heap.size w W2 ∧ SG fns f W2 cv pv iv ∧ SP fns f W2 b gL cv pv iv A [] wv w' ∧ Closed fns f A ∧ Low fns f A
theorem lying_info : (Tryz.prog.info? 64).map (fun i => (i.zero, i.size, i.bytes)) = some (some (.agg #[.int .i64 0, .string ⟨#[]⟩, .string ⟨#[]⟩]), 3, 40) := by kernel_rfl
theorem u8_info : (Tryz.prog.info? 5).map (fun i => (i.zero, i.size, i.bytes)) = some (some (.int .u8 0), 1, 1) := by kernel_rfl
/-- Made anew: nothing is known of any place. -/
theorem LyRow.made {W : World} {B g n : Nat} (h : W.ownsRow B 64 3 (.slice (some ⟨g, 0, none⟩) n n) n (madeCells #[.int .i64 0, .string ⟨#[]⟩, .string ⟨#[]⟩] (n * 3)).toList) : LyRow W g n fun _ => bot := by
  obtain ⟨h1, ⟨h2, _⟩ | ⟨k, c, cur, e, hb, h4, h5, h6, h7, h8⟩⟩ := h
  · cases h2
  · injection e with e1 _ e3
    injection e1 with e1
    injection e1 with e1
    subst e1 e3
    have hcur : cur.size = n * 3 := by rw [h7]
    have hcells : cur.toList = (madeCells #[.int .i64 0, .string ⟨#[]⟩, .string ⟨#[]⟩] (n * 3)).toList := by
      rw [← h8, List.take_of_length_le (by simp [hcur])]
    have hcc : cur = madeCells #[.int .i64 0, .string ⟨#[]⟩, .string ⟨#[]⟩] (n * 3) := Array.ext' hcells
    refine ⟨cur, h4, hcur, fun i hi => ?_⟩
    obtain ⟨m0, m1, m2⟩ := made3 (.int .i64 0) (.string ⟨#[]⟩) (.string ⟨#[]⟩) n i hi
    rw [hcc]
    exact ⟨m0, m1, m2⟩
/-- The last of the work list, and what is left without it. -/
theorem SP.last {fns : List Fn} {f : Fn} {w : World} {b gL : Nat} {cv pv iv : Value} {A : Nat → Sh} {l : List Nat} {x : Nat} {wv : Value} {W : World} (h : SP fns f w b gL cv pv iv A (l ++ [x]) wv W) : ∃ g c, wv = .slice (some ⟨g, 0, none⟩) (l.length + 1) c ∧ W.cell? ⟨g, l.length, none⟩ = some (.int .i64 (x : Nat)) ∧ l.length + 1 ≤ c ∧ c ≤ maxLen ∧ ∀ V, Below W.heap.size W V → SP fns f w b gL cv pv iv A l (.slice (some ⟨g, 0, none⟩) l.length c) (V.setCell ⟨b, 7, none⟩ (.slice (some ⟨g, 0, none⟩) l.length c)) := by
  have hl : (l ++ [x]).length = l.length + 1 := by simp
  obtain ⟨h1, ⟨_, h2⟩ | ⟨k, cap, cur, e, hb, hc, h4, h5, h6, h7⟩⟩ := h.own
  · simp at h2
  · rw [Nat.mul_one] at h6 h7
    rw [hl] at e h4 h7
    refine ⟨k, cap, e, ?_, h4, h5, fun V hV => (h.next hV).work ⟨rfl, rfl, rfl, Nat.le_refl _, fun _ _ _ => rfl⟩ ⟨by simp [nums], .inr ⟨k, cap, cur, rfl, hb, hp_next hc hV, by omega, h5, by rw [Nat.mul_one]; exact h6, ?_⟩⟩⟩
    · refine (cell_hp hc l.length).trans ?_
      have e2 : (cur.toList.take (l.length + 1))[l.length]? = ((nums (l ++ [x])).map fun x => Value.int .i64 x)[l.length]? := by rw [h7]
      rw [List.getElem?_take_of_lt (by omega)] at e2
      rw [← Array.getElem?_toList, e2]
      simp [nums]
    · have e3 := congrArg (List.take l.length) h7
      rw [List.take_take, Nat.min_eq_left (by omega)] at e3
      rw [Nat.mul_one, e3]
      simp [nums]
def bRow (l : List Int) (i j : Nat) : Value := .int .u8 (if j < i then l.getD j 0 else 0)
/-- The bytes of the first types. -/
structure NI (l : List Int) (S : Nat) (w : World) (j : Nat) (W : World) : Prop where
  lo : Below w.heap.size w W
  row : W.rowIs w.heap.size 5 S (bRow l j)
theorem NI.more {l : List Int} {S : Nat} {w : World} {j : Nat} {W : World} (h : NI l S w j W) : NI l S w (j + 1) (W.setCell ⟨w.heap.size, j, none⟩ (.int .u8 (l.getD j 0))) := by
  refine ⟨set_lo h.lo _ _ (Nat.le_refl _) _, (h.row.set j _).congr fun q hq => ?_⟩
  unfold bRow
  by_cases e : q = j
  · subst e; rw [if_pos rfl, if_pos (by omega)]
  · rw [if_neg e]
    by_cases h9 : q < j
    · rw [if_pos h9, if_pos (by omega)]
    · rw [if_neg h9, if_neg (by omega)]
theorem NI.made {l : List Int} {S : Nat} {w W : World} (h : W.ownsRow w.heap.size 5 1 (.slice (some ⟨w.heap.size, 0, none⟩) S S) S (madeCells (Value.int .u8 0).cells (S * 1)).toList) (hg : w.grownBy W none) : NI l S w 0 W := by
  refine ⟨(Below.refl w.heap.size w).grown hg (Nat.le_refl _) (fun q e => by cases e), ?_⟩
  obtain ⟨_, ⟨h2, _⟩ | ⟨k, c, cur, e, _, h4, _, _, h7, h8⟩⟩ := h
  · cases h2
  · injection e with e1 _ e3
    injection e1 with e1
    injection e1 with e1
    subst e1 e3
    rw [Nat.mul_one] at h7 h8
    refine ⟨cur, h4, h7, fun i hi => ?_⟩
    have e2 : (cur.toList.take S)[i]? = (madeCells (Value.int .u8 0).cells S).toList[i]? := by rw [h8]
    rw [List.getElem?_take_of_lt hi] at e2
    rw [← Array.getElem?_toList, e2]
    have e5 : (Value.int .u8 0).cells = #[Value.int .u8 0] := rfl
    rw [e5, made1 _ _ _ hi]
    unfold bRow
    rw [if_neg (Nat.not_lt_zero _)]
theorem NI.text {fns : List Fn} {f : Fn} {S : Nat} {w W : World} (hf : FnR fns f) (hS : f.S = S) (hl : f.params.length ≤ S) (h : NI f.params S w f.params.length W) : (convert 107 9 (.slice (some ⟨w.heap.size, 0, none⟩) S S)).run Tryz.prog W = .ok (.string (kt (first f).sl)) W := by
  have hlen : ((first f).sl.map kb).length = S := by simp [first, hS]; omega
  have := run_convert_bytes_back (P := Tryz.prog) W 107 9 5 ⟨w.heap.size, 0, none⟩ S ((first f).sl.map kb) Tryz.underlying107 Tryz.underlying5 Tryz.underlying9 (fun j hj => by
    have hjS : j < S := by omega
    have ea : (⟨w.heap.size, 0, none⟩ : Addr).add j = ⟨w.heap.size, j, none⟩ := by simp [Addr.add]; exact fun h => h.symm
    rw [ea, h.row.cell hjS]
    unfold bRow
    have hj2 : j < (first f).sl.length := by simpa using hj
    have ok : Ok10 (first f).sl := (ok_sl (first_ok hf)).1
    rw [List.getElem_map, kb_nat (ok _ (List.getElem_mem hj2))]
    congr 2
    by_cases hp : j < f.params.length
    · rw [if_pos hp]
      simp [first, hp, List.getElem_append_left, List.getD_eq_getElem?_getD]
    · rw [if_neg hp]
      have e : ∀ (a c : List Int) (h : j < (a ++ c).length), a.length ≤ j → (∀ x ∈ c, x = 0) → (a ++ c)[j] = 0 := fun a c h ha hc => by
        rw [List.getElem_append_right ha]
        exact hc _ (List.getElem_mem _)
      exact (e f.params (List.replicate (f.S - f.params.length) 0) hj2 (by omega) (fun x hx => (List.mem_replicate.1 hx).2)).symm)
  rw [hlen] at this
  exact this
theorem come_first {fns : List Fn} {f : Fn} {w : World} {b gL : Nat} {cv pv iv wv : Value} {W : World} (h : (join ((fun _ => bot) 0) (first f) = (fun _ => bot) 0 ∧ SP fns f w b gL cv pv iv (fun _ => bot) [] wv W) ∨ (¬ join ((fun _ => bot) 0) (first f) = (fun _ => bot) 0 ∧ SP fns f w b gL cv pv iv (upd (fun _ => bot) 0 (join ((fun _ => bot) 0) (first f))) (ins1 [] 0) wv W)) : SP fns f w b gL cv pv iv (upd (fun _ => bot) 0 (first f)) [0] wv W := by
  rcases h with ⟨h, _⟩ | ⟨_, h⟩
  · rw [join_bot rfl] at h
    have := congrArg Sh.st h
    simp [first, bot] at this
  · rw [join_bot rfl] at h
    exact h
end Go.Proofs.YteeiblhjjeognaaGreatDoor.C
