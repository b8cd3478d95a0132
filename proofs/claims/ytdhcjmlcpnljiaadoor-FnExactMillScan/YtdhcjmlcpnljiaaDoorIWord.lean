import Derived.Test.YtdhcjmlcpnljiaaDoorIMark
namespace Go.Proofs.YtdhcjmlcpnljiaaDoor
open Go.RowKit
/-- The first n words, as the entries of the program's own map. -/
def wordE (n : Nat) : Array MapEntry := ((List.range n).map fun i => ({ key := .string (wordS i), val := .int .i64 2, born := i } : MapEntry)).toArray
theorem wordE_succ (n : Nat) : wordE (n + 1) = (wordE n).push { key := .string (wordS n), val := .int .i64 2, born := n } := by
  simp [wordE, List.range_succ]
theorem find_none (s : ByteArray) (es : List MapEntry) (i : Nat) (h : ∀ e ∈ es, ∃ t, e.key = .string t ∧ (s == t) = false) : Instr.findNow .string (.string s) es i = some none := by
  induction es generalizing i with
  | nil => rfl
  | cons e es ih =>
    obtain ⟨t, ht, hne⟩ := h e (List.mem_cons_self ..)
    unfold Instr.findNow
    rw [ht]
    simp only [Instr.sameNow, hne]
    exact ih (i + 1) fun x hx => h x (List.mem_cons_of_mem _ hx)
theorem find_some (s : ByteArray) (es : List MapEntry) (i : Nat) (hs : ∀ e ∈ es, (∃ t, e.key = .string t) ∧ e.val = .int .i64 2) (h : ∃ e ∈ es, e.key = .string s) : ∃ j, Instr.findNow .string (.string s) es i = some (some (j, .int .i64 2)) := by
  induction es generalizing i with
  | nil => obtain ⟨e, he, _⟩ := h; simp at he
  | cons e es ih =>
    obtain ⟨⟨t, ht⟩, hv⟩ := hs e (List.mem_cons_self ..)
    unfold Instr.findNow
    rw [ht]
    simp only [Instr.sameNow]
    cases hq : (s == t) with
    | true => exact ⟨i, by simp [hv]⟩
    | false =>
      refine ih (i + 1) (fun x hx => hs x (List.mem_cons_of_mem _ hx)) ?_
      obtain ⟨x, hx, hk⟩ := h
      rcases List.mem_cons.1 hx with e2 | e2
      · subst e2
        rw [ht] at hk
        cases hk
        rw [beq_toListBytes] at hq
        simp at hq
      · exact ⟨x, e2, hk⟩
theorem wordE_mem (n : Nat) (e : MapEntry) : e ∈ (wordE n).toList ↔ ∃ i, i < n ∧ e = { key := .string (wordS i), val := .int .i64 2, born := i } := by
  simp [wordE]
  constructor
  · rintro ⟨i, hi, rfl⟩; exact ⟨i, hi, rfl⟩
  · rintro ⟨i, hi, rfl⟩; exact ⟨i, hi, rfl⟩
theorem word_apart : ∀ i, i < 17 → ∀ j, j < i → words.getD i [] ≠ words.getD j [] := by decide
theorem wordS_apart (i : Nat) (hi : i < 17) (j : Nat) (hj : j < i) : (wordS i == wordS j) = false := by
  rw [beq_toListBytes, beq_eq_false_iff_ne]
  intro e
  exact word_apart i hi j hj (by rw [Lib.toList_data, Lib.toList_data] at e; simpa [wordS] using e)
theorem set_last {α : Type} (a : Array α) (x y : α) : (a.push x).setIfInBounds a.size y = a.push y := by
  apply Array.ext
  · simp
  · intro i h1 h2
    rw [Array.getElem_setIfInBounds (by simpa using h1), Array.getElem_push, Array.getElem_push]
    by_cases h : a.size = i
    · subst h; simp
    · rw [if_neg h]
      simp at h1
      rw [dif_pos (by omega), dif_pos (by omega)]
theorem word_ins (w : World) (i : Nat) (hi : i < 17) (s : ByteArray) (hs : s = wordS i) :
    (Instr.mapUpdate 64 (.map (some w.heap.size)) (.string s) (.int .i64 2)).run Tryd.prog (w.alloc (.map (wordE i) i)) = .ok () (w.alloc (.map (wordE (i + 1)) (i + 1))) := by
  subst hs
  have hf : Instr.findNow .string (.string (wordS i)) (wordE i).toList 0 = some none := by
    refine find_none _ _ _ fun e he => ?_
    obtain ⟨j, hj, rfl⟩ := (wordE_mem i e).1 he
    exact ⟨_, rfl, wordS_apart i hi j hj⟩
  have hb : (w.alloc (.map (wordE i) i)).heap[w.heap.size]? = some (.map (wordE i) i) := heap_alloc_new w _
  have hc : ∀ W, (Instr.checkKey false 10000 9 (.string (wordS i))).run Tryd.prog W = .ok () W := fun W => MapKept.run_checkKey (k := .string (wordS i)) Tryd.underlying9 (by simp [MapKept.IsKey]) false 9999
  simp only [Instr.mapUpdate, Sem.run_bind, run_underlying Tryd.underlying64, MapKept.run_getObj_map hb, hc, MapKept.run_findKey Tryd.underlying9 hf, MapKept.run_setObj_map _ hb, Result.andThen]
  rw [wordE_succ]
  have e : ((w.alloc (.map (wordE i) i)).heap.setIfInBounds w.heap.size (.map ((wordE i).push { key := .string (wordS i), val := .int .i64 2, born := i }) (i + 1))) = (w.alloc (.map ((wordE i).push { key := .string (wordS i), val := .int .i64 2, born := i }) (i + 1))).heap := by
    exact set_last w.heap _ _
  rw [e]; rfl
set_option maxRecDepth 20000 in
set_option maxHeartbeats 1000000 in
theorem clayWords_any (w : World) :
    Calls Tryd.prog 45 #[] w fun e w' => e = .returned (.map (some w.heap.size)) ∧ w' = w.alloc (.map (wordE 17) 17) := by
  have f : (Instr.makeMap 64 none).run Tryd.prog w = .ok (.map (some w.heap.size)) (w.alloc (.map (wordE 0) 0)) := rfl
  have f0 := word_ins w 0 (by decide) ⟨#[97, 110, 100]⟩ rfl
  have f1 := word_ins w 1 (by decide) ⟨#[100, 101, 102]⟩ rfl
  have f2 := word_ins w 2 (by decide) ⟨#[101, 108, 115, 101]⟩ rfl
  have f3 := word_ins w 3 (by decide) ⟨#[101, 109, 105, 116]⟩ rfl
  have f4 := word_ins w 4 (by decide) ⟨#[102, 97, 108, 115, 101]⟩ rfl
  have f5 := word_ins w 5 (by decide) ⟨#[102, 110]⟩ rfl
  have f6 := word_ins w 6 (by decide) ⟨#[102, 111, 114]⟩ rfl
  have f7 := word_ins w 7 (by decide) ⟨#[104, 97, 115]⟩ rfl
  have f8 := word_ins w 8 (by decide) ⟨#[105, 102]⟩ rfl
  have f9 := word_ins w 9 (by decide) ⟨#[105, 110]⟩ rfl
  have f10 := word_ins w 10 (by decide) ⟨#[108, 101, 116]⟩ rfl
  have f11 := word_ins w 11 (by decide) ⟨#[108, 111, 97, 100]⟩ rfl
  have f12 := word_ins w 12 (by decide) ⟨#[110, 111, 110, 101]⟩ rfl
  have f13 := word_ins w 13 (by decide) ⟨#[110, 111, 116]⟩ rfl
  have f14 := word_ins w 14 (by decide) ⟨#[111, 114]⟩ rfl
  have f15 := word_ins w 15 (by decide) ⟨#[116, 104, 101, 110]⟩ rfl
  have f16 := word_ins w 16 (by decide) ⟨#[116, 114, 117, 101]⟩ rfl
  go_enter Tryd.func45, Tryd.ntmps45
  go_wp2
  go_ret
  exact ⟨rfl, rfl⟩
theorem lookup_word (W : World) (r : Nat) (hb : W.heap[r]? = some (.map (wordE 17) 17)) (s : ByteArray) :
    (Instr.lookup 64 (.map (some r)) (.string s) true).run Tryd.prog W = .ok (.tuple #[.int .i64 (if s.data.toList ∈ words then 2 else 0), .bool (decide (s.data.toList ∈ words))]) W := by
  have hc : ∀ b W, (Instr.checkKey b 10000 9 (.string s)).run Tryd.prog W = .ok () W := fun b W => MapKept.run_checkKey (k := .string s) Tryd.underlying9 (by simp [MapKept.IsKey]) b 9999
  by_cases hm : s.data.toList ∈ words
  · obtain ⟨j, hf⟩ := find_some s (wordE 17).toList 0 (fun e he => by
        obtain ⟨i, _, rfl⟩ := (wordE_mem 17 e).1 he
        exact ⟨⟨_, rfl⟩, rfl⟩) (by
        obtain ⟨i, hi, e⟩ := (wordS_mem s.data.toList).2 hm
        exact ⟨_, (wordE_mem 17 _).2 ⟨i, hi, rfl⟩, by simp [e]⟩)
    simp only [Instr.lookup, Sem.run_bind, run_underlying Tryd.underlying64, MapKept.run_getObj_map hb, hc, MapKept.run_findKey Tryd.underlying9 hf, Result.andThen, Sem.run_pure]
    simp [hm]
  · have hf : Instr.findNow .string (.string s) (wordE 17).toList 0 = some none := by
      refine find_none _ _ _ fun e he => ?_
      obtain ⟨j, hj, rfl⟩ := (wordE_mem 17 e).1 he
      refine ⟨_, rfl, ?_⟩
      rw [beq_toListBytes, beq_eq_false_iff_ne]
      intro e2
      exact hm ((wordS_mem s.data.toList).1 ⟨j, hj, by rw [Lib.toList_data, Lib.toList_data] at e2; rw [e2]⟩)
    simp only [Instr.lookup, Sem.run_bind, run_underlying Tryd.underlying64, MapKept.run_getObj_map hb, hc, MapKept.run_findKey Tryd.underlying9 hf, Result.andThen, Sem.run_pure, Tryd.zeroValue3]
    simp [hm]
end Go.Proofs.YtdhcjmlcpnljiaaDoor
