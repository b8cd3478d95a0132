import Derived.Test.YtdhcjmlcpnljiaaDoorMILeaf
import Derived.Test.YtdhcjmlcpnljiaaDoorIWord
import Derived.Test.YtdhcjmlcpnljiaaDoorIName
import Derived.Test.YtdhcjmlcpnljiaaDoorMSWord
/-! The words of the program's own map. -/
namespace Go.Proofs.YtdhcjmlcpnljiaaDoor
open Go.RowKit Go.Shelf
def mwS (i : Nat) : ByteArray := ⟨(mws.getD i []).toArray⟩
def mwE (n : Nat) : Array MapEntry := ((List.range n).map fun i => ({ key := .string (mwS i), val := .int .i64 (mtype (mws.getD i [])), born := i } : MapEntry)).toArray
theorem mwE_succ (n : Nat) : mwE (n + 1) = (mwE n).push { key := .string (mwS n), val := .int .i64 (mtype (mws.getD n [])), born := n } := by
  simp [mwE, List.range_succ]
theorem mwE_mem (n : Nat) (e : MapEntry) : e ∈ (mwE n).toList ↔ ∃ i, i < n ∧ e = { key := .string (mwS i), val := .int .i64 (mtype (mws.getD i [])), born := i } := by
  simp only [mwE, List.mem_map, List.mem_range]
  constructor
  · rintro ⟨i, hi, rfl⟩; exact ⟨i, hi, rfl⟩
  · rintro ⟨i, hi, rfl⟩; exact ⟨i, hi, rfl⟩
theorem mw_apart : ∀ i, i < 35 → ∀ j, j < i → mws.getD i [] ≠ mws.getD j [] := by decide
theorem mwS_apart (i : Nat) (hi : i < 35) (j : Nat) (hj : j < i) : (mwS i == mwS j) = false := by
  rw [beq_toListBytes, beq_eq_false_iff_ne]
  intro e
  exact mw_apart i hi j hj (by rw [Lib.toList_data, Lib.toList_data] at e; simpa [mwS] using e)
theorem mw_ins (w : World) (i : Nat) (hi : i < 35) (s : ByteArray) (hs : s = mwS i) (v : Int) (hv : v = (mtype (mws.getD i []) : Int)) :
    (Instr.mapUpdate 64 (.map (some w.heap.size)) (.string s) (.int .i64 v)).run Tryd.prog (w.alloc (.map (mwE i) i)) = .ok () (w.alloc (.map (mwE (i + 1)) (i + 1))) := by
  subst hs; subst hv
  have hf : Instr.findNow .string (.string (mwS i)) (mwE i).toList 0 = some none := by
    refine find_none _ _ _ fun e he => ?_
    obtain ⟨j, hj, rfl⟩ := (mwE_mem i e).1 he
    exact ⟨_, rfl, mwS_apart i hi j hj⟩
  have hb : (w.alloc (.map (mwE i) i)).heap[w.heap.size]? = some (.map (mwE i) i) := heap_alloc_new w _
  have hc : ∀ W, (Instr.checkKey false 10000 9 (.string (mwS i))).run Tryd.prog W = .ok () W := fun W => MapKept.run_checkKey (k := .string (mwS i)) Tryd.underlying9 (by simp [MapKept.IsKey]) false 9999
  simp only [Instr.mapUpdate, Sem.run_bind, run_underlying Tryd.underlying64, MapKept.run_getObj_map hb, hc, MapKept.run_findKey Tryd.underlying9 hf, MapKept.run_setObj_map _ hb, Result.andThen]
  rw [mwE_succ]
  have e : ((w.alloc (.map (mwE i) i)).heap.setIfInBounds w.heap.size (.map ((mwE i).push { key := .string (mwS i), val := .int .i64 (mtype (mws.getD i [])), born := i }) (i + 1))) = (w.alloc (.map ((mwE i).push { key := .string (mwS i), val := .int .i64 (mtype (mws.getD i [])), born := i }) (i + 1))).heap := by
    exact set_last w.heap _ _
  rw [e]; rfl
set_option maxRecDepth 20000 in
set_option maxHeartbeats 4000000 in
theorem millWords_any (w : World) :
    Calls Tryd.prog 33 #[] w fun e w' => e = .returned (.map (some w.heap.size)) ∧ w' = w.alloc (.map (mwE 35) 35) := by
  have f : (Instr.makeMap 64 none).run Tryd.prog w = .ok (.map (some w.heap.size)) (w.alloc (.map (mwE 0) 0)) := rfl
  have f0 := mw_ins w 0 (by decide) ⟨#[98, 111, 111, 108]⟩ rfl 1 (by decide)
  have f1 := mw_ins w 1 (by decide) ⟨#[116, 101, 120, 116]⟩ rfl 2 (by decide)
  have f2 := mw_ins w 2 (by decide) ⟨#[117, 56]⟩ rfl 3 (by decide)
  have f3 := mw_ins w 3 (by decide) ⟨#[117, 49, 54]⟩ rfl 4 (by decide)
  have f4 := mw_ins w 4 (by decide) ⟨#[117, 51, 50]⟩ rfl 5 (by decide)
  have f5 := mw_ins w 5 (by decide) ⟨#[117, 54, 52]⟩ rfl 6 (by decide)
  have f6 := mw_ins w 6 (by decide) ⟨#[105, 56]⟩ rfl 7 (by decide)
  have f7 := mw_ins w 7 (by decide) ⟨#[105, 49, 54]⟩ rfl 8 (by decide)
  have f8 := mw_ins w 8 (by decide) ⟨#[105, 51, 50]⟩ rfl 9 (by decide)
  have f9 := mw_ins w 9 (by decide) ⟨#[105, 54, 52]⟩ rfl 10 (by decide)
  have f10 := mw_ins w 10 (by decide) ⟨#[102, 110]⟩ rfl 0 (by decide)
  have f11 := mw_ins w 11 (by decide) ⟨#[108, 101, 116]⟩ rfl 0 (by decide)
  have f12 := mw_ins w 12 (by decide) ⟨#[105, 102]⟩ rfl 0 (by decide)
  have f13 := mw_ins w 13 (by decide) ⟨#[101, 108, 115, 101]⟩ rfl 0 (by decide)
  have f14 := mw_ins w 14 (by decide) ⟨#[119, 104, 105, 108, 101]⟩ rfl 0 (by decide)
  have f15 := mw_ins w 15 (by decide) ⟨#[98, 114, 101, 97, 107]⟩ rfl 0 (by decide)
  have f16 := mw_ins w 16 (by decide) ⟨#[99, 111, 110, 116, 105, 110, 117, 101]⟩ rfl 0 (by decide)
  have f17 := mw_ins w 17 (by decide) ⟨#[114, 101, 116, 117, 114, 110]⟩ rfl 0 (by decide)
  have f18 := mw_ins w 18 (by decide) ⟨#[102, 97, 105, 108]⟩ rfl 0 (by decide)
  have f19 := mw_ins w 19 (by decide) ⟨#[119, 114, 105, 116, 101]⟩ rfl 0 (by decide)
  have f20 := mw_ins w 20 (by decide) ⟨#[115, 97, 121]⟩ rfl 0 (by decide)
  have f21 := mw_ins w 21 (by decide) ⟨#[116, 114, 117, 101]⟩ rfl 0 (by decide)
  have f22 := mw_ins w 22 (by decide) ⟨#[102, 97, 108, 115, 101]⟩ rfl 0 (by decide)
  have f23 := mw_ins w 23 (by decide) ⟨#[114, 101, 97, 100]⟩ rfl 0 (by decide)
  have f24 := mw_ins w 24 (by decide) ⟨#[104, 97, 115]⟩ rfl 0 (by decide)
  have f25 := mw_ins w 25 (by decide) ⟨#[108, 105, 115, 116]⟩ rfl 0 (by decide)
  have f26 := mw_ins w 26 (by decide) ⟨#[116, 111, 111, 108]⟩ rfl 0 (by decide)
  have f27 := mw_ins w 27 (by decide) ⟨#[97, 114, 103]⟩ rfl 0 (by decide)
  have f28 := mw_ins w 28 (by decide) ⟨#[108, 101, 110]⟩ rfl 0 (by decide)
  have f29 := mw_ins w 29 (by decide) ⟨#[97, 116]⟩ rfl 0 (by decide)
  have f30 := mw_ins w 30 (by decide) ⟨#[99, 117, 116]⟩ rfl 0 (by decide)
  have f31 := mw_ins w 31 (by decide) ⟨#[102, 105, 110, 100]⟩ rfl 0 (by decide)
  have f32 := mw_ins w 32 (by decide) ⟨#[99, 104, 114]⟩ rfl 0 (by decide)
  have f33 := mw_ins w 33 (by decide) ⟨#[100, 101, 99]⟩ rfl 0 (by decide)
  have f34 := mw_ins w 34 (by decide) ⟨#[110, 117, 109]⟩ rfl 0 (by decide)
  go_enter Tryd.func33, Tryd.ntmps33
  go_wp2
  go_ret
  exact ⟨rfl, rfl⟩
theorem mwS_mem (t : List UInt8) : (∃ i, i < 35 ∧ mwS i = ⟨t.toArray⟩) ↔ t ∈ mws := by
  rw [mem_get]
  constructor
  · rintro ⟨i, h, e⟩
    refine ⟨i, h, ?_⟩
    have := congrArg (fun b : ByteArray => b.data.toList) e
    simpa [mwS] using this
  · rintro ⟨i, hl, e⟩
    exact ⟨i, hl, by unfold mwS; rw [e]⟩
theorem mfind_some (s : ByteArray) (x : Value) (es : List MapEntry) (i : Nat) (hs : ∀ e ∈ es, (∃ t, e.key = .string t) ∧ (e.key = .string s → e.val = x)) (h : ∃ e ∈ es, e.key = .string s) : ∃ j, Instr.findNow .string (.string s) es i = some (some (j, x)) := by
  induction es generalizing i with
  | nil => obtain ⟨e, he, _⟩ := h; simp at he
  | cons e es ih =>
    obtain ⟨⟨t, ht⟩, hv⟩ := hs e (List.mem_cons_self ..)
    unfold Instr.findNow
    rw [ht]
    simp only [Instr.sameNow]
    cases hq : (s == t) with
    | true =>
      have e2 : s = t := by rw [beq_toListBytes] at hq; exact bytes_eq hq
      exact ⟨i, by simp [hv (by rw [ht, e2])]⟩
    | false =>
      refine ih (i + 1) (fun x hx => hs x (List.mem_cons_of_mem _ hx)) ?_
      obtain ⟨x, hx, hk⟩ := h
      rcases List.mem_cons.1 hx with e2 | e2
      · subst e2
        rw [ht] at hk
        cases hk
        rw [beq_toListBytes] at hq
        simp at hq
      · exact ⟨x, e2, hk⟩
theorem mkey_val (s : ByteArray) (e : MapEntry) (he : e ∈ (mwE 35).toList) : (∃ t, e.key = .string t) ∧ (e.key = .string s → e.val = .int .i64 (mtype s.data.toList)) := by
  obtain ⟨i, _, rfl⟩ := (mwE_mem 35 e).1 he
  refine ⟨⟨_, rfl⟩, fun h => ?_⟩
  simp only [Value.string.injEq] at h
  subst h; simp [mwS]
theorem mlookup2 (W : World) (r : Nat) (hb : W.heap[r]? = some (.map (mwE 35) 35)) (s : ByteArray) :
    (Instr.lookup 64 (.map (some r)) (.string s) true).run Tryd.prog W = .ok (.tuple #[.int .i64 (mtype s.data.toList), .bool (decide (s.data.toList ∈ mws))]) W := by
  have hc : ∀ b W, (Instr.checkKey b 10000 9 (.string s)).run Tryd.prog W = .ok () W := fun b W => MapKept.run_checkKey (k := .string s) Tryd.underlying9 (by simp [MapKept.IsKey]) b 9999
  by_cases hm : s.data.toList ∈ mws
  · obtain ⟨j, hf⟩ := mfind_some s _ (mwE 35).toList 0 (mkey_val s) (by
        obtain ⟨i, hi, e⟩ := (mwS_mem s.data.toList).2 hm
        exact ⟨_, (mwE_mem 35 _).2 ⟨i, hi, rfl⟩, by simp [e]⟩)
    simp only [Instr.lookup, Sem.run_bind, run_underlying Tryd.underlying64, MapKept.run_getObj_map hb, hc, MapKept.run_findKey Tryd.underlying9 hf, Result.andThen, Sem.run_pure]
    simp [hm]
  · have hf : Instr.findNow .string (.string s) (mwE 35).toList 0 = some none := by
      refine find_none _ _ _ fun e he => ?_
      obtain ⟨j, hj, rfl⟩ := (mwE_mem 35 e).1 he
      refine ⟨_, rfl, ?_⟩
      rw [beq_toListBytes, beq_eq_false_iff_ne]
      intro e2
      exact hm ((mwS_mem s.data.toList).1 ⟨j, hj, by rw [Lib.toList_data, Lib.toList_data] at e2; rw [e2]⟩)
    have h0 : mtype s.data.toList = 0 := by
      unfold mtype; rw [if_neg]; intro h; exact hm ((mem_mws _).2 (.inl h))
    simp only [Instr.lookup, Sem.run_bind, run_underlying Tryd.underlying64, MapKept.run_getObj_map hb, hc, MapKept.run_findKey Tryd.underlying9 hf, Result.andThen, Sem.run_pure, Tryd.zeroValue3]
    simp [hm, h0]
theorem mlookup1 (W : World) (r : Nat) (hb : W.heap[r]? = some (.map (mwE 35) 35)) (s : ByteArray) :
    (Instr.lookup 64 (.map (some r)) (.string s) false).run Tryd.prog W = .ok (.int .i64 (mtype s.data.toList)) W := by
  have hc : ∀ b W, (Instr.checkKey b 10000 9 (.string s)).run Tryd.prog W = .ok () W := fun b W => MapKept.run_checkKey (k := .string s) Tryd.underlying9 (by simp [MapKept.IsKey]) b 9999
  by_cases hm : s.data.toList ∈ mws
  · obtain ⟨j, hf⟩ := mfind_some s _ (mwE 35).toList 0 (mkey_val s) (by
        obtain ⟨i, hi, e⟩ := (mwS_mem s.data.toList).2 hm
        exact ⟨_, (mwE_mem 35 _).2 ⟨i, hi, rfl⟩, by simp [e]⟩)
    simp only [Instr.lookup, Sem.run_bind, run_underlying Tryd.underlying64, MapKept.run_getObj_map hb, hc, MapKept.run_findKey Tryd.underlying9 hf, Result.andThen, Sem.run_pure]
    simp
  · have hf : Instr.findNow .string (.string s) (mwE 35).toList 0 = some none := by
      refine find_none _ _ _ fun e he => ?_
      obtain ⟨j, hj, rfl⟩ := (mwE_mem 35 e).1 he
      refine ⟨_, rfl, ?_⟩
      rw [beq_toListBytes, beq_eq_false_iff_ne]
      intro e2
      exact hm ((mwS_mem s.data.toList).1 ⟨j, hj, by rw [Lib.toList_data, Lib.toList_data] at e2; rw [e2]⟩)
    have h0 : mtype s.data.toList = 0 := by
      unfold mtype; rw [if_neg]; intro h; exact hm ((mem_mws _).2 (.inl h))
    simp only [Instr.lookup, Sem.run_bind, run_underlying Tryd.underlying64, MapKept.run_getObj_map hb, hc, MapKept.run_findKey Tryd.underlying9 hf, Result.andThen, Sem.run_pure, Tryd.zeroValue3]
    simp [h0]
end Go.Proofs.YtdhcjmlcpnljiaaDoor
