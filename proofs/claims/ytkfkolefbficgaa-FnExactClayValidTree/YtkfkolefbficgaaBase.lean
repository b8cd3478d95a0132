import Derived.Test.YtkfkolefbficgaaChecked
import Derived.Test.YtkfkolefbficgaaPlain
import Derived.WalkKit
import Derived.WalkSpells
import Derived.WalkLawsBesides
import Derived.Deep.QuietTactic
import Derived.BigQuiet
import Derived.Lib.Bytealg
import Derived.Lib.Strings
import Derived.BigCall
namespace Go.Proofs.Ytkfkolefbficgaa
open Go.RowKit
set_option maxRecDepth 20000

theorem ret_bool {a b : Bool} (h : a = b) : Ending.returned (.bool a) = .returned (.bool b) := by rw [h]
theorem ret_int {k : IntKind} {a b : Int} (h : a = b) : Ending.returned (.int k a) = .returned (.int k b) := by rw [h]
set_option maxHeartbeats 400000 in
theorem isDigit_any (c : Int) (w : World) :
    Calls Try.prog 40 #[.int .u8 c] w fun e w' => e = .returned (.bool (dig c)) ∧ w' = w := by
  go_enter Try.func40, Try.ntmps40
  go_wp2
  all_goals go_ret
  all_goals exact ⟨ret_bool (by unfold dig; rw [Bool.eq_iff_iff]; simp; try omega), rfl⟩
set_option maxHeartbeats 400000 in
theorem l1Digit_any (c : Int) (w : World) :
    Calls Try.prog 34 #[.int .u8 c] w fun e w' => e = .returned (.bool (dig c)) ∧ w' = w := by
  go_enter Try.func34, Try.ntmps34
  go_wp2
  all_goals go_ret
  all_goals exact ⟨ret_bool (by unfold dig; rw [Bool.eq_iff_iff]; simp; try omega), rfl⟩
set_option maxHeartbeats 400000 in
theorem l1Begins_any (c : Int) (w : World) :
    Calls Try.prog 35 #[.int .u8 c] w fun e w' => e = .returned (.bool (beg c)) ∧ w' = w := by
  go_enter Try.func35, Try.ntmps35
  go_wp2
  all_goals go_ret
  all_goals exact ⟨ret_bool (by unfold beg; rw [Bool.eq_iff_iff]; simp; try omega), rfl⟩
set_option maxHeartbeats 400000 in
theorem l1Letter_any (c : Int) (w : World) :
    Calls Try.prog 38 #[.int .u8 c] w fun e w' => e = .returned (.bool (let_ c)) ∧ w' = w := by
  cases hb : beg c <;> cases hd : dig c
  all_goals go_enter Try.func38, Try.ntmps38
  all_goals go_wp2_with (first
    | (go_at_call 35; refine (l1Begins_any _ _).mono ?_; rintro e w' ⟨rfl, rfl⟩)
    | (go_at_call 34; refine (l1Digit_any _ _).mono ?_; rintro e w' ⟨rfl, rfl⟩))
  all_goals go_ret
  all_goals exact ⟨ret_bool (by simp [let_, hb, hd]), rfl⟩
set_option maxHeartbeats 400000 in
theorem isName_any (c : Int) (w : World) :
    Calls Try.prog 41 #[.int .u8 c] w fun e w' => e = .returned (.bool (let_ c)) ∧ w' = w := by
  go_enter Try.func41, Try.ntmps41
  go_wp2_with (first
    | (go_at_call 40; refine (isDigit_any _ _).mono ?_; rintro e w' ⟨rfl, rfl⟩))
  all_goals go_ret
  all_goals exact ⟨ret_bool (by unfold let_ beg; generalize dig c = d; cases d <;> rw [Bool.eq_iff_iff] <;> simp <;> try omega), rfl⟩
set_option maxHeartbeats 400000 in
theorem nameSize_any (s : ByteArray) (w : World) (hs : s.size ≤ maxLen) :
    Calls Try.prog 39 #[.string s] w fun e w' => e = .returned (.int .i64 (run letB s.data.toList)) ∧ w' = w := by
  unfold maxLen at hs
  go_enter Try.func39, Try.ntmps39
  go_wp2
  go_loop [3] (fun i => ∃ k : Nat, k ≤ s.size ∧ i = .int .i64 k ∧ k ≤ run letB s.data.toList) (fun i => s.size - (intOf i).toNat)
  case atStart => exact ⟨0, Nat.zero_le _, rfl, Nat.zero_le _⟩
  case round =>
    obtain ⟨k, hk, rfl, hr⟩ := hrel
    by_cases hlt : k < s.size
    · have hl : k < s.data.toList.length := by simpa using hlt
      have hg : s.data.toList[k] = s[k] := rfl
      have HG : Hid (s.data.toList[k] = s[k]) := hg
      clear hg
      cases hp : let_ (s[k].toNat : Int)
      · have HE := run_stop letB _ k hr hl (by rw [HG.out]; exact hp)
        have HE' : Hid (run letB s.data.toList = k) := HE
        clear HE
        go_wp2_with (go_at_call 41; refine (isName_any _ _).mono ?_; rintro e w' ⟨rfl, rfl⟩)
        go_ret
        exact ⟨ret_int (by rw [HE'.out]), rfl⟩
      · have HE := run_step letB _ k hr hl (by rw [HG.out]; exact hp)
        go_wp2_with (go_at_call 41; refine (isName_any _ _).mono ?_; rintro e w' ⟨rfl, rfl⟩)
        go_round
        case rel => exact ⟨k + 1, by omega, by go_num, HE⟩
        case measure => simp [intOf]; omega
    · have HE : Hid (run letB s.data.toList = k) := by
        have := run_le letB s.data.toList
        have e : s.data.toList.length = s.size := by simp
        exact Nat.le_antisymm (by omega) hr
      go_wp2
      go_ret
      exact ⟨ret_int (by rw [HE.out]), rfl⟩
theorem byte_bd (c : UInt8) : 0 ≤ (c.toNat : Int) ∧ (c.toNat : Int) ≤ 255 := by have := c.toNat_lt; omega
theorem head_eq (s : ByteArray) (hp : 0 < s.size) : s.data.toList = s[0] :: s.data.toList.tail := by
  match s, hp with
  | ⟨⟨c :: r⟩⟩, _ => rfl
  | ⟨⟨[]⟩⟩, h => exact absurd h (by decide)
theorem len_size (s : ByteArray) : s.data.toList.length = s.size := by simp
theorem notEmpty (s : ByteArray) (hp : 0 < s.size) : s.toList.isEmpty = false := by
  rw [Lib.toList_data, head_eq s hp]; rfl
theorem get_eq (s : ByteArray) (k : Nat) (h : k < s.size) : s.data.toList[k]'(by rw [len_size]; exact h) = s[k] := rfl
theorem bytes_eq {a b : ByteArray} (h : (a.toList == b.toList) = true) : a = b := by
  rw [Lib.toList_data, Lib.toList_data, beq_iff_eq] at h
  exact ByteArray.ext (Array.toList_inj.1 h)
set_option maxHeartbeats 400000 in
theorem l1Words_any (w : World) :
    Calls Try.prog 37 #[] w fun e w' => e = .returned (.slice (some ⟨w.heap.size, 0, none⟩) 17 17) ∧ w' = w.alloc (.cells (words.map fun x => Value.string ⟨x.toArray⟩).toArray 9) := by
  go_enter Try.func37, Try.ntmps37
  go_wp2
  go_ret
  exact ⟨rfl, rfl⟩
set_option maxHeartbeats 400000 in
theorem l1Has_any (b n : Nat) (s : ByteArray) (ss : Nat → ByteArray) (w : World) (hn : n ≤ 100)
    (hc : ∀ i, i < n → w.cell? ⟨b, i, none⟩ = some (.string (ss i))) :
    Calls Try.prog 36 #[.slice (some ⟨b, 0, none⟩) n n, .string s] w fun e w' => (e = .returned (.bool true) ∧ (∃ i, i < n ∧ ss i = s) ∨ e = .returned (.bool false) ∧ (∀ i, i < n → ¬ ss i = s)) ∧ w' = w := by
  go_enter Try.func36, Try.ntmps36
  go_wp2
  go_loop [5] (fun i => ∃ k : Nat, k ≤ n ∧ i = .int .i64 k ∧ ∀ i, i < k → ¬ ss i = s) (fun i => n - (intOf i).toNat)
  case atStart => exact ⟨0, Nat.zero_le _, rfl, fun i h => absurd h (Nat.not_lt_zero _)⟩
  case round =>
    obtain ⟨k, hk, rfl, hr⟩ := hrel
    have HR : Hid (∀ i, i < k → ¬ ss i = s) := hr
    clear hr
    by_cases hlt : k < n
    · have hck := hc k hlt
      have HC : Hid (∀ i, i < n → w.cell? ⟨b, i, none⟩ = some (.string (ss i))) := hc
      clear hc
      cases hq : ((ss k).toList == s.toList)
      · have HN : Hid (¬ ss k = s) := fun e => by rw [e] at hq; simp at hq
        go_wp2
        go_round
        case rel => exact ⟨k + 1, by omega, by go_num, fun i h => by
          rcases Nat.lt_or_eq_of_le (Nat.lt_succ_iff.1 h) with h | h
          · exact HR.out i h
          · subst h; exact HN.out⟩
        case measure => simp [intOf]; omega
      · have HN : Hid (ss k = s) := bytes_eq hq
        go_wp2
        go_ret
        exact ⟨.inl ⟨rfl, k, hlt, HN.out⟩, rfl⟩
    · go_wp2
      go_ret
      exact ⟨.inr ⟨rfl, fun i h => HR.out i (by omega)⟩, rfl⟩
def wordS (i : Nat) : ByteArray := ⟨(words.getD i []).toArray⟩
theorem cell_new_row (w : World) (cs : Array Value) (t : TypeId) (i : Nat) : (w.alloc (.cells cs t)).cell? ⟨w.heap.size, i, none⟩ = cs[i]? := by
  have h := heap_alloc_new w (.cells cs t)
  unfold World.cell?
  rw [h]; rfl
theorem wordS_cell (w : World) (i : Nat) (h : i < 17) : (w.alloc (.cells (words.map fun x => Value.string ⟨x.toArray⟩).toArray 9)).cell? ⟨w.heap.size, i, none⟩ = some (.string (wordS i)) := by
  rw [cell_new_row]
  have hl : i < words.length := h
  simp [wordS, hl]
theorem wordS_mem (t : List UInt8) : (∃ i, i < 17 ∧ wordS i = ⟨t.toArray⟩) ↔ t ∈ words := by
  constructor
  · rintro ⟨i, h, e⟩
    have hl : i < words.length := h
    have e2 : words.getD i [] = t := by
      have := congrArg (fun b : ByteArray => b.data.toList) e
      simpa [wordS] using this
    rw [← e2]
    simp [hl]
  · intro h
    obtain ⟨i, hl, e⟩ := List.getElem_of_mem h
    exact ⟨i, hl, by simp [wordS, hl, e]⟩
theorem l1Has_words (s : ByteArray) (w : World) (b : Nat) (hc : ∀ i, i < 17 → w.cell? ⟨b, i, none⟩ = some (.string (wordS i))) :
    Calls Try.prog 36 #[.slice (some ⟨b, 0, none⟩) 17 17, .string s] w fun e w' => e = .returned (.bool (decide (s.data.toList ∈ words))) ∧ w' = w := by
  refine (l1Has_any b 17 s wordS w (by omega) hc).mono ?_
  rintro e w' ⟨⟨rfl, h⟩ | ⟨rfl, h⟩, rfl⟩
  · exact ⟨ret_bool (by have := (wordS_mem s.data.toList).1 (by simpa using h); simp [this]), rfl⟩
  · refine ⟨ret_bool ?_, rfl⟩
    have : ¬ s.data.toList ∈ words := fun hm => by
      obtain ⟨i, hi, e⟩ := (wordS_mem s.data.toList).2 hm
      exact h i hi (by simpa using e)
    simp [this]
theorem hid {p : Prop} (h : p) : Hid p := h
theorem own_base {w : World} {B B' e size k : Nat} {v : Value} {xs : List Value} (h : w.ownsRow B e size v k xs) (hB : B' ≤ B) : w.ownsRow B' e size v k xs := by
  obtain ⟨h1, h2 | ⟨g, cap, cur, a, b, c⟩⟩ := h
  · exact ⟨h1, .inl h2⟩
  · exact ⟨h1, .inr ⟨g, cap, cur, a, Nat.le_trans hB b, c⟩⟩
theorem own_below {w w1 : World} {B e size k : Nat} {v : Value} {xs : List Value} (h : w.ownsRow B e size v k xs) (hb : Below w.heap.size w w1) : w1.ownsRow B e size v k xs := by
  obtain ⟨h1, h2 | ⟨g, cap, cur, a, b, c, d⟩⟩ := h
  · exact ⟨h1, .inl h2⟩
  · refine ⟨h1, .inr ⟨g, cap, cur, a, b, ?_, d⟩⟩
    have hg : g < w.heap.size := (Array.getElem?_eq_some_iff.1 c).1
    rw [hb.block g hg]; exact c
/-- The first n words, as the entries of the program's own map. -/
def wordE (n : Nat) : Array MapEntry := ((List.range n).map fun i => ({ key := .string (wordS i), val := .int .i64 2, born := i } : MapEntry)).toArray
theorem wordE_succ (n : Nat) : wordE (n + 1) = (wordE n).push { key := .string (wordS n), val := .int .i64 2, born := n } := by
  simp [wordE, List.range_succ]
theorem find_none (s : ByteArray) (es : List MapEntry) (i : Nat) (h : ∀ e ∈ es, ∃ t, e.key = .string t ∧ (s == t) = false) : Instr.findNow .string (.string s) es i = some none := by
  induction es generalizing i with
  | nil => rfl
  | cons e es ih =>
    obtain ⟨t, ht, hne⟩ := h e (List.mem_cons_self ..)
    unfold Instr.findNow
    rw [ht]
    simp only [Instr.sameNow, hne]
    exact ih (i + 1) fun x hx => h x (List.mem_cons_of_mem _ hx)
theorem find_some (s : ByteArray) (es : List MapEntry) (i : Nat) (hs : ∀ e ∈ es, (∃ t, e.key = .string t) ∧ e.val = .int .i64 2) (h : ∃ e ∈ es, e.key = .string s) : ∃ j, Instr.findNow .string (.string s) es i = some (some (j, .int .i64 2)) := by
  induction es generalizing i with
  | nil => obtain ⟨e, he, _⟩ := h; simp at he
  | cons e es ih =>
    obtain ⟨⟨t, ht⟩, hv⟩ := hs e (List.mem_cons_self ..)
    unfold Instr.findNow
    rw [ht]
    simp only [Instr.sameNow]
    cases hq : (s == t) with
    | true => exact ⟨i, by simp [hv]⟩
    | false =>
      refine ih (i + 1) (fun x hx => hs x (List.mem_cons_of_mem _ hx)) ?_
      obtain ⟨x, hx, hk⟩ := h
      rcases List.mem_cons.1 hx with e2 | e2
      · subst e2
        rw [ht] at hk
        cases hk
        rw [beq_toListBytes] at hq
        simp at hq
      · exact ⟨x, e2, hk⟩
theorem wordE_mem (n : Nat) (e : MapEntry) : e ∈ (wordE n).toList ↔ ∃ i, i < n ∧ e = { key := .string (wordS i), val := .int .i64 2, born := i } := by
  simp [wordE]
  constructor
  · rintro ⟨i, hi, rfl⟩; exact ⟨i, hi, rfl⟩
  · rintro ⟨i, hi, rfl⟩; exact ⟨i, hi, rfl⟩
theorem word_apart : ∀ i, i < 17 → ∀ j, j < i → words.getD i [] ≠ words.getD j [] := by decide
theorem wordS_apart (i : Nat) (hi : i < 17) (j : Nat) (hj : j < i) : (wordS i == wordS j) = false := by
  rw [beq_toListBytes, beq_eq_false_iff_ne]
  intro e
  exact word_apart i hi j hj (by rw [Lib.toList_data, Lib.toList_data] at e; simpa [wordS] using e)
theorem set_last {α : Type} (a : Array α) (x y : α) : (a.push x).setIfInBounds a.size y = a.push y := by
  apply Array.ext
  · simp
  · intro i h1 h2
    rw [Array.getElem_setIfInBounds (by simpa using h1), Array.getElem_push, Array.getElem_push]
    by_cases h : a.size = i
    · subst h; simp
    · rw [if_neg h]
      simp at h1
      rw [dif_pos (by omega), dif_pos (by omega)]
theorem word_ins (w : World) (i : Nat) (hi : i < 17) (s : ByteArray) (hs : s = wordS i) :
    (Instr.mapUpdate 44 (.map (some w.heap.size)) (.string s) (.int .i64 2)).run Try.prog (w.alloc (.map (wordE i) i)) = .ok () (w.alloc (.map (wordE (i + 1)) (i + 1))) := by
  subst hs
  have hf : Instr.findNow .string (.string (wordS i)) (wordE i).toList 0 = some none := by
    refine find_none _ _ _ fun e he => ?_
    obtain ⟨j, hj, rfl⟩ := (wordE_mem i e).1 he
    exact ⟨_, rfl, wordS_apart i hi j hj⟩
  have hb : (w.alloc (.map (wordE i) i)).heap[w.heap.size]? = some (.map (wordE i) i) := heap_alloc_new w _
  have hc : ∀ W, (Instr.checkKey false 10000 9 (.string (wordS i))).run Try.prog W = .ok () W := fun W => MapKept.run_checkKey (k := .string (wordS i)) Try.underlying9 (by simp [MapKept.IsKey]) false 9999
  simp only [Instr.mapUpdate, Sem.run_bind, run_underlying Try.underlying44, MapKept.run_getObj_map hb, hc, MapKept.run_findKey Try.underlying9 hf, MapKept.run_setObj_map _ hb, Result.andThen]
  rw [wordE_succ]
  have e : ((w.alloc (.map (wordE i) i)).heap.setIfInBounds w.heap.size (.map ((wordE i).push { key := .string (wordS i), val := .int .i64 2, born := i }) (i + 1))) = (w.alloc (.map ((wordE i).push { key := .string (wordS i), val := .int .i64 2, born := i }) (i + 1))).heap := by
    exact set_last w.heap _ _
  rw [e]; rfl
set_option maxRecDepth 20000 in
set_option maxHeartbeats 1000000 in
theorem clayWords_any (w : World) :
    Calls Try.prog 15 #[] w fun e w' => e = .returned (.map (some w.heap.size)) ∧ w' = w.alloc (.map (wordE 17) 17) := by
  have f : (Instr.makeMap 44 none).run Try.prog w = .ok (.map (some w.heap.size)) (w.alloc (.map (wordE 0) 0)) := rfl
  have f0 := word_ins w 0 (by decide) ⟨#[97, 110, 100]⟩ rfl
  have f1 := word_ins w 1 (by decide) ⟨#[100, 101, 102]⟩ rfl
  have f2 := word_ins w 2 (by decide) ⟨#[101, 108, 115, 101]⟩ rfl
  have f3 := word_ins w 3 (by decide) ⟨#[101, 109, 105, 116]⟩ rfl
  have f4 := word_ins w 4 (by decide) ⟨#[102, 97, 108, 115, 101]⟩ rfl
  have f5 := word_ins w 5 (by decide) ⟨#[102, 110]⟩ rfl
  have f6 := word_ins w 6 (by decide) ⟨#[102, 111, 114]⟩ rfl
  have f7 := word_ins w 7 (by decide) ⟨#[104, 97, 115]⟩ rfl
  have f8 := word_ins w 8 (by decide) ⟨#[105, 102]⟩ rfl
  have f9 := word_ins w 9 (by decide) ⟨#[105, 110]⟩ rfl
  have f10 := word_ins w 10 (by decide) ⟨#[108, 101, 116]⟩ rfl
  have f11 := word_ins w 11 (by decide) ⟨#[108, 111, 97, 100]⟩ rfl
  have f12 := word_ins w 12 (by decide) ⟨#[110, 111, 110, 101]⟩ rfl
  have f13 := word_ins w 13 (by decide) ⟨#[110, 111, 116]⟩ rfl
  have f14 := word_ins w 14 (by decide) ⟨#[111, 114]⟩ rfl
  have f15 := word_ins w 15 (by decide) ⟨#[116, 104, 101, 110]⟩ rfl
  have f16 := word_ins w 16 (by decide) ⟨#[116, 114, 117, 101]⟩ rfl
  go_enter Try.func15, Try.ntmps15
  go_wp2
  go_ret
  exact ⟨rfl, rfl⟩
theorem lookup_word (W : World) (r : Nat) (hb : W.heap[r]? = some (.map (wordE 17) 17)) (s : ByteArray) :
    (Instr.lookup 44 (.map (some r)) (.string s) true).run Try.prog W = .ok (.tuple #[.int .i64 (if s.data.toList ∈ words then 2 else 0), .bool (decide (s.data.toList ∈ words))]) W := by
  have hc : ∀ b W, (Instr.checkKey b 10000 9 (.string s)).run Try.prog W = .ok () W := fun b W => MapKept.run_checkKey (k := .string s) Try.underlying9 (by simp [MapKept.IsKey]) b 9999
  by_cases hm : s.data.toList ∈ words
  · obtain ⟨j, hf⟩ := find_some s (wordE 17).toList 0 (fun e he => by
        obtain ⟨i, _, rfl⟩ := (wordE_mem 17 e).1 he
        exact ⟨⟨_, rfl⟩, rfl⟩) (by
        obtain ⟨i, hi, e⟩ := (wordS_mem s.data.toList).2 hm
        exact ⟨_, (wordE_mem 17 _).2 ⟨i, hi, rfl⟩, by simp [e]⟩)
    simp only [Instr.lookup, Sem.run_bind, run_underlying Try.underlying44, MapKept.run_getObj_map hb, hc, MapKept.run_findKey Try.underlying9 hf, Result.andThen, Sem.run_pure]
    simp [hm]
  · have hf : Instr.findNow .string (.string s) (wordE 17).toList 0 = some none := by
      refine find_none _ _ _ fun e he => ?_
      obtain ⟨j, hj, rfl⟩ := (wordE_mem 17 e).1 he
      refine ⟨_, rfl, ?_⟩
      rw [beq_toListBytes, beq_eq_false_iff_ne]
      intro e2
      exact hm ((wordS_mem s.data.toList).1 ⟨j, hj, by rw [Lib.toList_data, Lib.toList_data] at e2; rw [e2]⟩)
    simp only [Instr.lookup, Sem.run_bind, run_underlying Try.underlying44, MapKept.run_getObj_map hb, hc, MapKept.run_findKey Try.underlying9 hf, Result.andThen, Sem.run_pure, Try.zeroValue3]
    simp [hm]
end Go.Proofs.Ytkfkolefbficgaa
