import Derived.Test.YtdhcjmlcpnljiaaDoorSGap
namespace Go.Proofs.YtdhcjmlcpnljiaaDoor
open Go.RowKit
set_option maxRecDepth 20000
theorem bytes_eq {a b : ByteArray} (h : (a.toList == b.toList) = true) : a = b := by
  rw [Lib.toList_data, Lib.toList_data, beq_iff_eq] at h
  exact ByteArray.ext (Array.toList_inj.1 h)
set_option maxHeartbeats 400000 in
theorem l1Words_any (w : World) :
    Calls Tryd.prog 41 #[] w fun e w' => e = .returned (.slice (some ⟨w.heap.size, 0, none⟩) 17 17) ∧ w' = w.alloc (.cells (words.map fun x => Value.string ⟨x.toArray⟩).toArray 9) := by
  go_enter Tryd.func41, Tryd.ntmps41
  go_wp2
  go_ret
  exact ⟨rfl, rfl⟩
set_option maxHeartbeats 400000 in
theorem l1Marks_any (w : World) :
    Calls Tryd.prog 43 #[] w fun e w' => e = .returned (.slice (some ⟨w.heap.size, 0, none⟩) 23 23) ∧ w' = w.alloc (.cells (marks.map fun x => Value.string ⟨x.toArray⟩).toArray 9) := by
  go_enter Tryd.func43, Tryd.ntmps43
  go_wp2
  go_ret
  exact ⟨rfl, rfl⟩
set_option maxHeartbeats 400000 in
theorem l1Has_any (b n : Nat) (s : ByteArray) (ss : Nat → ByteArray) (w : World) (hn : n ≤ 100)
    (hc : ∀ i, i < n → w.cell? ⟨b, i, none⟩ = some (.string (ss i))) :
    Calls Tryd.prog 40 #[.slice (some ⟨b, 0, none⟩) n n, .string s] w fun e w' => (e = .returned (.bool true) ∧ (∃ i, i < n ∧ ss i = s) ∨ e = .returned (.bool false) ∧ (∀ i, i < n → ¬ ss i = s)) ∧ w' = w := by
  go_enter Tryd.func40, Tryd.ntmps40
  go_wp2
  go_loop [5] (fun i => ∃ k : Nat, k ≤ n ∧ i = .int .i64 k ∧ ∀ i, i < k → ¬ ss i = s) (fun i => n - (intOf i).toNat)
  case atStart => exact ⟨0, Nat.zero_le _, rfl, fun i h => absurd h (Nat.not_lt_zero _)⟩
  case round =>
    obtain ⟨k, hk, rfl, hr⟩ := hrel
    have HR : Hid (∀ i, i < k → ¬ ss i = s) := hr
    clear hr
    by_cases hlt : k < n
    · have hck := hc k hlt
      have HC : Hid (∀ i, i < n → w.cell? ⟨b, i, none⟩ = some (.string (ss i))) := hc
      clear hc
      cases hq : ((ss k).toList == s.toList)
      · have HN : Hid (¬ ss k = s) := fun e => by rw [e] at hq; simp at hq
        go_wp2
        go_round
        case rel => exact ⟨k + 1, by omega, by go_num, fun i h => by
          rcases Nat.lt_or_eq_of_le (Nat.lt_succ_iff.1 h) with h | h
          · exact HR.out i h
          · subst h; exact HN.out⟩
        case measure => simp [intOf]; omega
      · have HN : Hid (ss k = s) := bytes_eq hq
        go_wp2
        go_ret
        exact ⟨.inl ⟨rfl, k, hlt, HN.out⟩, rfl⟩
    · go_wp2
      go_ret
      exact ⟨.inr ⟨rfl, fun i h => HR.out i (by omega)⟩, rfl⟩
def wordS (i : Nat) : ByteArray := ⟨(words.getD i []).toArray⟩
def markS (i : Nat) : ByteArray := ⟨(marks.getD i []).toArray⟩
theorem cell_new_row (w : World) (cs : Array Value) (t : TypeId) (i : Nat) : (w.alloc (.cells cs t)).cell? ⟨w.heap.size, i, none⟩ = cs[i]? := by
  have h := heap_alloc_new w (.cells cs t)
  unfold World.cell?
  rw [h]; rfl
theorem wordS_cell (w : World) (i : Nat) (h : i < 17) : (w.alloc (.cells (words.map fun x => Value.string ⟨x.toArray⟩).toArray 9)).cell? ⟨w.heap.size, i, none⟩ = some (.string (wordS i)) := by
  rw [cell_new_row]
  have hl : i < words.length := h
  simp [wordS, hl]
theorem markS_cell (w : World) (i : Nat) (h : i < 23) : (w.alloc (.cells (marks.map fun x => Value.string ⟨x.toArray⟩).toArray 9)).cell? ⟨w.heap.size, i, none⟩ = some (.string (markS i)) := by
  rw [cell_new_row]
  have hl : i < marks.length := h
  simp [markS, hl]
theorem wordS_mem (t : List UInt8) : (∃ i, i < 17 ∧ wordS i = ⟨t.toArray⟩) ↔ t ∈ words := by
  constructor
  · rintro ⟨i, h, e⟩
    have hl : i < words.length := h
    have e2 : words.getD i [] = t := by
      have := congrArg (fun b : ByteArray => b.data.toList) e
      simpa [wordS] using this
    rw [← e2]
    simp [hl]
  · intro h
    obtain ⟨i, hl, e⟩ := List.getElem_of_mem h
    exact ⟨i, hl, by simp [wordS, hl, e]⟩
theorem l1Has_words (s : ByteArray) (w : World) (b : Nat) (hc : ∀ i, i < 17 → w.cell? ⟨b, i, none⟩ = some (.string (wordS i))) :
    Calls Tryd.prog 40 #[.slice (some ⟨b, 0, none⟩) 17 17, .string s] w fun e w' => e = .returned (.bool (decide (s.data.toList ∈ words))) ∧ w' = w := by
  refine (l1Has_any b 17 s wordS w (by omega) hc).mono ?_
  rintro e w' ⟨⟨rfl, h⟩ | ⟨rfl, h⟩, rfl⟩
  · exact ⟨ret_bool (by have := (wordS_mem s.data.toList).1 (by simpa using h); simp [this]), rfl⟩
  · refine ⟨ret_bool ?_, rfl⟩
    have : ¬ s.data.toList ∈ words := fun hm => by
      obtain ⟨i, hi, e⟩ := (wordS_mem s.data.toList).2 hm
      exact h i hi (by simpa using e)
    simp [this]
end Go.Proofs.YtdhcjmlcpnljiaaDoor
