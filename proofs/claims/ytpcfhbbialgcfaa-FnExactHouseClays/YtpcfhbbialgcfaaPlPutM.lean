import Derived.Test.YtpcfhbbialgcfaaPlSpec
import Derived.Test.YtpcfhbbialgcfaaPlLawV
/-! Files put into a place in order: plain mathematics. -/
namespace Go.Proofs.Ytpcfhbbialgcfaa.P
open Go.RowKit
open Go.Proofs.Ytpcfhbbialgcfaa.R (Fl fl0)
set_option maxRecDepth 20000
/-- A binary search over what goes from true to false once. -/
theorem bsGo_parts (p : Nat → Bool) : ∀ (g lo hi : Nat), lo ≤ hi → hi - lo ≤ g → (∀ a b, a ≤ b → b < hi → p b = true → p a = true) → (∀ j, j < lo → p j = true) →
    lo ≤ Lib.bsGo p g lo hi ∧ Lib.bsGo p g lo hi ≤ hi ∧ (∀ j, j < Lib.bsGo p g lo hi → p j = true) ∧ (∀ j, Lib.bsGo p g lo hi ≤ j → j < hi → p j = false) := by
  intro g
  induction g with
  | zero =>
    intro lo hi h1 h2 h3 h4
    have e : Lib.bsGo p 0 lo hi = lo := by simp [Lib.bsGo]
    rw [e]
    exact ⟨Nat.le_refl _, h1, h4, fun j h5 h6 => by omega⟩
  | succ g ih =>
    intro lo hi h1 h2 h3 h4
    by_cases hlt : lo < hi
    · simp only [Lib.bsGo, hlt, if_true]
      cases hp : p ((lo + hi) / 2)
      · simp only [Bool.false_eq_true, if_false]
        obtain ⟨a, b, c, d⟩ := ih lo ((lo + hi) / 2) (by omega) (by omega) (fun x y h5 h6 h7 => h3 x y h5 (by omega) h7) h4
        refine ⟨a, by omega, c, fun j h5 h6 => ?_⟩
        by_cases h7 : j < (lo + hi) / 2
        · exact d j h5 h7
        · cases hq : p j
          · rfl
          · have := h3 ((lo + hi) / 2) j (by omega) h6 hq
            rw [hp] at this
            cases this
      · simp only [if_true]
        obtain ⟨a, b, c, d⟩ := ih ((lo + hi) / 2 + 1) hi (by omega) (by omega) h3 (fun j h5 => h3 j ((lo + hi) / 2) (by omega) (by omega) hp)
        exact ⟨by omega, b, c, d⟩
    · have e : Lib.bsGo p (g + 1) lo hi = lo := by simp [Lib.bsGo, hlt]
      rw [e]
      exact ⟨Nat.le_refl _, h1, h4, fun j h5 h6 => by omega⟩
theorem ltB_false {a b : ByteArray} (h : ltB a b = false) (h2 : ¬ a = b) : ltB b a = true := by
  have h3 : ¬ a.toList < b.toList := fun h4 => by rw [(ltB_iff a b).2 h4] at h; cases h
  rw [ltB_iff]
  have h5 : ¬ a.toList = b.toList := fun e => h2 (by
    rw [Lib.toList_data, Lib.toList_data] at e
    exact ByteArray.ext (Array.toList_inj.1 e))
  rcases Std.lt_trichotomy a.toList b.toList with h6 | h6 | h6
  · exact absurd h6 h3
  · exact absurd h6 h5
  · exact h6
/-- The parts of names that ascend, by a name. -/
theorem atN_parts {ns : List ByteArray} (h : Asc ns) (t : ByteArray) : (∀ j, j < atN ns t → ltB (ns.getD j ⟨#[]⟩) t = true) ∧ (∀ j, atN ns t ≤ j → j < ns.length → ltB (ns.getD j ⟨#[]⟩) t = false) := by
  have := bsGo_parts (fun j => Op.bytesLess (ns.getD j ⟨#[]⟩).toList t.toList) ns.length 0 ns.length (Nat.zero_le _) (by omega) (fun a b h1 h2 h3 => by
    by_cases e : a = b
    · subst e; exact h3
    · exact ltB_trans (h.lt (by omega) h2) h3) (fun j hj => absurd hj (Nat.not_lt_zero _))
  exact ⟨this.2.2.1, this.2.2.2⟩
theorem atN_above {ns : List ByteArray} (h : Asc ns) {t : ByteArray} {j : Nat} (h1 : atN ns t < j) (h2 : j < ns.length) : ltB t (ns.getD j ⟨#[]⟩) = true ∧ ¬ ns.getD j ⟨#[]⟩ = t := by
  obtain ⟨_, hb⟩ := atN_parts h t
  have h3 := hb _ (Nat.le_refl _) (by omega)
  have h4 := h.lt h1 h2
  have h5 : ltB t (ns.getD j ⟨#[]⟩) = true := by
    by_cases e : ns.getD (atN ns t) ⟨#[]⟩ = t
    · rw [e] at h4; exact h4
    · exact ltB_trans (ltB_false h3 e) h4
  exact ⟨h5, fun e => by rw [e] at h5; exact ltB_irrefl _ h5⟩
/-- A file put into files in order. -/
def putL (l : List Fl) (x : Fl) : List Fl := l.take (atN (nms l) x.name) ++ x :: l.drop (if thereN (nms l) x.name then atN (nms l) x.name + 1 else atN (nms l) x.name)
theorem take_nms (l : List Fl) (i : Nat) : (nms l).take i = nms (l.take i) := by simp [nms, List.map_take]
theorem drop_nms (l : List Fl) (i : Nat) : (nms l).drop i = nms (l.drop i) := by simp [nms, List.map_drop]
theorem nms_app (a b : List Fl) : nms (a ++ b) = nms a ++ nms b := by simp [nms]
theorem nms_put (l : List Fl) (x : Fl) : nms (putL l x) = putN (nms l) x.name := by
  unfold putL putN
  by_cases h : thereN (nms l) x.name
  · rw [if_pos h, if_pos h, nms_app]
    obtain ⟨h1, h2⟩ := h
    have e : nms (x :: l.drop (atN (nms l) x.name + 1)) = (nms l).drop (atN (nms l) x.name) := by
      rw [List.drop_eq_getElem_cons h1, drop_nms]
      have h3 : (nms l)[atN (nms l) x.name] = x.name := by
        rw [List.getD_eq_getElem?_getD, List.getElem?_eq_getElem h1] at h2
        exact h2
      rw [h3]
      rfl
    rw [e, ← take_nms, List.take_append_drop]
  · rw [if_neg h, if_neg h, nms_app]
    unfold insAt
    rw [take_nms, drop_nms]
    rfl
theorem asc_put {ns : List ByteArray} (h : Asc ns) (t : ByteArray) : Asc (putN ns t) := by
  unfold putN
  split
  · exact h
  · rename_i hn
    obtain ⟨ha, hb⟩ := atN_parts h t
    have hle := atN_le ns t
    intro i h0 hi
    rw [insAt_length hle] at hi
    rw [insAt_get hle, insAt_get hle]
    by_cases h1 : i < atN ns t
    · rw [if_pos h1, if_pos (by omega)]
      exact h i h0 (by omega)
    · by_cases h2 : i = atN ns t
      · rw [if_neg h1, if_pos h2, if_pos (by omega)]
        exact ha _ (by omega)
      · rw [if_neg h1, if_neg h2]
        by_cases h3 : i - 1 = atN ns t
        · rw [if_neg (by omega), if_pos h3, h3]
          have h4 := hb _ (Nat.le_refl _) (by omega)
          exact ltB_false h4 (fun e => hn ⟨by omega, e⟩)
        · rw [if_neg (by omega), if_neg h3]
          exact h (i - 1) (by omega) (by omega)
/-- What the model has put so far. -/
def dropN (l : List Fl) (x : Fl) : Nat := if thereN (nms l) x.name then atN (nms l) x.name + 1 else atN (nms l) x.name
theorem dropN_yes {l : List Fl} {x : Fl} (h : thereN (nms l) x.name) : dropN l x = atN (nms l) x.name + 1 := if_pos h
theorem dropN_no {l : List Fl} {x : Fl} (h : ¬ thereN (nms l) x.name) : dropN l x = atN (nms l) x.name := if_neg h
theorem dropN_le (l : List Fl) (x : Fl) : atN (nms l) x.name ≤ dropN l x ∧ dropN l x ≤ atN (nms l) x.name + 1 := by
  unfold dropN
  split <;> omega
theorem putL_eq (l : List Fl) (x : Fl) : putL l x = l.take (atN (nms l) x.name) ++ x :: l.drop (dropN l x) := rfl
def outL (l : List Fl) (x : Fl) (i : Nat) : List Fl := if i ≤ atN (nms l) x.name then l.take i else l.take (atN (nms l) x.name) ++ x :: (l.take i).drop (dropN l x)
theorem outL_le {l : List Fl} {x : Fl} {i : Nat} (h : i ≤ atN (nms l) x.name) : outL l x i = l.take i := if_pos h
theorem outL_gt {l : List Fl} {x : Fl} {i : Nat} (h : atN (nms l) x.name < i) : outL l x i = l.take (atN (nms l) x.name) ++ x :: (l.take i).drop (dropN l x) := if_neg (by omega)
theorem outL_low {l : List Fl} {x : Fl} {i : Nat} (h : i < atN (nms l) x.name) (hi : i < l.length) : outL l x (i + 1) = outL l x i ++ [l.getD i fl0] := by
  rw [outL_le (by omega), outL_le (by omega), take_next hi]
theorem outL_there {l : List Fl} {x : Fl} {i : Nat} (h : i = atN (nms l) x.name) (ht : thereN (nms l) x.name) : outL l x (i + 1) = outL l x i ++ [x] := by
  rw [outL_gt (by omega), outL_le (by omega), dropN_yes ht, ← h]
  have : (l.take (i + 1)).drop (i + 1) = [] := by simp
  rw [this]
theorem outL_new {l : List Fl} {x : Fl} {i : Nat} (h : i = atN (nms l) x.name) (hi : i < l.length) (ht : ¬ thereN (nms l) x.name) : outL l x (i + 1) = outL l x i ++ [x] ++ [l.getD i fl0] := by
  rw [outL_gt (by omega), outL_le (by omega), dropN_no ht, ← h, take_next hi]
  have : (l.take i ++ [l.getD i fl0]).drop i = [l.getD i fl0] := by
    have h2 : (l.take i).length = i := by rw [List.length_take]; omega
    rw [List.drop_append, h2, Nat.sub_self, List.drop_of_length_le (by omega)]
    rfl
  rw [this]
  simp
theorem outL_high {l : List Fl} {x : Fl} {i : Nat} (h : atN (nms l) x.name < i) (hi : i < l.length) : outL l x (i + 1) = outL l x i ++ [l.getD i fl0] := by
  have h1 := dropN_le l x
  rw [outL_gt (by omega), outL_gt h, take_next hi, List.drop_append_of_le_length (by rw [List.length_take]; omega)]
  simp
theorem outL_fin {l : List Fl} {x : Fl} (h : atN (nms l) x.name < l.length) : outL l x l.length = putL l x := by
  rw [outL_gt h, putL_eq, List.take_length]
theorem outL_end {l : List Fl} {x : Fl} (h : atN (nms l) x.name = l.length) : outL l x l.length ++ [x] = putL l x := by
  have hn : ¬ thereN (nms l) x.name := fun ht => by have := ht.1; rw [h, nms_len] at this; omega
  rw [outL_le (by omega), putL_eq, dropN_no hn, h, List.take_length, List.drop_length]
theorem outL_len (l : List Fl) (x : Fl) (i : Nat) : (outL l x i).length ≤ i + 1 := by
  by_cases h : i ≤ atN (nms l) x.name
  · rw [outL_le h, List.length_take]; omega
  · have h1 := dropN_le l x
    rw [outL_gt (by omega), List.length_append, List.length_cons, List.length_take, List.length_drop, List.length_take]
    omega
theorem putL_len (l : List Fl) (x : Fl) : (putL l x).length ≤ l.length + 1 := by
  have := congrArg List.length (nms_put l x)
  rw [nms_len] at this
  rw [this]
  have := putN_len (nms l) x.name
  rw [nms_len] at this
  exact this
end Go.Proofs.Ytpcfhbbialgcfaa.P
