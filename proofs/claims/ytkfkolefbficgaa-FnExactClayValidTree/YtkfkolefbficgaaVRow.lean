import Derived.Test.YtkfkolefbficgaaVApart
namespace Go.Proofs.Ytkfkolefbficgaa
open Go.RowKit
/-- A row of one-cell elements in block g: n of cap are in use and hold xs. -/
def RowAt (W : World) (e : TypeId) (g cap n : Nat) (xs : List Value) : Prop := xs.length = n ∧ n ≤ cap ∧ cap ≤ maxLen ∧ ∃ cur, W.heap[g]? = some (.cells cur e (0, 0)) ∧ cur.size = cap ∧ cur.toList.take n = xs
theorem RowAt.own {W : World} {B : Nat} {e : TypeId} {g cap n : Nat} {xs : List Value} (h : RowAt W e g cap n xs) (hB : B ≤ g) : W.ownsRow B e 1 (.slice (some ⟨g, 0, none⟩) n cap) n xs := by
  obtain ⟨h1, h2, h3, cur, h4, h5, h6⟩ := h
  exact ⟨by omega, .inr ⟨g, cap, cur, rfl, hB, h4, h2, h3, by omega, by rw [Nat.mul_one]; exact h6⟩⟩
theorem RowAt.of_own {W : World} {B : Nat} {e : TypeId} {v : Value} {n : Nat} {xs : List Value} (h : W.ownsRow B e 1 v n xs) (hv : ¬ v = .slice none 0 0) : ∃ g cap, v = .slice (some ⟨g, 0, none⟩) n cap ∧ B ≤ g ∧ RowAt W e g cap n xs := by
  obtain ⟨h1, ⟨h2, _⟩ | ⟨g, cap, cur, h2, h3, h4, h5, h6, h7, h8⟩⟩ := h
  · exact absurd h2 hv
  · exact ⟨g, cap, h2, h3, by omega, h5, h6, cur, h4, by omega, by rw [Nat.mul_one] at h8; exact h8⟩
theorem RowAt.lt {W : World} {e : TypeId} {g cap n : Nat} {xs : List Value} (h : RowAt W e g cap n xs) : g < W.heap.size := by
  obtain ⟨_, _, _, cur, h4, _⟩ := h
  exact (Array.getElem?_eq_some_iff.1 h4).1
theorem RowAt.keep {W W' : World} {e : TypeId} {g cap n : Nat} {xs : List Value} (h : RowAt W e g cap n xs) (hk : W'.heap[g]? = W.heap[g]?) : RowAt W' e g cap n xs := by
  obtain ⟨h1, h2, h3, cur, h4, h5⟩ := h
  exact ⟨h1, h2, h3, cur, hk.trans h4, h5⟩
theorem RowAt.alloc {W : World} {e : TypeId} {g cap n : Nat} {xs : List Value} (h : RowAt W e g cap n xs) (o : Obj) : RowAt (W.alloc o) e g cap n xs := h.keep (Below.heap_alloc W o g h.lt)
theorem RowAt.grown {W W' : World} {e : TypeId} {g cap n : Nat} {xs : List Value} {row : Option Nat} (h : RowAt W e g cap n xs) (hg : W.grownBy W' row) (hne : row ≠ some g) : RowAt W' e g cap n xs := h.keep (hg.block g h.lt (fun e => hne e.symm))
theorem RowAt.below {W W' : World} {e : TypeId} {g cap n B : Nat} {xs : List Value} (h : RowAt W e g cap n xs) (hb : Below B W W') (hB : g < B) : RowAt W' e g cap n xs := h.keep (hb.block g hB)
theorem RowAt.front {W : World} {e : TypeId} {g cap n : Nat} {xs ys : List Value} (h : RowAt W e g cap n (xs ++ ys)) : RowAt W e g cap xs.length xs := by
  obtain ⟨h1, h2, h3, cur, h4, h5, h6⟩ := h
  rw [List.length_append] at h1
  refine ⟨rfl, by omega, h3, cur, h4, h5, ?_⟩
  have : (cur.toList.take n).take xs.length = (xs ++ ys).take xs.length := by rw [h6]
  rw [List.take_take, Nat.min_eq_left (by omega)] at this
  rw [this]; simp
theorem RowAt.cell {W : World} {e : TypeId} {g cap n : Nat} {xs : List Value} (h : RowAt W e g cap n xs) (i : Nat) (hi : i < n) : W.cell? ⟨g, i, none⟩ = xs[i]? := by
  obtain ⟨h1, h2, h3, cur, h4, h5, h6⟩ := h
  have e1 : W.cell? ⟨g, i, none⟩ = cur[i]? := by unfold World.cell?; rw [h4]; rfl
  rw [e1, ← h6, List.getElem?_take_of_lt hi]; simp
def intRow (s : List Nat) : List Value := s.map fun (x : Nat) => Value.int .i64 (x : Int)
theorem intRow_length (s : List Nat) : (intRow s).length = s.length := by simp [intRow]
theorem intRow_append (s t : List Nat) : intRow (s ++ t) = intRow s ++ intRow t := by simp [intRow]
theorem intRow_one (s : List Nat) : ∀ u ∈ intRow s, u.oneCell' = true := by
  intro u hu
  obtain ⟨x, _, rfl⟩ := List.mem_map.1 hu
  rfl
/-- Rows: their blocks, capacities and numbers. -/
def gridRow (L : List (Nat × Nat × List Nat)) : List Value := L.map fun x => Value.slice (some ⟨x.1, 0, none⟩) x.2.2.length x.2.1
theorem gridRow_length (L : List (Nat × Nat × List Nat)) : (gridRow L).length = L.length := by simp [gridRow]
theorem info_int : (Try.prog.info? 3).map (fun i => (i.zero, i.size, i.bytes)) = some (some (.int .i64 0), 1, 8) := by kernel_rfl
theorem info_ints : (Try.prog.info? 40).map (fun i => (i.zero, i.size, i.bytes)) = some (some (.slice none 0 0), 1, 24) := by kernel_rfl
/-- The kids of each of the first j nodes, and what is open behind them. -/
def kidsF (nd : Nat → Nd) : Nat → Option (List (List Nat) × List Nat)
  | 0 => some ([], [])
  | j + 1 => match kidsF nd j with
    | none => none
    | some (o, s) => if 0 ≤ (nd j).kids ∧ (nd j).kids ≤ s.length then some (o ++ [s.drop (s.length - (nd j).kids.toNat)], s.take (s.length - (nd j).kids.toNat) ++ [j]) else none
theorem kidsF_len (nd : Nat → Nd) (j : Nat) (o : List (List Nat)) (s : List Nat) (h : kidsF nd j = some (o, s)) : o.length = j ∧ s.length ≤ j ∧ (∀ x ∈ s, x < j) := by
  induction j generalizing o s with
  | zero => simp [kidsF] at h; obtain ⟨rfl, rfl⟩ := h; simp
  | succ j ih =>
    simp only [kidsF] at h
    cases hk : kidsF nd j with
    | none => rw [hk] at h; cases h
    | some x =>
      obtain ⟨o', s'⟩ := x
      rw [hk] at h
      obtain ⟨i1, i2, i3⟩ := ih o' s' hk
      dsimp only at h
      split at h
      · cases h
        refine ⟨by simp [i1], by simp; omega, ?_⟩
        intro x hx
        rcases List.mem_append.1 hx with hx | hx
        · have := i3 x (List.mem_of_mem_take hx); omega
        · simp at hx; omega
      · cases h
theorem kidsF_bad {nd : Nat → Nd} {j : Nat} {o : List (List Nat)} {s : List Nat} (h : kidsF nd j = some (o, s)) (hb : ¬ (0 ≤ (nd j).kids ∧ (nd j).kids ≤ s.length)) (N : Nat) (hN : j < N) : kidsF nd N = none := by
  have h1 : kidsF nd (j + 1) = none := by simp only [kidsF]; rw [h]; simp only; rw [if_neg hb]
  induction N with
  | zero => omega
  | succ N ih =>
    by_cases e : j = N
    · subst e; exact h1
    · simp only [kidsF]; rw [ih (by omega)]
theorem kidsF_good {nd : Nat → Nd} {j k : Nat} {o : List (List Nat)} {sp sk : List Nat} (h : kidsF nd j = some (o, sp ++ sk)) (hk : (nd j).kids = k) (hl : sk.length = k) : kidsF nd (j + 1) = some (o ++ [sk], sp ++ [j]) := by
  have e : (sp ++ sk).length - ((k : Int)).toNat = sp.length := by simp; omega
  simp only [kidsF]; rw [h]; simp only
  rw [hk, if_pos ⟨by omega, by simp; omega⟩, e]
  simp
end Go.Proofs.Ytkfkolefbficgaa
