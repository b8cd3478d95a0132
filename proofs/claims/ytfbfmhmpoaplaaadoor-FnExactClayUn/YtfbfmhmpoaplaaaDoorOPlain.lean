import Derived.Test.YtfbfmhmpoaplaaaDoorTPlain
/-! The order of values: nothing of the program stands here. -/
namespace Go.Proofs.YtfbfmhmpoaplaaaDoor
def cmpI (a b : Int) : Int := if a < b then -1 else if a = b then 0 else 1
def cmpT (s t : ByteArray) : Int := if s.toList = t.toList then 0 else if less s.toList t.toList = true then -1 else 1
mutual
def ord : Tr → Tr → Int
  | .node k n t ks, .node k' n' t' ks' => if k ≠ k' then cmpI k k' else if k = 2 ∨ k = 3 then cmpI n n' else if k = 4 then cmpT t t' else ords ks ks'
def ords : List Tr → List Tr → Int
  | [], [] => 0
  | [], _ :: _ => -1
  | _ :: _, [] => 1
  | a :: la, b :: bs => if ord a b ≠ 0 then ord a b else ords la bs
end
theorem less_irrefl (l : List UInt8) : less l l = false := by
  induction l with
  | nil => rfl
  | cons a l ih =>
    unfold less at ih ⊢
    simp only [Go.Op.bytesLess, ih]
    simp
theorem cmpI_range (a b : Int) : cmpI a b = -1 ∨ cmpI a b = 0 ∨ cmpI a b = 1 := by unfold cmpI; split <;> (try split) <;> simp
theorem cmpT_range (a b : ByteArray) : cmpT a b = -1 ∨ cmpT a b = 0 ∨ cmpT a b = 1 := by unfold cmpT; split <;> (try split) <;> simp
theorem ords_step (a b : List Tr) (i : Nat) (h1 : i < a.length) (h2 : i < b.length) : ords (a.drop i) (b.drop i) = if ord a[i] b[i] ≠ 0 then ord a[i] b[i] else ords (a.drop (i + 1)) (b.drop (i + 1)) := by
  rw [List.drop_eq_getElem_cons h1, List.drop_eq_getElem_cons h2]; simp only [ords]
theorem ords_end (a b : List Tr) (i : Nat) (h1 : i ≤ a.length) (h2 : i ≤ b.length) (h : i = a.length ∨ i = b.length) : ords (a.drop i) (b.drop i) = cmpI a.length b.length := by
  have la : (a.drop i).length = a.length - i := List.length_drop
  have lb : (b.drop i).length = b.length - i := List.length_drop
  unfold cmpI
  match ha : a.drop i, hb : b.drop i with
  | [], [] => rw [ha] at la; rw [hb] at lb; simp at la lb; simp only [ords]; rw [if_neg (by omega), if_pos (by omega)]
  | [], y :: ys => rw [ha] at la; rw [hb] at lb; simp at la lb; simp only [ords]; rw [if_pos (by omega)]
  | x :: xs, [] => rw [ha] at la; rw [hb] at lb; simp at la lb; simp only [ords]; rw [if_neg (by omega), if_neg (by omega)]
  | x :: xs, y :: ys => rw [ha] at la; rw [hb] at lb; simp at la lb; omega
theorem ord_kind {t t' : Tr} (h : ¬ t.kind = t'.kind) : ord t t' = cmpI t.kind t'.kind := by
  cases t; cases t'
  simp only [Tr.kind] at h ⊢
  simp only [ord]; rw [if_pos h]
theorem ord_num {t t' : Tr} (h : t.kind = t'.kind) (hk : t.kind = 2 ∨ t.kind = 3) : ord t t' = cmpI t.num t'.num := by
  cases t; cases t'
  simp only [Tr.kind] at h hk
  subst h
  simp only [ord, Tr.num]; rw [if_neg (by simp), if_pos hk]
theorem ord_text {t t' : Tr} (h : t.kind = t'.kind) (hk : t.kind = 4) : ord t t' = cmpT t.text t'.text := by
  cases t; cases t'
  simp only [Tr.kind] at h hk
  subst h
  simp only [ord, Tr.text]; rw [if_neg (by simp), if_neg (by omega), if_pos hk]
theorem ord_kids {t t' : Tr} (h : t.kind = t'.kind) (hk : t.kind = 1 ∨ t.kind = 5 ∨ t.kind = 6) : ord t t' = ords t.kids t'.kids := by
  cases t; cases t'
  simp only [Tr.kind] at h hk
  subst h
  simp only [ord, Tr.kids]; rw [if_neg (by simp), if_neg (by omega), if_neg (by omega)]
theorem ords_range_of (a : List Tr) (h : ∀ x ∈ a, ∀ t, ord x t = -1 ∨ ord x t = 0 ∨ ord x t = 1) (b : List Tr) : ords a b = -1 ∨ ords a b = 0 ∨ ords a b = 1 := by
  induction a generalizing b with
  | nil => cases b <;> simp [ords]
  | cons x a ih =>
    cases b with
    | nil => simp [ords]
    | cons y b =>
      simp only [ords]
      split
      · exact h x (by simp) y
      · exact ih (fun z hz => h z (by simp [hz])) b
theorem ord_range (t : Tr) : ∀ t', ord t t' = -1 ∨ ord t t' = 0 ∨ ord t t' = 1 := by
  refine Tr.ind (P := fun t => ∀ t', ord t t' = -1 ∨ ord t t' = 0 ∨ ord t t' = 1) ?_ t
  intro k n tx ks ih t'
  cases t'
  simp only [ord]
  split
  · exact cmpI_range _ _
  · split
    · exact cmpI_range _ _
    · split
      · exact cmpT_range _ _
      · exact ords_range_of ks ih _
end Go.Proofs.YtfbfmhmpoaplaaaDoor
