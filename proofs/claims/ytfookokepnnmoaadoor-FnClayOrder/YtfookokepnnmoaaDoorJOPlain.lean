import Derived.Lib.Bytealg
import Derived.Test.YtfookokepnnmoaaDoorJTBase
/-! The order of values: nothing of the program stands here. -/
namespace Go.Proofs.YtfookokepnnmoaaDoor
def cmpI (a b : Int) : Int := if a < b then -1 else if a = b then 0 else 1
def cmpT (s t : ByteArray) : Int := if s.toList = t.toList then 0 else if less s.toList t.toList = true then -1 else 1
mutual
def ord : Tr → Tr → Int
  | .node k n t ks, .node k' n' t' ks' => if k ≠ k' then cmpI k k' else if k = 2 ∨ k = 3 then cmpI n n' else if k = 4 then cmpT t t' else ords ks ks'
def ords : List Tr → List Tr → Int
  | [], [] => 0
  | [], _ :: _ => -1
  | _ :: _, [] => 1
  | a :: la, b :: bs => if ord a b ≠ 0 then ord a b else ords la bs
end
theorem less_irrefl (l : List UInt8) : less l l = false := by
  induction l with
  | nil => rfl
  | cons a l ih =>
    unfold less at ih ⊢
    simp only [Go.Op.bytesLess, ih]
    simp
theorem cmpI_range (a b : Int) : cmpI a b = -1 ∨ cmpI a b = 0 ∨ cmpI a b = 1 := by unfold cmpI; split <;> (try split) <;> simp
theorem cmpT_range (a b : ByteArray) : cmpT a b = -1 ∨ cmpT a b = 0 ∨ cmpT a b = 1 := by unfold cmpT; split <;> (try split) <;> simp
theorem ords_step (a b : List Tr) (i : Nat) (h1 : i < a.length) (h2 : i < b.length) : ords (a.drop i) (b.drop i) = if ord a[i] b[i] ≠ 0 then ord a[i] b[i] else ords (a.drop (i + 1)) (b.drop (i + 1)) := by
  rw [List.drop_eq_getElem_cons h1, List.drop_eq_getElem_cons h2]; simp only [ords]
theorem ords_end (a b : List Tr) (i : Nat) (h1 : i ≤ a.length) (h2 : i ≤ b.length) (h : i = a.length ∨ i = b.length) : ords (a.drop i) (b.drop i) = cmpI a.length b.length := by
  have la : (a.drop i).length = a.length - i := List.length_drop
  have lb : (b.drop i).length = b.length - i := List.length_drop
  unfold cmpI
  match ha : a.drop i, hb : b.drop i with
  | [], [] => rw [ha] at la; rw [hb] at lb; simp at la lb; simp only [ords]; rw [if_neg (by omega), if_pos (by omega)]
  | [], y :: ys => rw [ha] at la; rw [hb] at lb; simp at la lb; simp only [ords]; rw [if_pos (by omega)]
  | x :: xs, [] => rw [ha] at la; rw [hb] at lb; simp at la lb; simp only [ords]; rw [if_neg (by omega), if_neg (by omega)]
  | x :: xs, y :: ys => rw [ha] at la; rw [hb] at lb; simp at la lb; omega
theorem ord_kind {t t' : Tr} (h : ¬ t.kind = t'.kind) : ord t t' = cmpI t.kind t'.kind := by
  cases t; cases t'
  simp only [Tr.kind] at h ⊢
  simp only [ord]; rw [if_pos h]
theorem ord_num {t t' : Tr} (h : t.kind = t'.kind) (hk : t.kind = 2 ∨ t.kind = 3) : ord t t' = cmpI t.num t'.num := by
  cases t; cases t'
  simp only [Tr.kind] at h hk
  subst h
  simp only [ord, Tr.num]; rw [if_neg (by simp), if_pos hk]
theorem ord_text {t t' : Tr} (h : t.kind = t'.kind) (hk : t.kind = 4) : ord t t' = cmpT t.text t'.text := by
  cases t; cases t'
  simp only [Tr.kind] at h hk
  subst h
  simp only [ord, Tr.text]; rw [if_neg (by simp), if_neg (by omega), if_pos hk]
theorem ord_kids {t t' : Tr} (h : t.kind = t'.kind) (hk : t.kind = 1 ∨ t.kind = 5 ∨ t.kind = 6) : ord t t' = ords t.kids t'.kids := by
  cases t; cases t'
  simp only [Tr.kind] at h hk
  subst h
  simp only [ord, Tr.kids]; rw [if_neg (by simp), if_neg (by omega), if_neg (by omega)]
theorem ords_range_of (a : List Tr) (h : ∀ x ∈ a, ∀ t, ord x t = -1 ∨ ord x t = 0 ∨ ord x t = 1) (b : List Tr) : ords a b = -1 ∨ ords a b = 0 ∨ ords a b = 1 := by
  induction a generalizing b with
  | nil => cases b <;> simp [ords]
  | cons x a ih =>
    cases b with
    | nil => simp [ords]
    | cons y b =>
      simp only [ords]
      split
      · exact h x (by simp) y
      · exact ih (fun z hz => h z (by simp [hz])) b
theorem ord_range (t : Tr) : ∀ t', ord t t' = -1 ∨ ord t t' = 0 ∨ ord t t' = 1 := by
  refine Tr.ind (P := fun t => ∀ t', ord t t' = -1 ∨ ord t t' = 0 ∨ ord t t' = 1) ?_ t
  intro k n tx ks ih t'
  cases t'
  simp only [ord]
  split
  · exact cmpI_range _ _
  · split
    · exact cmpI_range _ _
    · split
      · exact cmpT_range _ _
      · exact ords_range_of ks ih _
end Go.Proofs.YtfookokepnnmoaaDoor
/-! The order of values is total: nothing of the program stands here. -/
namespace Go.Proofs.YtfookokepnnmoaaDoor
theorem less_asymm (a b : List UInt8) (h : less a b = true) : less b a = false := by
  unfold less at *
  induction a generalizing b with
  | nil => cases b <;> simp [Go.Op.bytesLess] at h ⊢
  | cons x a ih =>
    cases b with
    | nil => simp [Go.Op.bytesLess] at h
    | cons y b =>
      simp only [Go.Op.bytesLess, Bool.or_eq_true, decide_eq_true_eq, Bool.and_eq_true, beq_iff_eq, Bool.or_eq_false_iff, decide_eq_false_iff_not] at h ⊢
      rcases h with h | ⟨rfl, h⟩
      · refine ⟨fun h2 => ?_, ?_⟩
        · have h3 := UInt8.lt_iff_toNat_lt.1 h
          have h4 := UInt8.lt_iff_toNat_lt.1 h2
          omega
        · by_cases e : y = x
          · subst e
            have h3 := UInt8.lt_iff_toNat_lt.1 h
            omega
          · simp [e]
      · refine ⟨fun h2 => ?_, by simp [ih b h]⟩
        have h4 := UInt8.lt_iff_toNat_lt.1 h2
        omega
theorem less_total (a b : List UInt8) (h : ¬ a = b) (hl : less a b = false) : less b a = true := by
  unfold less at *
  induction a generalizing b with
  | nil =>
    cases b with
    | nil => exact absurd rfl h
    | cons y b => simp [Go.Op.bytesLess] at hl
  | cons x a ih =>
    cases b with
    | nil => simp [Go.Op.bytesLess]
    | cons y b =>
      simp only [Go.Op.bytesLess, Bool.or_eq_true, decide_eq_true_eq, Bool.and_eq_true, beq_iff_eq, Bool.or_eq_false_iff, decide_eq_false_iff_not, Bool.and_eq_false_iff] at hl ⊢
      obtain ⟨h1, h2⟩ := hl
      by_cases e : x = y
      · subst e
        right
        refine ⟨rfl, ih b (fun e => h (by rw [e])) ?_⟩
        rcases h2 with h2 | h2
        · simp at h2
        · exact h2
      · left
        rw [UInt8.lt_iff_toNat_lt] at h1 ⊢
        have : x.toNat ≠ y.toNat := fun h => e (UInt8.toNat_inj.1 h)
        omega
theorem less_trans (a b c : List UInt8) (h : less a b = true) (h2 : less b c = true) : less a c = true := by
  unfold less at *
  induction a generalizing b c with
  | nil =>
    cases c with
    | nil => cases b <;> simp [Go.Op.bytesLess] at h2
    | cons z c => simp [Go.Op.bytesLess]
  | cons x a ih =>
    cases b with
    | nil => simp [Go.Op.bytesLess] at h
    | cons y b =>
      cases c with
      | nil => simp [Go.Op.bytesLess] at h2
      | cons z c =>
        simp only [Go.Op.bytesLess, Bool.or_eq_true, decide_eq_true_eq, Bool.and_eq_true, beq_iff_eq] at h h2 ⊢
        rcases h with h | ⟨rfl, h⟩ <;> rcases h2 with h2 | ⟨rfl, h2⟩
        · left
          rw [UInt8.lt_iff_toNat_lt] at h h2 ⊢
          omega
        · exact .inl h
        · exact .inl h2
        · exact .inr ⟨rfl, ih b c h h2⟩
theorem cmpI_neg (a b : Int) : cmpI a b = -cmpI b a := by unfold cmpI; split <;> split <;> (try split) <;> (try split) <;> omega
theorem cmpT_neg (a b : ByteArray) : cmpT a b = -cmpT b a := by
  unfold cmpT
  by_cases e : a.toList = b.toList
  · rw [if_pos e, if_pos e.symm]; rfl
  · have e' : ¬ b.toList = a.toList := fun h => e h.symm
    simp only [e, e', if_false]
    cases h : less a.toList b.toList
    · simp [less_total _ _ e h]
    · simp [less_asymm _ _ h]
theorem ords_neg_of (a : List Tr) (h : ∀ x ∈ a, ∀ t, ord x t = -ord t x) (b : List Tr) : ords a b = -ords b a := by
  induction a generalizing b with
  | nil => cases b <;> simp [ords]
  | cons x a ih =>
    cases b with
    | nil => simp [ords]
    | cons y b =>
      simp only [ords]
      have h1 := h x (by simp) y
      have h2 := ih (fun z hz => h z (by simp [hz])) b
      by_cases e : ord y x = 0
      · rw [if_neg (by rw [h1, e]; simp), if_neg (by rw [e]; simp), h2]
      · rw [if_pos (by rw [h1]; omega), if_pos e, h1]
theorem ord_neg (t : Tr) : ∀ t', ord t t' = -ord t' t := by
  refine Tr.ind (P := fun t => ∀ t', ord t t' = -ord t' t) ?_ t
  intro k n tx ks ih t'
  obtain ⟨k', n', tx', ks'⟩ := t'
  simp only [ord]
  by_cases hk : k = k'
  · subst hk
    by_cases c1 : k = 2 ∨ k = 3
    · simp only [ne_eq, not_true, if_false, if_pos c1]
      exact cmpI_neg _ _
    · by_cases c2 : k = 4
      · simp only [ne_eq, not_true, if_false, if_neg c1, if_pos c2]
        exact cmpT_neg _ _
      · simp only [ne_eq, not_true, if_false, if_neg c1, if_neg c2]
        exact ords_neg_of ks ih ks'
  · rw [if_pos hk, if_pos (fun h => hk h.symm)]; exact cmpI_neg _ _
theorem bytes_of_list {a b : ByteArray} (h : a.toList = b.toList) : a = b := by
  have e : ∀ x : ByteArray, x.toList = x.data.toList := fun x => by
    have := Go.Lib.toList_data x
    exact this
  rw [e, e] at h
  exact ByteArray.ext (Array.toList_inj.1 h)
theorem cmpI_zero {a b : Int} (h : cmpI a b = 0) : a = b := by unfold cmpI at h; split at h <;> (try split at h) <;> omega
theorem cmpT_zero {a b : ByteArray} (h : cmpT a b = 0) : a = b := by
  unfold cmpT at h
  split at h
  · rename_i e; exact bytes_of_list e
  · split at h <;> omega
theorem ords_zero_of (a b : List Tr) (h : ∀ x ∈ a, ∀ t ∈ b, ord x t = 0 → x = t) (e : ords a b = 0) : a = b := by
  induction a generalizing b with
  | nil => cases b <;> simp [ords] at e ⊢
  | cons x a ih =>
    cases b with
    | nil => simp [ords] at e
    | cons y b =>
      simp only [ords] at e
      by_cases hz : ord x y = 0
      · rw [if_neg (by simp [hz])] at e
        rw [h x (by simp) y (by simp) hz, ih b (fun z hz t ht => h z (by simp [hz]) t (by simp [ht])) e]
      · rw [if_pos hz] at e
        exact absurd e hz
theorem okT_kids {k n : Int} {t : ByteArray} {ks : List Tr} (h : OkT (.node k n t ks)) : ∀ x ∈ ks, OkT x := by
  simp only [OkT, okTs_iff] at h; exact h.2
theorem ord_zero (t : Tr) : ∀ t', OkT t → OkT t' → ord t t' = 0 → t = t' := by
  refine Tr.ind (P := fun t => ∀ t', OkT t → OkT t' → ord t t' = 0 → t = t') ?_ t
  intro k n tx ks ih t' h h' e
  obtain ⟨k', n', tx', ks'⟩ := t'
  have hk1 := okT_kids h
  have hk2 := okT_kids h'
  have hl := h
  have hl' := h'
  simp only [OkT] at hl hl'
  have l1 := hl.1
  have l2 := hl'.1
  simp only [ord] at e
  by_cases hk : k = k'
  · subst hk
    rw [if_neg (by simp)] at e
    unfold LocOk at l1 l2
    have ht : ∀ {a b : ByteArray}, a.toList = [] → b.toList = [] → a = b := fun ha hb => bytes_of_list (ha.trans hb.symm)
    rcases l1 with ⟨rfl, a1, a2, a3⟩ | ⟨rfl, a1, a2, a3⟩ | ⟨rfl, a2, a3⟩ | ⟨rfl, a1, a2, a3⟩ | ⟨rfl, a1, a2, a3⟩ | ⟨rfl, a1, a2, a3⟩ <;>
      rcases l2 with ⟨c, b1, b2, b3⟩ | ⟨c, b1, b2, b3⟩ | ⟨c, b2, b3⟩ | ⟨c, b1, b2, b3⟩ | ⟨c, b1, b2, b3⟩ | ⟨c, b1, b2, b3⟩ <;> first | exact absurd c (by decide) | skip
    · rw [a1, b1, a3, b3, ht a2 b2]
    · rw [if_pos (.inl rfl)] at e
      rw [cmpI_zero e, a3, b3, ht a2 b2]
    · rw [if_pos (.inr rfl)] at e
      rw [cmpI_zero e, a3, b3, ht a2 b2]
    · rw [if_neg (by decide), if_pos rfl] at e
      rw [cmpT_zero e, a1, b1, a3, b3]
    · rw [if_neg (by decide), if_neg (by decide)] at e
      rw [a1, b1, ht a2 b2, ords_zero_of ks ks' (fun x hx t ht e => ih x hx t (hk1 x hx) (hk2 t ht) e) e]
    · rw [if_neg (by decide), if_neg (by decide)] at e
      rw [a1, b1, ht a2 b2, ords_zero_of ks ks' (fun x hx t ht e => ih x hx t (hk1 x hx) (hk2 t ht) e) e]
  · rw [if_pos hk] at e
    exact absurd (cmpI_zero e) hk
theorem cmpI_trans {a b c : Int} (h : cmpI a b ≤ 0) (h2 : cmpI b c ≤ 0) : cmpI a c ≤ 0 := by
  unfold cmpI at *
  split at h <;> (try split at h) <;> split at h2 <;> (try split at h2) <;> split <;> (try split) <;> omega
theorem cmpT_trans {a b c : ByteArray} (h : cmpT a b ≤ 0) (h2 : cmpT b c ≤ 0) : cmpT a c ≤ 0 := by
  unfold cmpT at *
  by_cases e1 : a.toList = b.toList
  · rw [e1]; exact h2
  · by_cases e2 : b.toList = c.toList
    · rw [← e2]; exact h
    · rw [if_neg e1] at h
      rw [if_neg e2] at h2
      cases l1 : less a.toList b.toList
      · rw [l1] at h; simp at h
      · cases l2 : less b.toList c.toList
        · rw [l2] at h2; simp at h2
        · rw [less_trans _ _ _ l1 l2]
          split <;> simp
theorem ords_trans_of (a b c : List Tr) (h : ∀ x ∈ a, ∀ y ∈ b, ∀ z ∈ c, ord x y ≤ 0 → ord y z ≤ 0 → ord x z ≤ 0) (ha : ∀ x ∈ a, OkT x) (hb : ∀ x ∈ b, OkT x) (hc : ∀ x ∈ c, OkT x) (e1 : ords a b ≤ 0) (e2 : ords b c ≤ 0) : ords a c ≤ 0 := by
  induction a generalizing b c with
  | nil => cases c <;> simp [ords]
  | cons x a ih =>
    cases b with
    | nil => simp [ords] at e1
    | cons y b =>
      cases c with
      | nil => simp [ords] at e2
      | cons z c =>
        simp only [ords] at e1 e2 ⊢
        have hx := ha x (by simp)
        have hy := hb y (by simp)
        have hz := hc z (by simp)
        have ih' := ih b c (fun x hx y hy z hz => h x (by simp [hx]) y (by simp [hy]) z (by simp [hz])) (fun x hx => ha x (by simp [hx])) (fun x hx => hb x (by simp [hx])) (fun x hx => hc x (by simp [hx]))
        by_cases z1 : ord x y = 0
        · obtain rfl := ord_zero x y hx hy z1
          rw [if_neg (by simp [z1])] at e1
          by_cases z2 : ord x z = 0
          · rw [if_neg (by simp [z2])] at e2 ⊢
            exact ih' e1 e2
          · rw [if_pos z2] at e2 ⊢
            exact e2
        · rw [if_pos z1] at e1
          by_cases z2 : ord y z = 0
          · obtain rfl := ord_zero y z hy hz z2
            rw [if_pos z1]
            exact e1
          · rw [if_pos z2] at e2
            have h3 := h x (by simp) y (by simp) z (by simp) e1 e2
            by_cases z3 : ord x z = 0
            · obtain rfl := ord_zero x z hx hz z3
              have := ord_neg x y
              omega
            · rw [if_pos z3]; exact h3
theorem ord_trans (t : Tr) : ∀ t' t'', OkT t → OkT t' → OkT t'' → ord t t' ≤ 0 → ord t' t'' ≤ 0 → ord t t'' ≤ 0 := by
  refine Tr.ind (P := fun t => ∀ t' t'', OkT t → OkT t' → OkT t'' → ord t t' ≤ 0 → ord t' t'' ≤ 0 → ord t t'' ≤ 0) ?_ t
  intro k n tx ks ih t' t'' h h' h'' e1 e2
  obtain ⟨k', n', tx', ks'⟩ := t'
  obtain ⟨k'', n'', tx'', ks''⟩ := t''
  simp only [ord] at e1 e2 ⊢
  by_cases hk : k = k'
  · subst hk
    rw [if_neg (by simp)] at e1
    by_cases hk2 : k = k''
    · subst hk2
      rw [if_neg (by simp)] at e2 ⊢
      by_cases c1 : k = 2 ∨ k = 3
      · rw [if_pos c1] at e1 e2 ⊢
        exact cmpI_trans e1 e2
      · rw [if_neg c1] at e1 e2 ⊢
        by_cases c2 : k = 4
        · rw [if_pos c2] at e1 e2 ⊢
          exact cmpT_trans e1 e2
        · rw [if_neg c2] at e1 e2 ⊢
          exact ords_trans_of ks ks' ks'' (fun x hx y hy z hz => ih x hx y z (okT_kids h x hx) (okT_kids h' y hy) (okT_kids h'' z hz)) (okT_kids h) (okT_kids h') (okT_kids h'') e1 e2
    · rw [if_pos hk2] at e2 ⊢
      exact e2
  · rw [if_pos hk] at e1
    by_cases hk2 : k' = k''
    · subst hk2
      rw [if_pos hk]
      exact e1
    · rw [if_pos hk2] at e2
      have h3 := cmpI_trans e1 e2
      by_cases hk3 : k = k''
      · subst hk3
        have h4 := cmpI_neg k k'
        have h5 : ¬ cmpI k k' = 0 := fun h => hk (cmpI_zero h)
        omega
      · rw [if_pos hk3]; exact h3
end Go.Proofs.YtfookokepnnmoaaDoor
