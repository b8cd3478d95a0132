import GoSem.Op.String
import Derived.Test.YtfookokepnnmoaaDoorChecked
import Derived.WalkKit
import Derived.WalkSpells
import Derived.WalkLawsBesides
import Derived.OwnWalk
import Derived.Deep.QuietTactic
import Derived.BigQuiet
import Derived.Lib.Bytealg
import Derived.Lib.Strings
import Derived.BigCall
/-! Plain mathematics of values: nothing of the program stands here. -/
namespace Go.Proofs.YtfookokepnnmoaaDoor
/-- An atom. -/
structure At where
  kind : Int
  n : Int
  text : ByteArray
  kids : Int
/-- A value as a tree. -/
inductive Tr where
  | node (kind n : Int) (text : ByteArray) (ks : List Tr)
def Tr.kind : Tr → Int | .node k _ _ _ => k
def Tr.num : Tr → Int | .node _ n _ _ => n
def Tr.text : Tr → ByteArray | .node _ _ t _ => t
def Tr.kids : Tr → List Tr | .node _ _ _ ks => ks
theorem Tr.eta (t : Tr) : t = .node t.kind t.num t.text t.kids := by cases t; rfl
theorem Tr.ind {P : Tr → Prop} (h : ∀ k n t ks, (∀ x ∈ ks, P x) → P (.node k n t ks)) (t : Tr) : P t :=
  match t with
  | .node k n s ks => h k n s ks (fun x _ => Tr.ind h x)
termination_by SizeOf.sizeOf t
decreasing_by
  simp_wf
  have := List.sizeOf_lt_of_mem ‹_›
  omega
mutual
/-- The atoms of a value, each behind its kids. -/
def flat : Tr → List At
  | .node k n t ks => flats ks ++ [⟨k, n, t, ks.length⟩]
def flats : List Tr → List At
  | [] => []
  | t :: ts => flat t ++ flats ts
end
mutual
/-- How many lie one above the other over the lowest. -/
def high : Tr → Nat
  | .node _ _ _ ks => highs ks
def highs : List Tr → Nat
  | [] => 0
  | t :: ts => max (high t + 1) (highs ts)
end
theorem flats_append (a b : List Tr) : flats (a ++ b) = flats a ++ flats b := by
  induction a with
  | nil => simp [flats]
  | cons x a ih => simp [flats, ih]
theorem highs_append (a b : List Tr) : highs (a ++ b) = max (highs a) (highs b) := by
  induction a with
  | nil => simp [highs]
  | cons x a ih => simp [highs, ih]
theorem highs_mem {x : Tr} {l : List Tr} (h : x ∈ l) : high x + 1 ≤ highs l := by
  induction l with
  | nil => cases h
  | cons y l ih =>
    simp only [highs]
    rcases List.mem_cons.1 h with rfl | h
    · omega
    · have := ih h; omega
theorem highs_le {l : List Tr} {b : Nat} (h : ∀ x ∈ l, high x + 1 ≤ b) : highs l ≤ b := by
  induction l with
  | nil => simp [highs]
  | cons y l ih =>
    simp only [highs]
    have h1 := h y (by simp)
    have h2 := ih (fun x hx => h x (by simp [hx]))
    omega
theorem flat_pos (t : Tr) : 1 ≤ (flat t).length := by cases t; simp [flat]
theorem flats_len_mem {x : Tr} {l : List Tr} (h : x ∈ l) : (flat x).length ≤ (flats l).length := by
  induction l with
  | nil => cases h
  | cons y l ih =>
    simp only [flats, List.length_append]
    rcases List.mem_cons.1 h with rfl | h
    · omega
    · have := ih h; omega
theorem flats_len_ge (l : List Tr) : l.length ≤ (flats l).length := by
  induction l with
  | nil => simp
  | cons y l ih => simp only [flats, List.length_append, List.length_cons]; have := flat_pos y; omega
/-- An atom comes behind what is open. -/
def push (s : List Tr) (a : At) : Option (List Tr) :=
  if 0 ≤ a.kids ∧ a.kids ≤ s.length then some (s.take (s.length - a.kids.toNat) ++ [.node a.kind a.n a.text (s.drop (s.length - a.kids.toNat))]) else none
def stk : List Tr → List At → Option (List Tr)
  | s, [] => some s
  | s, a :: r => match push s a with
    | none => none
    | some s' => stk s' r
theorem push_good (sp sk : List Tr) (a : At) (h : a.kids = sk.length) : push (sp ++ sk) a = some (sp ++ [.node a.kind a.n a.text sk]) := by
  unfold push
  rw [if_pos ⟨by omega, by simp; omega⟩, h]
  have e : (sp ++ sk).length - ((sk.length : Int)).toNat = sp.length := by simp
  rw [e]; simp
theorem push_bad (s : List Tr) (a : At) (h : a.kids < 0 ∨ (s.length : Int) < a.kids) : push s a = none := by
  unfold push; rw [if_neg]; omega
theorem stk_append (s : List Tr) (a b : List At) : stk s (a ++ b) = (stk s a).bind fun s' => stk s' b := by
  induction a generalizing s with
  | nil => rfl
  | cons x a ih =>
    simp only [List.cons_append, stk]
    cases push s x with
    | none => rfl
    | some s' => exact ih s'
theorem stk_snoc (s : List Tr) (a : List At) (x : At) (s' : List Tr) (h : stk s a = some s') : stk s (a ++ [x]) = push s' x := by
  rw [stk_append, h]
  simp only [Option.bind_some, stk]
  cases push s' x <;> rfl
theorem stk_flats_of (l : List Tr) (h : ∀ x ∈ l, ∀ s, stk s (flat x) = some (s ++ [x])) (s : List Tr) : stk s (flats l) = some (s ++ l) := by
  induction l generalizing s with
  | nil => simp [flats, stk]
  | cons y l ih =>
    simp only [flats]
    rw [stk_append, h y (by simp) s, Option.bind_some, ih (fun x hx => h x (by simp [hx]))]
    simp
theorem stk_flat (t : Tr) : ∀ s, stk s (flat t) = some (s ++ [t]) := by
  refine Tr.ind (P := fun t => ∀ s, stk s (flat t) = some (s ++ [t])) ?_ t
  intro k n tx ks ih s
  simp only [flat]
  rw [stk_snoc s _ _ _ (stk_flats_of ks ih s)]
  exact push_good s ks ⟨k, n, tx, ks.length⟩ rfl
theorem stk_flats (l : List Tr) (s : List Tr) : stk s (flats l) = some (s ++ l) := stk_flats_of l (fun x _ => stk_flat x) s
theorem push_sound {s s' : List Tr} {a : At} (h : push s a = some s') : flats s' = flats s ++ [a] ∧ ∃ sp sk, s = sp ++ sk ∧ a.kids = sk.length ∧ s' = sp ++ [.node a.kind a.n a.text sk] := by
  unfold push at h
  split at h
  · rename_i hk
    cases h
    obtain ⟨k, hk'⟩ := Int.eq_ofNat_of_zero_le hk.1
    have e : a.kids.toNat = k := by omega
    have hl : (s.drop (s.length - k)).length = k := by simp; omega
    refine ⟨?_, s.take (s.length - a.kids.toNat), s.drop (s.length - a.kids.toNat), (List.take_append_drop _ _).symm, by rw [e, hl, hk'], rfl⟩
    have e2 : flats s = flats (s.take (s.length - a.kids.toNat)) ++ flats (s.drop (s.length - a.kids.toNat)) := by
      rw [← flats_append, List.take_append_drop]
    rw [flats_append, e2]
    simp only [flats, flat, List.append_nil, List.append_assoc]
    rw [e, hl, ← hk']
  · cases h
theorem stk_sound {s s' : List Tr} {a : List At} (h : stk s a = some s') : flats s' = flats s ++ a := by
  induction a generalizing s with
  | nil => cases h; simp
  | cons x a ih =>
    simp only [stk] at h
    cases hp : push s x with
    | none => rw [hp] at h; cases h
    | some s1 =>
      rw [hp] at h
      rw [ih h, (push_sound hp).1]; simp
theorem stk_one {a : List At} {t : Tr} : stk [] a = some [t] ↔ a = flat t := by
  constructor
  · intro h
    have := stk_sound h
    simpa [flats] using this.symm
  · rintro rfl
    simpa using stk_flat t []
theorem flats_inj {a b : List Tr} (h : flats a = flats b) : a = b := by
  have h1 := stk_flats a []
  have h2 := stk_flats b []
  rw [h, h2] at h1
  simpa using h1.symm
theorem flat_inj {a b : Tr} (h : flat a = flat b) : a = b := by
  have := flats_inj (a := [a]) (b := [b]) (by simp [flats, h])
  simpa using this
/-- The order of texts. -/
abbrev less := Go.Op.bytesLess
/-- Kids in twos are names, ascending, and what they name. -/
def Fields (ks : List Tr) : Prop := ∀ i, 2 * i < ks.length → (∃ x, ks[2 * i]? = some x ∧ x.kind = 4) ∧ (0 < i → ∃ x y, ks[2 * i - 2]? = some x ∧ ks[2 * i]? = some y ∧ less x.text.toList y.text.toList = true)
/-- What a node may be over its kids. -/
def LocOk (k n : Int) (t : ByteArray) (ks : List Tr) : Prop :=
  (k = 1 ∧ n = 0 ∧ t.toList = [] ∧ ks = []) ∨ (k = 2 ∧ (n = 0 ∨ n = 1) ∧ t.toList = [] ∧ ks = []) ∨ (k = 3 ∧ t.toList = [] ∧ ks = []) ∨
  (k = 4 ∧ n = 0 ∧ t.size ≤ 1000 ∧ ks = []) ∨ (k = 5 ∧ n = 0 ∧ t.toList = [] ∧ ks.length ≤ 200) ∨
  (k = 6 ∧ n = 0 ∧ t.toList = [] ∧ ks.length % 2 = 0 ∧ ks.length ≤ 400 ∧ Fields ks)
mutual
def OkT : Tr → Prop
  | .node k n t ks => LocOk k n t ks ∧ OkTs ks
def OkTs : List Tr → Prop
  | [] => True
  | t :: ts => OkT t ∧ OkTs ts
end
theorem okTs_iff (l : List Tr) : OkTs l ↔ ∀ x ∈ l, OkT x := by
  induction l with
  | nil => simp [OkTs]
  | cons y l ih => simp [OkTs, ih]
/-- Valid, and not too large. -/
def Good (t : Tr) : Prop := OkT t ∧ high t ≤ 12 ∧ (flat t).length ≤ 1000
theorem good_node {k n : Int} {t : ByteArray} {ks : List Tr} : Good (.node k n t ks) ↔ LocOk k n t ks ∧ (∀ x ∈ ks, Good x) ∧ highs ks ≤ 12 ∧ (flats ks).length + 1 ≤ 1000 := by
  unfold Good
  simp only [OkT, okTs_iff, high, flat, List.length_append, List.length_singleton]
  constructor
  · rintro ⟨⟨h1, h2⟩, h3, h4⟩
    exact ⟨h1, fun x hx => ⟨h2 x hx, by have := highs_mem hx; omega, by have := flats_len_mem hx; omega⟩, h3, h4⟩
  · rintro ⟨h1, h2, h3, h4⟩
    exact ⟨⟨h1, fun x hx => (h2 x hx).1⟩, h3, h4⟩
/-- What a beginning of good values leaves open is good. -/
theorem pre_list (l : List Tr) (h : ∀ x ∈ l, ∀ j, ∃ s, (flat x).take j = flats s ∧ ∀ y ∈ s, Good y) (hg : ∀ x ∈ l, Good x) (j : Nat) : ∃ s, (flats l).take j = flats s ∧ ∀ y ∈ s, Good y := by
  induction l generalizing j with
  | nil => exact ⟨[], by simp [flats], by simp⟩
  | cons x l ih =>
    simp only [flats]
    by_cases hj : j ≤ (flat x).length
    · rw [List.take_append_of_le_length hj]
      exact h x (by simp) j
    · obtain ⟨s, h1, h2⟩ := ih (fun y hy => h y (by simp [hy])) (fun y hy => hg y (by simp [hy])) (j - (flat x).length)
      refine ⟨x :: s, ?_, ?_⟩
      · rw [List.take_append, List.take_of_length_le (by omega), h1]; simp [flats]
      · intro y hy
        rcases List.mem_cons.1 hy with rfl | hy
        · exact hg _ (by simp)
        · exact h2 y hy
theorem pre_good (t : Tr) : Good t → ∀ j, ∃ s, (flat t).take j = flats s ∧ ∀ y ∈ s, Good y := by
  refine Tr.ind (P := fun t => Good t → ∀ j, ∃ s, (flat t).take j = flats s ∧ ∀ y ∈ s, Good y) ?_ t
  intro k n tx ks ih hg j
  have hgk := (good_node.1 hg).2.1
  by_cases hj : j ≤ (flats ks).length
  · simp only [flat]
    rw [List.take_append_of_le_length hj]
    exact pre_list ks (fun x hx => ih x hx (hgk x hx)) hgk j
  · refine ⟨[.node k n tx ks], ?_, by simpa using hg⟩
    rw [List.take_of_length_le (by simp [flat]; omega)]
    simp [flats]
/-- A value is valid. -/
def ValidV (a : List At) : Prop := a.length ≤ 1000 ∧ ∃ t, a = flat t ∧ OkT t ∧ high t ≤ 12
theorem validV_good {a : List At} : ValidV a ↔ ∃ t, a = flat t ∧ Good t := by
  constructor
  · rintro ⟨h, t, rfl, h1, h2⟩; exact ⟨t, rfl, h1, h2, h⟩
  · rintro ⟨t, rfl, h1, h2, h3⟩; exact ⟨h3, t, rfl, h1, h2⟩
/-- What is bad at one place is bad in whole. -/
theorem valid_bad_push {a : List At} {j : Nat} {s : List Tr} {x : At} (hs : stk [] (a.take j) = some s) (hx : a[j]? = some x) (hp : push s x = none) : ¬ ValidV a := by
  intro h
  obtain ⟨t, rfl, hg⟩ := validV_good.1 h
  have hl := (List.getElem?_eq_some_iff.1 hx).1
  obtain ⟨s', h1, _⟩ := pre_good t hg (j + 1)
  have e : (flat t).take (j + 1) = (flat t).take j ++ [x] := by
    rw [List.take_succ_eq_append_getElem hl, (List.getElem?_eq_some_iff.1 hx).2]
  have h2 := stk_flats s' []
  rw [← h1, e, stk_snoc _ _ _ _ hs, hp] at h2
  cases h2
theorem valid_bad_node {a : List At} {j : Nat} {sp sk : List Tr} {x : At} (hs : stk [] (a.take j) = some (sp ++ sk)) (hx : a[j]? = some x) (hk : x.kids = sk.length) (hp : ¬ Good (.node x.kind x.n x.text sk)) : ¬ ValidV a := by
  intro h
  obtain ⟨t, rfl, hg⟩ := validV_good.1 h
  have hl := (List.getElem?_eq_some_iff.1 hx).1
  obtain ⟨s', h1, hg'⟩ := pre_good t hg (j + 1)
  have e : (flat t).take (j + 1) = (flat t).take j ++ [x] := by
    rw [List.take_succ_eq_append_getElem hl, (List.getElem?_eq_some_iff.1 hx).2]
  have h2 := stk_flats s' []
  rw [← h1, e, stk_snoc _ _ _ _ hs, push_good sp sk x hk] at h2
  injection h2 with h2
  rw [List.nil_append] at h2
  exact hp (hg' _ (by rw [← h2]; simp))
theorem valid_bad_end {a : List At} {s : List Tr} (hs : stk [] a = some s) (hn : ¬ s.length = 1) : ¬ ValidV a := by
  rintro ⟨_, t, rfl, _, _⟩
  rw [stk_one.2 rfl] at hs
  cases hs
  exact hn rfl
theorem valid_end {a : List At} {t : Tr} (hs : stk [] a = some [t]) (hg : Good t) : ValidV a := validV_good.2 ⟨t, stk_one.1 hs, hg⟩
/-- Where the values of a list begin. -/
def begs : Nat → List Tr → List Nat
  | _, [] => []
  | o, t :: ts => o :: begs (o + (flat t).length) ts
theorem begs_length (o : Nat) (l : List Tr) : (begs o l).length = l.length := by
  induction l generalizing o with
  | nil => rfl
  | cons t l ih => simp [begs, ih]
theorem begs_append (o : Nat) (a b : List Tr) : begs o (a ++ b) = begs o a ++ begs (o + (flats a).length) b := by
  induction a generalizing o with
  | nil => simp [begs, flats]
  | cons t a ih => simp [begs, flats, ih, Nat.add_assoc]
theorem begs_get (o : Nat) (l : List Tr) (i : Nat) (h : i < l.length) : (begs o l)[i]? = some (o + (flats (l.take i)).length) := by
  induction l generalizing o i with
  | nil => simp at h
  | cons t l ih =>
    cases i with
    | zero => simp [begs, flats]
    | succ i => simp [begs, flats, ih _ _ (by simpa using h), Nat.add_assoc]
theorem flats_take_succ (l : List Tr) (j : Nat) (h : j < l.length) : flats (l.take (j + 1)) = flats (l.take j) ++ flat l[j] := by
  rw [List.take_succ_eq_append_getElem h, flats_append]; simp [flats]
theorem flats_seg (l : List Tr) (j : Nat) (h : j < l.length) : flats l = flats (l.take j) ++ (flat l[j] ++ flats (l.drop (j + 1))) := by
  have e : l = l.take j ++ (l[j] :: l.drop (j + 1)) := by rw [← List.drop_eq_getElem_cons h, List.take_append_drop]
  conv => lhs; rw [e]
  rw [flats_append]; simp [flats]
theorem flats_take_le (l : List Tr) (j : Nat) : (flats (l.take j)).length ≤ (flats l).length := by
  have : flats l = flats (l.take j) ++ flats (l.drop j) := by rw [← flats_append, List.take_append_drop]
  rw [this, List.length_append]; omega
end Go.Proofs.YtfookokepnnmoaaDoor
namespace Go.Proofs.YtfookokepnnmoaaDoor
open Go.RowKit
set_option maxRecDepth 20000

theorem ret_bool {a b : Bool} (h : a = b) : Ending.returned (.bool a) = .returned (.bool b) := by rw [h]
theorem ret_int {k : IntKind} {a b : Int} (h : a = b) : Ending.returned (.int k a) = .returned (.int k b) := by rw [h]
theorem byte_bd (c : UInt8) : 0 ≤ (c.toNat : Int) ∧ (c.toNat : Int) ≤ 255 := by have := c.toNat_lt; omega
theorem len_size (s : ByteArray) : s.data.toList.length = s.size := by simp
theorem bytes_eq {a b : ByteArray} (h : (a.toList == b.toList) = true) : a = b := by
  rw [Lib.toList_data, Lib.toList_data, beq_iff_eq] at h
  exact ByteArray.ext (Array.toList_inj.1 h)
theorem cell_new_row (w : World) (cs : Array Value) (t : TypeId) (i : Nat) : (w.alloc (.cells cs t)).cell? ⟨w.heap.size, i, none⟩ = cs[i]? := by
  have h := heap_alloc_new w (.cells cs t)
  unfold World.cell?
  rw [h]; rfl
theorem hid {p : Prop} (h : p) : Hid p := h
theorem own_base {w : World} {B B' e size k : Nat} {v : Value} {xs : List Value} (h : w.ownsRow B e size v k xs) (hB : B' ≤ B) : w.ownsRow B' e size v k xs := by
  obtain ⟨h1, h2 | ⟨g, cap, cur, a, b, c⟩⟩ := h
  · exact ⟨h1, .inl h2⟩
  · exact ⟨h1, .inr ⟨g, cap, cur, a, Nat.le_trans hB b, c⟩⟩
theorem own_below {w w1 : World} {B e size k : Nat} {v : Value} {xs : List Value} (h : w.ownsRow B e size v k xs) (hb : Below w.heap.size w w1) : w1.ownsRow B e size v k xs := by
  obtain ⟨h1, h2 | ⟨g, cap, cur, a, b, c, d⟩⟩ := h
  · exact ⟨h1, .inl h2⟩
  · refine ⟨h1, .inr ⟨g, cap, cur, a, b, ?_, d⟩⟩
    have hg : g < w.heap.size := (Array.getElem?_eq_some_iff.1 c).1
    rw [hb.block g hg]; exact c
/-- The call answered a bool, and the bool says whether P. -/
def Says (e : Ending) (P : Prop) : Prop := ∃ b, e = .returned (.bool b) ∧ (b = true ↔ P)
theorem says_t {P : Prop} (h : P) : Says (.returned (.bool true)) P := ⟨true, rfl, by simp [h]⟩
theorem says_f {P : Prop} (h : ¬ P) : Says (.returned (.bool false)) P := ⟨false, rfl, by simp [h]⟩
theorem Says.get {e : Ending} {P : Prop} (h : Says e P) : e = .returned (.bool true) ∧ P ∨ e = .returned (.bool false) ∧ ¬ P := by
  obtain ⟨b, rfl, hb⟩ := h
  cases b
  · exact .inr ⟨rfl, fun h => by simp [h] at hb⟩
  · exact .inl ⟨rfl, hb.1 rfl⟩
theorem btree {w wr : World} {X : Obj} (h : Below (w.heap.size + 1) (w.alloc X) wr) : Below w.heap.size w wr :=
  Below.trans ((Below.refl w.heap.size w).alloc (Nat.le_refl _) X) (h.mono (B' := w.heap.size) (Nat.le_succ _))
theorem tree_cell {w wr : World} {v : Value} {t : TypeId} (h : Below (w.heap.size + 1) (w.alloc (.cells #[v] t)) wr) : wr.cell? ⟨w.heap.size, 0, none⟩ = some v := by
  rw [h.cell (p := ⟨w.heap.size, 0, none⟩) (Nat.lt_succ_self _), cell_new_row]; rfl
/-- A row of one-cell elements in block g: n of cap are in use and hold xs. -/
def RowAt (W : World) (e : TypeId) (g cap n : Nat) (xs : List Value) : Prop := xs.length = n ∧ n ≤ cap ∧ cap ≤ maxLen ∧ ∃ cur, W.heap[g]? = some (.cells cur e (0, 0)) ∧ cur.size = cap ∧ cur.toList.take n = xs
theorem RowAt.own {W : World} {B : Nat} {e : TypeId} {g cap n : Nat} {xs : List Value} (h : RowAt W e g cap n xs) (hB : B ≤ g) : W.ownsRow B e 1 (.slice (some ⟨g, 0, none⟩) n cap) n xs := by
  obtain ⟨h1, h2, h3, cur, h4, h5, h6⟩ := h
  exact ⟨by omega, .inr ⟨g, cap, cur, rfl, hB, h4, h2, h3, by omega, by rw [Nat.mul_one]; exact h6⟩⟩
theorem RowAt.of_own {W : World} {B : Nat} {e : TypeId} {v : Value} {n : Nat} {xs : List Value} (h : W.ownsRow B e 1 v n xs) (hv : ¬ v = .slice none 0 0) : ∃ g cap, v = .slice (some ⟨g, 0, none⟩) n cap ∧ B ≤ g ∧ RowAt W e g cap n xs := by
  obtain ⟨h1, ⟨h2, _⟩ | ⟨g, cap, cur, h2, h3, h4, h5, h6, h7, h8⟩⟩ := h
  · exact absurd h2 hv
  · exact ⟨g, cap, h2, h3, by omega, h5, h6, cur, h4, by omega, by rw [Nat.mul_one] at h8; exact h8⟩
theorem RowAt.lt {W : World} {e : TypeId} {g cap n : Nat} {xs : List Value} (h : RowAt W e g cap n xs) : g < W.heap.size := by
  obtain ⟨_, _, _, cur, h4, _⟩ := h
  exact (Array.getElem?_eq_some_iff.1 h4).1
theorem RowAt.keep {W W' : World} {e : TypeId} {g cap n : Nat} {xs : List Value} (h : RowAt W e g cap n xs) (hk : W'.heap[g]? = W.heap[g]?) : RowAt W' e g cap n xs := by
  obtain ⟨h1, h2, h3, cur, h4, h5⟩ := h
  exact ⟨h1, h2, h3, cur, hk.trans h4, h5⟩
theorem RowAt.alloc {W : World} {e : TypeId} {g cap n : Nat} {xs : List Value} (h : RowAt W e g cap n xs) (o : Obj) : RowAt (W.alloc o) e g cap n xs := h.keep (Below.heap_alloc W o g h.lt)
theorem RowAt.grown {W W' : World} {e : TypeId} {g cap n : Nat} {xs : List Value} {row : Option Nat} (h : RowAt W e g cap n xs) (hg : W.grownBy W' row) (hne : row ≠ some g) : RowAt W' e g cap n xs := h.keep (hg.block g h.lt (fun e => hne e.symm))
theorem RowAt.below {W W' : World} {e : TypeId} {g cap n B : Nat} {xs : List Value} (h : RowAt W e g cap n xs) (hb : Below B W W') (hB : g < B) : RowAt W' e g cap n xs := h.keep (hb.block g hB)
theorem RowAt.front {W : World} {e : TypeId} {g cap n : Nat} {xs ys : List Value} (h : RowAt W e g cap n (xs ++ ys)) : RowAt W e g cap xs.length xs := by
  obtain ⟨h1, h2, h3, cur, h4, h5, h6⟩ := h
  rw [List.length_append] at h1
  refine ⟨rfl, by omega, h3, cur, h4, h5, ?_⟩
  have : (cur.toList.take n).take xs.length = (xs ++ ys).take xs.length := by rw [h6]
  rw [List.take_take, Nat.min_eq_left (by omega)] at this
  rw [this]; simp
theorem RowAt.cell {W : World} {e : TypeId} {g cap n : Nat} {xs : List Value} (h : RowAt W e g cap n xs) (i : Nat) (hi : i < n) : W.cell? ⟨g, i, none⟩ = xs[i]? := by
  obtain ⟨h1, h2, h3, cur, h4, h5, h6⟩ := h
  have e1 : W.cell? ⟨g, i, none⟩ = cur[i]? := by unfold World.cell?; rw [h4]; rfl
  rw [e1, ← h6, List.getElem?_take_of_lt hi]; simp
def intRow (s : List Nat) : List Value := s.map fun (x : Nat) => Value.int .i64 (x : Int)
theorem intRow_length (s : List Nat) : (intRow s).length = s.length := by simp [intRow]
theorem intRow_append (s t : List Nat) : intRow (s ++ t) = intRow s ++ intRow t := by simp [intRow]
theorem intRow_one (s : List Nat) : ∀ u ∈ intRow s, u.oneCell' = true := by
  intro u hu
  obtain ⟨x, _, rfl⟩ := List.mem_map.1 hu
  rfl
theorem info_int : (Tryd.prog.info? 3).map (fun i => (i.zero, i.size, i.bytes)) = some (some (.int .i64 0), 1, 8) := by kernel_rfl
theorem info_ints : (Tryd.prog.info? 112).map (fun i => (i.zero, i.size, i.bytes)) = some (some (.slice none 0 0), 1, 24) := by kernel_rfl
theorem tail_cells {W : World} {g cap n p : Nat} {sp sk : List Nat} (h : RowAt W 3 g cap n (intRow (sp ++ sk))) (hp : sp.length = p) : ∀ j u, (intRow sk)[j]? = some u → W.cell? ((⟨g, p, none⟩ : Addr).add j) = some u := by
  intro j u hj
  have hjl : j < sk.length := by
    have := (List.getElem?_eq_some_iff.1 hj).1
    rwa [intRow_length] at this
  have hn : n = sp.length + sk.length := by rw [← h.1, intRow_length, List.length_append]
  have e : ((⟨g, p, none⟩ : Addr).add j) = ⟨g, p + j, none⟩ := by unfold Addr.add; simp
  rw [e, h.cell (p + j) (by omega), intRow_append, List.getElem?_append_right (by rw [intRow_length]; omega), intRow_length, hp, Nat.add_sub_cancel_left]
  exact hj
theorem own_one {w : World} {B e size k : Nat} {v : Value} {xs : List Value} (h : w.ownsRow B e size v k xs) : v.oneCell' = true := by
  obtain ⟨_, ⟨rfl, rfl⟩ | ⟨g, cap, cur, rfl, _⟩⟩ := h
  · rfl
  · rfl
theorem some_not_nil {a : Addr} {n c : Nat} {P : Prop} {v : Value} (h : v = .slice none 0 0 ↔ Value.slice (some a) n c = .slice none 0 0 ∧ P) : ¬ v = .slice none 0 0 := fun e => by have := (h.1 e).1; cases this
theorem add_block (a : Addr) (n : Nat) : (a.add n).block = a.block := by unfold Addr.add; split <;> rfl
theorem below_two' (w : World) (a b : Obj) : Below w.heap.size w ((w.alloc a).alloc b) := ((Below.refl _ _).alloc (Nat.le_refl _) a).alloc (by simp) b
theorem set_at {W : World} {g i : Nat} {cur : Array Value} {t : TypeId} (v : Value) (h : W.heap[g]? = some (.cells cur t (0, 0))) : (W.setCell ⟨g, i, none⟩ v).heap[g]? = some (.cells (cur.setIfInBounds i v) t (0, 0)) := by
  unfold World.setCell
  simp only [Array.getElem?_modify, h]
  simp
theorem below_set {B : Nat} {w w' : World} (h : Below B w w') (g i : Nat) (hg : B ≤ g) (v : Value) : Below B w (w'.setCell ⟨g, i, none⟩ v) := h.setCell hg v
theorem add_one (a : Addr) (n : Nat) (h : n ≠ 0) : a.add n = ⟨a.block, a.off + n, none⟩ := by unfold Addr.add; rw [if_neg h]
theorem Says.pos {e : Ending} {P : Prop} (h : Says e P) (hp : P) : e = .returned (.bool true) := by
  rcases h.get with ⟨h, _⟩ | ⟨_, h⟩
  · exact h
  · exact absurd hp h
theorem Says.neg {e : Ending} {P : Prop} (h : Says e P) (hp : ¬ P) : e = .returned (.bool false) := by
  rcases h.get with ⟨_, h⟩ | ⟨h, _⟩
  · exact absurd h hp
  · exact h
theorem below_drewN {B : Nat} {w w' : World} (h : Below B w w') (n : Nat) : Below B w (w'.drewN n) := by
  induction n with
  | zero => exact h
  | succ n ih => exact ih.drew
/-- The four cells of an atom. -/
def atV (x : At) : Value := .agg #[.int .i64 x.kind, .int .i64 x.n, .string x.text, .int .i64 x.kids]
def FourAt (W : World) (b o : Nat) (x : At) : Prop :=
  W.cell? ⟨b, o, none⟩ = some (.int .i64 x.kind) ∧ W.cell? ⟨b, o + 1, none⟩ = some (.int .i64 x.n) ∧ W.cell? ⟨b, o + 2, none⟩ = some (.string x.text) ∧ W.cell? ⟨b, o + 3, none⟩ = some (.int .i64 x.kids)
theorem FourAt.below {W W' : World} {B b o : Nat} {x : At} (h : FourAt W b o x) (hb : Below B W W') (hB : b < B) : FourAt W' b o x := by
  obtain ⟨h0, h1, h2, h3⟩ := h
  exact ⟨(hb.cell (p := ⟨b, _, none⟩) hB).trans h0, (hb.cell (p := ⟨b, _, none⟩) hB).trans h1, (hb.cell (p := ⟨b, _, none⟩) hB).trans h2, (hb.cell (p := ⟨b, _, none⟩) hB).trans h3⟩
/-- Atoms in block b, from place o on. -/
def AtomsAt (W : World) (b o : Nat) (l : List At) : Prop := ∀ i x, l[i]? = some x → FourAt W b (o + i * 4) x
theorem AtomsAt.below {W W' : World} {B b o : Nat} {l : List At} (h : AtomsAt W b o l) (hb : Below B W W') (hB : b < B) : AtomsAt W' b o l := fun i x hx => (h i x hx).below hb hB
theorem AtomsAt.mid {W : World} {b o : Nat} {p m r : List At} (h : AtomsAt W b o (p ++ (m ++ r))) : AtomsAt W b (o + p.length * 4) m := by
  intro i x hx
  have hi := (List.getElem?_eq_some_iff.1 hx).1
  have := h (p.length + i) x (by rw [List.getElem?_append_right (by omega), Nat.add_sub_cancel_left, List.getElem?_append_left hi]; exact hx)
  rw [show o + p.length * 4 + i * 4 = o + (p.length + i) * 4 by omega]
  exact this
end Go.Proofs.YtfookokepnnmoaaDoor
