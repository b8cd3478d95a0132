/-! Plain mathematics of scanning: nothing of the program stands here. -/
namespace Go.Proofs.YtkngjbpbjjoneaaGreatDoor
/-- The bytes that are digits, that begin a name, that go on in one; hex digits. -/
def dig (c : Int) : Bool := decide (48 ≤ c) && decide (c ≤ 57)
def beg (c : Int) : Bool := (decide (97 ≤ c) && decide (c ≤ 122)) || c == 95
def let_ (c : Int) : Bool := beg c || dig c
def hexv (c : Int) : Int := if 48 ≤ c ∧ c ≤ 57 then c - 48 else if 97 ≤ c ∧ c ≤ 102 then c - 87 else -1
def digB (c : UInt8) : Bool := dig c.toNat
def begB (c : UInt8) : Bool := beg c.toNat
def letB (c : UInt8) : Bool := let_ c.toNat

/-- How many bytes at the head meet p. -/
def run (p : UInt8 → Bool) (l : List UInt8) : Nat := (l.takeWhile p).length
theorem run_le (p : UInt8 → Bool) (l : List UInt8) : run p l ≤ l.length := by
  unfold run; induction l with
  | nil => simp
  | cons a l ih => by_cases h : p a <;> simp [h] <;> omega
theorem run_cons (p : UInt8 → Bool) (a : UInt8) (l : List UInt8) : run p (a :: l) = if p a = true then run p l + 1 else 0 := by
  unfold run; by_cases h : p a <;> simp [h]
theorem run_all (p : UInt8 → Bool) (l : List UInt8) (k : Nat) (hk : k ≤ run p l) (i : Nat) (hi : i < k) (hl : i < l.length) : p l[i] = true := by
  induction l generalizing k i with
  | nil => simp at hl
  | cons a l ih =>
    rw [run_cons] at hk
    by_cases h : p a
    · rw [if_pos h] at hk
      cases i with
      | zero => exact h
      | succ i => exact ih (k - 1) (by omega) i (by omega) (by simpa using hl)
    · rw [if_neg h] at hk; omega
theorem run_step (p : UInt8 → Bool) (l : List UInt8) (k : Nat) (hk : k ≤ run p l) (hl : k < l.length) (hp : p l[k] = true) : k + 1 ≤ run p l := by
  induction l generalizing k with
  | nil => simp at hl
  | cons a l ih =>
    rw [run_cons] at hk ⊢
    cases k with
    | zero => simp at hp; rw [if_pos hp]; omega
    | succ k =>
      by_cases h : p a
      · rw [if_pos h] at hk ⊢
        have := ih k (by omega) (by simpa using hl) (by simpa using hp); omega
      · rw [if_neg h] at hk; omega
theorem run_stop (p : UInt8 → Bool) (l : List UInt8) (k : Nat) (hk : k ≤ run p l) (hl : k < l.length) (hp : p l[k] = false) : run p l = k := by
  apply Nat.le_antisymm _ hk
  apply Nat.le_of_not_lt; intro h
  have := run_all p l (run p l) (Nat.le_refl _) k h hl
  rw [hp] at this; cases this
theorem run_end (p : UInt8 → Bool) (l : List UInt8) (hk : l.length ≤ run p l) : run p l = l.length := Nat.le_antisymm (run_le p l) hk

theorem hexv_le (c : Int) : -1 ≤ hexv c ∧ hexv c ≤ 15 := by unfold hexv; split <;> (try split) <;> omega

/-! Gaps. -/
/-- How many bytes at the head are a gap; the Bool: we stand inside a note. -/
def gapN : Bool → List UInt8 → Nat
  | _, [] => 0
  | true, c :: r => if c = 10 then gapN false r + 1 else gapN true r + 1
  | false, c :: r => if c = 35 then gapN true r + 1 else if c = 32 ∨ c = 10 then gapN false r + 1 else 0
theorem gapN_le (b : Bool) (l : List UInt8) : gapN b l ≤ l.length := by
  induction l generalizing b with
  | nil => cases b <;> simp [gapN]
  | cons c r ih =>
    have h1 := ih true; have h2 := ih false
    cases b <;> unfold gapN <;> simp only [List.length_cons] <;> (repeat' split) <;> omega
theorem gapN_true_nl (r : List UInt8) : gapN true (10 :: r) = gapN false (10 :: r) := by simp [gapN]
theorem gapN_drop (l : List UInt8) (k : Nat) (hk : k < l.length) (c : UInt8) (hc : l[k] = c) : l.drop k = c :: l.drop (k + 1) := by
  rw [List.drop_eq_getElem_cons hk, hc]

theorem gt_step (l : List UInt8) (m : Nat) (h : m < l.length) (hc : ¬ l[m].toNat = 10) : gapN true (l.drop m) = gapN true (l.drop (m + 1)) + 1 := by
  rw [List.drop_eq_getElem_cons h]; simp only [gapN]; rw [if_neg]; intro e; rw [e] at hc; exact hc rfl
theorem gt_nl (l : List UInt8) (m : Nat) (h : m < l.length) (hc : l[m].toNat = 10) : gapN true (l.drop m) = gapN false (l.drop m) := by
  have e : l[m] = 10 := UInt8.toNat_inj.1 hc
  rw [List.drop_eq_getElem_cons h, e, gapN_true_nl]
theorem g_end (b : Bool) (l : List UInt8) (m : Nat) (h : l.length ≤ m) : gapN b (l.drop m) = 0 := by
  rw [List.drop_of_length_le h]; cases b <;> rfl
theorem gf_note (l : List UInt8) (m : Nat) (h : m < l.length) (hc : l[m].toNat = 35) : gapN false (l.drop m) = gapN true (l.drop m) := by
  have e : l[m] = 35 := UInt8.toNat_inj.1 hc
  rw [List.drop_eq_getElem_cons h, e]; simp [gapN]
theorem gf_blank (l : List UInt8) (m : Nat) (h : m < l.length) (hc : l[m].toNat = 32 ∨ l[m].toNat = 10) : gapN false (l.drop m) = gapN false (l.drop (m + 1)) + 1 := by
  rw [List.drop_eq_getElem_cons h]
  rcases hc with hc | hc
  · have e : l[m] = 32 := UInt8.toNat_inj.1 hc
    rw [e]; simp [gapN]
  · have e : l[m] = 10 := UInt8.toNat_inj.1 hc
    rw [e]; simp [gapN]
theorem gf_stop (l : List UInt8) (m : Nat) (h : m < l.length) (h1 : ¬ l[m].toNat = 35) (h2 : ¬ l[m].toNat = 32) (h3 : ¬ l[m].toNat = 10) : gapN false (l.drop m) = 0 := by
  rw [List.drop_eq_getElem_cons h]; simp only [gapN]
  rw [if_neg (fun e => h1 (by rw [e]; rfl)), if_neg]
  rintro (e | e)
  · exact h2 (by rw [e]; rfl)
  · exact h3 (by rw [e]; rfl)
def nn (c : UInt8) : Bool := c != 10
/-- How many bytes one call of the program's own counts: a blank, a newline, or a note. -/
def gap1 : List UInt8 → Nat
  | [] => 0
  | c :: r => if c.toNat = 32 ∨ c.toNat = 10 then 1 else if c.toNat = 35 then run nn (c :: r) else 0
theorem gapN_note (l : List UInt8) : gapN true l = run nn l + gapN false (l.drop (run nn l)) := by
  induction l with
  | nil => simp [gapN, run]
  | cons c r ih =>
    rw [run_cons]
    by_cases h : c = 10
    · subst h; simp [nn, gapN]
    · have e : nn c = true := by simp [nn, h]
      rw [if_pos e, List.drop_succ_cons]
      simp only [gapN]
      rw [if_neg h, ih]; omega
theorem u8_eq {c : UInt8} {k : Nat} (hk : k < 256) : c.toNat = k ↔ c = UInt8.ofNat k := by
  constructor
  · intro h; apply UInt8.toNat_inj.1; rw [h]; simp; omega
  · intro h; rw [h]; simp; omega
/-- One call after the other: all of the gap. -/
theorem gapN_gap1 (l : List UInt8) : gapN false l = gap1 l + (if gap1 l = 0 then 0 else gapN false (l.drop (gap1 l))) := by
  cases l with
  | nil => simp [gapN, gap1]
  | cons c r =>
    by_cases h1 : c = 35
    · subst h1
      have g : gap1 (35 :: r) = run nn r + 1 := by simp [gap1, run_cons, nn]
      rw [g, if_neg (by omega), List.drop_succ_cons]
      simp only [gapN]
      rw [if_pos trivial, gapN_note r]; omega
    · by_cases h2 : c = 32 ∨ c = 10
      · have g : gap1 (c :: r) = 1 := by
          simp only [gap1]; rw [if_pos]
          rcases h2 with rfl | rfl
          · left; rfl
          · right; rfl
        rw [g, if_neg (by omega)]
        simp only [gapN]
        rw [if_neg h1, if_pos h2]; simp; omega
      · have g : gap1 (c :: r) = 0 := by
          simp only [gap1]
          rw [if_neg (fun h => h2 (h.imp (u8_eq (by decide)).1 (u8_eq (by decide)).1)), if_neg (fun h => h1 ((u8_eq (by decide)).1 h))]
        rw [g, if_pos rfl]
        simp only [gapN]
        rw [if_neg h1, if_neg h2]
theorem gap1_le (l : List UInt8) : gap1 l ≤ l.length := by
  cases l with
  | nil => simp [gap1]
  | cons c r =>
    simp only [gap1]; have := run_le nn (c :: r)
    split
    · simp
    · split
      · exact this
      · omega

/-! Numbers. -/
def dval (l : List UInt8) : Nat := l.foldl (fun a c => a * 10 + (c.toNat - 48)) 0
theorem dval_snoc (l : List UInt8) (c : UInt8) : dval (l ++ [c]) = dval l * 10 + (c.toNat - 48) := by simp [dval]

/-! Texts. -/
/-- The byte that is written first inside a text, and how many bytes that takes; none: it is not written so. -/
def tb : List UInt8 → Option (UInt8 × Nat)
  | [] => none
  | c :: r => if c.toNat < 32 ∨ 126 < c.toNat then none else if c.toNat ≠ 92 then some (c, 1) else
    match r with
    | a :: b :: _ => if hexv a.toNat < 0 ∨ hexv b.toNat < 0 then none else some ((hexv a.toNat * 16 + hexv b.toNat).toNat.toUInt8, 3)
    | _ => none
/-- A text behind its first quote: what it stands for, and how many bytes it takes, the last quote among them. -/
def unqF : Nat → List UInt8 → Option (List UInt8 × Nat)
  | 0, _ => none
  | _ + 1, [] => none
  | f + 1, c :: r => if c.toNat = 34 then some ([], 1) else
    match tb (c :: r) with
    | none => none
    | some (b, k) => match unqF f ((c :: r).drop k) with
      | none => none
      | some (o, m) => some (b :: o, m + k)
theorem tb_pos {l : List UInt8} {b : UInt8} {k : Nat} (h : tb l = some (b, k)) : 1 ≤ k ∧ k ≤ l.length := by
  cases l with
  | nil => simp [tb] at h
  | cons c r =>
    simp only [tb] at h
    split at h
    · cases h
    · split at h
      · cases h; simp
      · split at h
        · split at h
          · cases h
          · cases h; simp
        · cases h

/-! Marks and words. -/
def marks : List (List UInt8) := [[61, 61], [33, 61], [60, 61], [62, 61], [61, 62], [40], [41], [91], [93], [123], [125], [44], [59], [58], [46], [61], [60], [62], [43], [45], [42], [47], [37]]
def words : List (List UInt8) := [[97, 110, 100], [100, 101, 102], [101, 108, 115, 101], [101, 109, 105, 116], [102, 97, 108, 115, 101], [102, 110], [102, 111, 114], [104, 97, 115], [105, 102], [105, 110], [108, 101, 116], [108, 111, 97, 100], [110, 111, 110, 101], [110, 111, 116], [111, 114], [116, 104, 101, 110], [116, 114, 117, 101]]

/-! One token. -/
structure One where
  kind : Nat
  text : List UInt8
  n : Nat
  size : Nat
  code : Nat
def One.bad (c : Nat) : One := ⟨0, [], 0, 0, c⟩
def numOne (l : List UInt8) : One :=
  if run letB l ≠ run digB l ∨ (l.take 1 = [48] ∧ 1 < run digB l) ∨ 9223372036854775808 ≤ dval (l.take (run digB l)) then One.bad 3
  else ⟨3, [], dval (l.take (run digB l)), run digB l, 0⟩
def nameOne (l : List UInt8) : One :=
  if l.take (run letB l) ∈ words then ⟨2, l.take (run letB l), 0, run letB l, 0⟩
  else if 30 < run letB l then One.bad 5 else ⟨1, l.take (run letB l), 0, run letB l, 0⟩
def textOne (r : List UInt8) : One :=
  match unqF (r.length + 1) r with
  | none => One.bad 4
  | some (o, k) => if 1000 < o.length then One.bad 5 else ⟨4, o, 0, k + 1, 0⟩
def markOne (l : List UInt8) : One :=
  match marks.find? (fun m => m.isPrefixOf l) with
  | none => One.bad 2
  | some m => ⟨5, m, 0, m.length, 0⟩
def one : List UInt8 → One
  | [] => One.bad 2
  | c :: r => if c.toNat = 34 then textOne r else if digB c = true then numOne (c :: r) else if letB c = true then nameOne (c :: r) else markOne (c :: r)

/-! All tokens. -/
structure Tok where
  kind : Nat
  text : List UInt8
  n : Nat
  place : Nat
/-- The tokens from place p on, where p is no place of a gap: and the fault that ends them, if there is one. -/
def scanA : Nat → List UInt8 → Nat → List Tok × Option (Nat × Nat)
  | 0, _, _ => ([], none)
  | f + 1, l, p => if l.length ≤ p then ([], none) else
    if (one (l.drop p)).code ≠ 0 then ([], some ((one (l.drop p)).code, p)) else
      (⟨(one (l.drop p)).kind, (one (l.drop p)).text, (one (l.drop p)).n, p⟩ :: (scanA f l (p + (one (l.drop p)).size + gapN false (l.drop (p + (one (l.drop p)).size)))).1,
       (scanA f l (p + (one (l.drop p)).size + gapN false (l.drop (p + (one (l.drop p)).size)))).2)
/-- All of it: tokens, code, place. -/
def scanR (l : List UInt8) : List Tok × Nat × Nat :=
  if 8000 < l.length then ([], 1, 0) else
    match scanA (l.length + 1) l (gapN false l) with
    | (ts, none) => (ts, 0, 0)
    | (_, some x) => ([], x)

/-! Lemmas on numbers. -/
theorem dig_let {c : UInt8} (h : digB c = true) : letB c = true := by
  unfold letB let_; unfold digB at h; rw [h]; simp
theorem run_mono {p q : UInt8 → Bool} (hpq : ∀ c, p c = true → q c = true) (l : List UInt8) : run p l ≤ run q l := by
  induction l with
  | nil => simp [run]
  | cons a l ih =>
    rw [run_cons, run_cons]
    by_cases h : p a = true
    · rw [if_pos h, if_pos (hpq a h)]; omega
    · rw [if_neg h]; exact Nat.zero_le _
theorem num_let (L : List UInt8) (k : Nat) (hd : run digB L = k) (hl : k < L.length) : (letB L[k] = true ↔ run letB L ≠ k) := by
  have hm := run_mono (fun c => dig_let (c := c)) L
  rw [hd] at hm
  constructor
  · intro h; have := run_step letB L k hm hl h; omega
  · intro h
    cases hb : letB L[k]
    · exact absurd (run_stop letB L k hm hl hb) h
    · rfl
theorem num_end (L : List UInt8) (hd : run digB L = L.length) : run letB L = L.length := by
  have hm := run_mono (fun c => dig_let (c := c)) L
  have := run_le letB L; omega
theorem num_bad (L : List UInt8) (k : Nat) (hd : run digB L = k) (h : run letB L ≠ k ∨ (L.take 1 = [48] ∧ 1 < k) ∨ 9223372036854775807 < dval (L.take k)) : numOne L = One.bad 3 := by
  unfold numOne; rw [hd, if_pos]
  rcases h with h | h | h
  · exact .inl h
  · exact .inr (.inl h)
  · exact .inr (.inr (by omega))
theorem num_good (L : List UInt8) (k : Nat) (hd : run digB L = k) (h1 : run letB L = k) (h2 : ¬ (L.take 1 = [48] ∧ 1 < k)) (h3 : dval (L.take k) ≤ 9223372036854775807) : numOne L = ⟨3, [], dval (L.take k), k, 0⟩ := by
  unfold numOne; rw [hd, if_neg]
  rintro (h | h | h)
  · exact h h1
  · exact h2 h
  · omega
theorem dval_step (L : List UInt8) (k : Nat) (hl : k < L.length) : dval (L.take (k + 1)) = dval (L.take k) * 10 + (L[k].toNat - 48) := by
  rw [List.take_succ_eq_append_getElem hl, dval_snoc]

/-! Lemmas on texts: places counted from the head of the whole. -/
def unqAt (f : Nat) (l : List UInt8) (p : Nat) (acc : List UInt8) : Option (List UInt8 × Nat) := (unqF f (l.drop p)).map fun x => (acc ++ x.1, p + x.2)
theorem unqAt_end (f : Nat) (l : List UInt8) (p : Nat) (acc : List UInt8) (h : l.length ≤ p) : unqAt f l p acc = none := by
  unfold unqAt; rw [List.drop_of_length_le h]; cases f <;> rfl
theorem unqAt_quote (f : Nat) (l : List UInt8) (p : Nat) (acc : List UInt8) (h : p < l.length) (hc : l[p].toNat = 34) : unqAt (f + 1) l p acc = some (acc, p + 1) := by
  unfold unqAt; rw [List.drop_eq_getElem_cons h]; simp only [unqF]; rw [if_pos hc]; simp
theorem unqAt_bad (f : Nat) (l : List UInt8) (p : Nat) (acc : List UInt8) (h : p < l.length) (hc : ¬ l[p].toNat = 34) (ht : tb (l.drop p) = none) : unqAt (f + 1) l p acc = none := by
  unfold unqAt; rw [List.drop_eq_getElem_cons h] at ht ⊢; simp only [unqF]; rw [if_neg hc, ht]; rfl
theorem unqAt_go (f : Nat) (l : List UInt8) (p : Nat) (acc : List UInt8) (h : p < l.length) (hc : ¬ l[p].toNat = 34) {b : UInt8} {m : Nat} (ht : tb (l.drop p) = some (b, m)) :
    unqAt (f + 1) l p acc = unqAt f l (p + m) (acc ++ [b]) := by
  unfold unqAt
  have hd : (l.drop p).drop m = l.drop (p + m) := by rw [List.drop_drop]
  rw [← hd]
  rw [List.drop_eq_getElem_cons h] at ht ⊢
  generalize l[p] = c at *
  generalize l.drop (p + 1) = r at *
  simp only [unqF]; rw [if_neg hc, ht]
  cases hu : unqF f (List.drop m (c :: r)) with
  | none => simp [hu]
  | some x => simp [hu, List.append_assoc]; omega
theorem tb_low (l : List UInt8) (p : Nat) (h : p < l.length) (hc : l[p].toNat < 32 ∨ 126 < l[p].toNat) : tb (l.drop p) = none := by
  rw [List.drop_eq_getElem_cons h]; simp only [tb]; rw [if_pos hc]
theorem tb_plain (l : List UInt8) (p : Nat) (h : p < l.length) (h1 : 32 ≤ l[p].toNat) (h2 : l[p].toNat ≤ 126) (h3 : ¬ l[p].toNat = 92) : tb (l.drop p) = some (l[p], 1) := by
  rw [List.drop_eq_getElem_cons h]; simp only [tb]; rw [if_neg (by omega), if_pos h3]
theorem tb_short (l : List UInt8) (p : Nat) (h : p < l.length) (h3 : l[p].toNat = 92) (hl : l.length ≤ p + 2) : tb (l.drop p) = none := by
  rw [List.drop_eq_getElem_cons h]; simp only [tb]; rw [if_neg (by omega), if_neg (by omega)]
  have hlen : (l.drop (p + 1)).length ≤ 1 := by rw [List.length_drop]; omega
  match hr : l.drop (p + 1) with
  | [] => rfl
  | [_] => rfl
  | _ :: _ :: _ => rw [hr] at hlen; simp at hlen
theorem tb_hex (l : List UInt8) (p : Nat) (h : p + 2 < l.length) (h3 : l[p].toNat = 92) :
    tb (l.drop p) = if hexv l[p + 1].toNat < 0 ∨ hexv l[p + 2].toNat < 0 then none else some ((hexv l[p + 1].toNat * 16 + hexv l[p + 2].toNat).toNat.toUInt8, 3) := by
  rw [List.drop_eq_getElem_cons (by omega), List.drop_eq_getElem_cons (show p + 1 < l.length by omega), List.drop_eq_getElem_cons (show p + 1 + 1 < l.length by omega)]
  simp only [tb]; rw [if_neg (by omega), if_neg (by omega)]
theorem hex_byte (x y : Int) (hx : 0 ≤ x ∧ x ≤ 15) (hy : 0 ≤ y ∧ y ≤ 15) : (((x * 16 + y).toNat.toUInt8).toNat : Int) = x * 16 + y := by
  have h : (x * 16 + y).toNat < 256 := by omega
  simp [Nat.mod_eq_of_lt h]; omega
theorem unqF_pos {f : Nat} {l : List UInt8} {o : List UInt8} {k : Nat} (h : unqF f l = some (o, k)) : 1 ≤ k ∧ k ≤ l.length ∧ o.length < k := by
  induction f generalizing l o k with
  | zero => simp [unqF] at h
  | succ f ih =>
    cases l with
    | nil => simp [unqF] at h
    | cons c r =>
      simp only [unqF] at h
      split at h
      · cases h; simp
      · cases ht : tb (c :: r) with
        | none => rw [ht] at h; cases h
        | some x =>
          obtain ⟨b, m⟩ := x
          rw [ht] at h
          simp only at h
          have hp := tb_pos ht
          cases hu : unqF f ((c :: r).drop m) with
          | none => rw [hu] at h; cases h
          | some y =>
            obtain ⟨o', k'⟩ := y
            rw [hu] at h
            have := ih hu
            rw [List.length_drop] at this
            cases h
            simp only [List.length_cons] at *
            omega
end Go.Proofs.YtkngjbpbjjoneaaGreatDoor
namespace Go.Proofs.YtkngjbpbjjoneaaGreatDoor
theorem beg_not_dig {c : UInt8} (h : letB c = true) : 1 ≤ run letB [c] := by rw [run_cons, if_pos h]; omega
theorem run_pos (p : UInt8 → Bool) (c : UInt8) (r : List UInt8) (h : p c = true) : 1 ≤ run p (c :: r) := by rw [run_cons, if_pos h]; omega
theorem marks_pos : ∀ m ∈ marks, 1 ≤ m.length := by decide
/-- A token that is one takes a byte at least, and no more than there are. -/
theorem one_size (L : List UInt8) (h : (one L).code = 0) : 1 ≤ (one L).size ∧ (one L).size ≤ L.length := by
  cases L with
  | nil => simp [one, One.bad] at h
  | cons c r =>
    simp only [one] at h ⊢
    split at h
    · rename_i hc
      rw [if_pos hc]
      unfold textOne at h ⊢
      cases hu : unqF (r.length + 1) r with
      | none => rw [hu] at h; simp [One.bad] at h
      | some x =>
        obtain ⟨o, k⟩ := x
        rw [hu] at h
        have := unqF_pos hu
        simp only at h ⊢
        by_cases hl : 1000 < o.length
        · rw [if_pos hl] at h; simp [One.bad] at h
        · rw [if_neg hl]; simp; omega
    · rename_i hc
      rw [if_neg hc]
      split at h
      · rename_i hd
        rw [if_pos hd]
        unfold numOne at h ⊢
        split at h
        · simp [One.bad] at h
        · rename_i hx
          rw [if_neg hx]
          exact ⟨run_pos _ _ _ hd, run_le _ _⟩
      · rename_i hd
        rw [if_neg hd]
        split at h
        · rename_i hl
          rw [if_pos hl]
          unfold nameOne at h ⊢
          split at h
          · rename_i hx
            rw [if_pos hx]; exact ⟨run_pos _ _ _ hl, run_le _ _⟩
          · rename_i hx
            rw [if_neg hx]
            split at h
            · simp [One.bad] at h
            · rename_i hy
              rw [if_neg hy]; exact ⟨run_pos _ _ _ hl, run_le _ _⟩
        · rename_i hl
          rw [if_neg hl]
          unfold markOne at h ⊢
          cases hm : marks.find? (fun m => m.isPrefixOf (c :: r)) with
          | none => rw [hm] at h; simp [One.bad] at h
          | some m =>
            have h1 := List.mem_of_find?_eq_some hm
            have h2 := List.find?_some hm
            have h3 := (List.isPrefixOf_iff_prefix.1 h2).length_le
            exact ⟨marks_pos m h1, h3⟩
theorem scanA_end (f : Nat) (l : List UInt8) (p : Nat) (h : l.length ≤ p) : scanA f l p = ([], none) := by
  cases f with
  | zero => rfl
  | succ f => unfold scanA; rw [if_pos h]
theorem scanA_bad (f : Nat) (l : List UInt8) (p : Nat) (h : p < l.length) (hc : ¬ (one (l.drop p)).code = 0) : scanA (f + 1) l p = ([], some ((one (l.drop p)).code, p)) := by
  unfold scanA; rw [if_neg (by omega), if_pos hc]
theorem scanA_go (f : Nat) (l : List UInt8) (p : Nat) (h : p < l.length) (hc : (one (l.drop p)).code = 0) : scanA (f + 1) l p =
    (⟨(one (l.drop p)).kind, (one (l.drop p)).text, (one (l.drop p)).n, p⟩ :: (scanA f l (p + (one (l.drop p)).size + gapN false (l.drop (p + (one (l.drop p)).size)))).1,
       (scanA f l (p + (one (l.drop p)).size + gapN false (l.drop (p + (one (l.drop p)).size)))).2) := by
  rw [scanA, if_neg (by omega), if_neg (by simp [hc])]
/-- What stands behind the tokens 'pre' that have been read: the whole is these and the rest. -/
def scanRest (l : List UInt8) (f p : Nat) (pre : List Tok) : Prop := scanA (l.length + 1) l (gapN false l) = (pre ++ (scanA f l p).1, (scanA f l p).2)
theorem scanRest_go {l : List UInt8} {f p : Nat} {pre : List Tok} (hr : scanRest l (f + 1) p pre) (h : p < l.length) (hc : (one (l.drop p)).code = 0) :
    scanRest l f (p + (one (l.drop p)).size + gapN false (l.drop (p + (one (l.drop p)).size))) (pre ++ [⟨(one (l.drop p)).kind, (one (l.drop p)).text, (one (l.drop p)).n, p⟩]) := by
  unfold scanRest at *; rw [hr, scanA_go f l p h hc]; simp
theorem scanRest_bad {l : List UInt8} {f p : Nat} {pre : List Tok} (hr : scanRest l (f + 1) p pre) (h : p < l.length) (hl : l.length ≤ 8000) (hc : ¬ (one (l.drop p)).code = 0) :
    scanR l = ([], (one (l.drop p)).code, p) := by
  unfold scanRest at hr; unfold scanR; rw [if_neg (by omega), hr, scanA_bad f l p h hc]
theorem scanRest_end {l : List UInt8} {f p : Nat} {pre : List Tok} (hr : scanRest l f p pre) (h : l.length ≤ p) (hl : l.length ≤ 8000) : scanR l = (pre, 0, 0) := by
  unfold scanRest at hr; unfold scanR; rw [if_neg (by omega), hr, scanA_end f l p h]; simp
/-- There are no more tokens than bytes. -/
theorem one_code (L : List UInt8) : (one L).code ≤ 5 := by
  have hb : ∀ c, c ≤ 5 → (One.bad c).code ≤ 5 := fun c h => h
  cases L with
  | nil => exact hb 2 (by decide)
  | cons c r =>
    simp only [one]
    split
    · unfold textOne; split
      · exact hb 4 (by decide)
      · split
        · exact hb 5 (by decide)
        · exact Nat.zero_le _
    · split
      · unfold numOne; split
        · exact hb 3 (by decide)
        · exact Nat.zero_le _
      · split
        · unfold nameOne; split
          · exact Nat.zero_le _
          · split
            · exact hb 5 (by decide)
            · exact Nat.zero_le _
        · unfold markOne; split
          · exact hb 2 (by decide)
          · exact Nat.zero_le _
end Go.Proofs.YtkngjbpbjjoneaaGreatDoor
