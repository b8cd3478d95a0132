/-! Plain mathematics of scanning: nothing of the program stands here. -/
namespace Go.Proofs.YtfndbnbnimhnaaaGreatDoor
/-- The bytes that are digits, that begin a name, that go on in one; hex digits. -/
def dig (c : Int) : Bool := decide (48 ≤ c) && decide (c ≤ 57)
def beg (c : Int) : Bool := (decide (97 ≤ c) && decide (c ≤ 122)) || c == 95
def let_ (c : Int) : Bool := beg c || dig c
def hexv (c : Int) : Int := if 48 ≤ c ∧ c ≤ 57 then c - 48 else if 97 ≤ c ∧ c ≤ 102 then c - 87 else -1
def digB (c : UInt8) : Bool := dig c.toNat
def letB (c : UInt8) : Bool := let_ c.toNat

/-- How many bytes at the head meet p. -/
def run (p : UInt8 → Bool) (l : List UInt8) : Nat := (l.takeWhile p).length
theorem run_le (p : UInt8 → Bool) (l : List UInt8) : run p l ≤ l.length := by
  unfold run; induction l with
  | nil => simp
  | cons a l ih => by_cases h : p a <;> simp [h] <;> omega
theorem run_cons (p : UInt8 → Bool) (a : UInt8) (l : List UInt8) : run p (a :: l) = if p a = true then run p l + 1 else 0 := by
  unfold run; by_cases h : p a <;> simp [h]
theorem run_all (p : UInt8 → Bool) (l : List UInt8) (k : Nat) (hk : k ≤ run p l) (i : Nat) (hi : i < k) (hl : i < l.length) : p l[i] = true := by
  induction l generalizing k i with
  | nil => simp at hl
  | cons a l ih =>
    rw [run_cons] at hk
    by_cases h : p a
    · rw [if_pos h] at hk
      cases i with
      | zero => exact h
      | succ i => exact ih (k - 1) (by omega) i (by omega) (by simpa using hl)
    · rw [if_neg h] at hk; omega
theorem run_step (p : UInt8 → Bool) (l : List UInt8) (k : Nat) (hk : k ≤ run p l) (hl : k < l.length) (hp : p l[k] = true) : k + 1 ≤ run p l := by
  induction l generalizing k with
  | nil => simp at hl
  | cons a l ih =>
    rw [run_cons] at hk ⊢
    cases k with
    | zero => simp at hp; rw [if_pos hp]; omega
    | succ k =>
      by_cases h : p a
      · rw [if_pos h] at hk ⊢
        have := ih k (by omega) (by simpa using hl) (by simpa using hp); omega
      · rw [if_neg h] at hk; omega
theorem run_stop (p : UInt8 → Bool) (l : List UInt8) (k : Nat) (hk : k ≤ run p l) (hl : k < l.length) (hp : p l[k] = false) : run p l = k := by
  apply Nat.le_antisymm _ hk
  apply Nat.le_of_not_lt; intro h
  have := run_all p l (run p l) (Nat.le_refl _) k h hl
  rw [hp] at this; cases this
/-! Gaps. -/
/-! Numbers. -/
def dval (l : List UInt8) : Nat := l.foldl (fun a c => a * 10 + (c.toNat - 48)) 0
/-! Texts. -/
/-- The byte that is written first inside a text, and how many bytes that takes; none: it is not written so. -/
def tb : List UInt8 → Option (UInt8 × Nat)
  | [] => none
  | c :: r => if c.toNat < 32 ∨ 126 < c.toNat then none else if c.toNat ≠ 92 then some (c, 1) else
    match r with
    | a :: b :: _ => if hexv a.toNat < 0 ∨ hexv b.toNat < 0 then none else some ((hexv a.toNat * 16 + hexv b.toNat).toNat.toUInt8, 3)
    | _ => none
/-- A text behind its first quote: what it stands for, and how many bytes it takes, the last quote among them. -/
def unqF : Nat → List UInt8 → Option (List UInt8 × Nat)
  | 0, _ => none
  | _ + 1, [] => none
  | f + 1, c :: r => if c.toNat = 34 then some ([], 1) else
    match tb (c :: r) with
    | none => none
    | some (b, k) => match unqF f ((c :: r).drop k) with
      | none => none
      | some (o, m) => some (b :: o, m + k)
/-! Marks and words. -/
def marks : List (List UInt8) := [[61, 61], [33, 61], [60, 61], [62, 61], [61, 62], [40], [41], [91], [93], [123], [125], [44], [59], [58], [46], [61], [60], [62], [43], [45], [42], [47], [37]]
def words : List (List UInt8) := [[97, 110, 100], [100, 101, 102], [101, 108, 115, 101], [101, 109, 105, 116], [102, 97, 108, 115, 101], [102, 110], [102, 111, 114], [104, 97, 115], [105, 102], [105, 110], [108, 101, 116], [108, 111, 97, 100], [110, 111, 110, 101], [110, 111, 116], [111, 114], [116, 104, 101, 110], [116, 114, 117, 101]]

/-! One token. -/
structure One where
  kind : Nat
  text : List UInt8
  n : Nat
  size : Nat
  code : Nat
def One.bad (c : Nat) : One := ⟨0, [], 0, 0, c⟩
def numOne (l : List UInt8) : One :=
  if run letB l ≠ run digB l ∨ (l.take 1 = [48] ∧ 1 < run digB l) ∨ 9223372036854775808 ≤ dval (l.take (run digB l)) then One.bad 3
  else ⟨3, [], dval (l.take (run digB l)), run digB l, 0⟩
def nameOne (l : List UInt8) : One :=
  if l.take (run letB l) ∈ words then ⟨2, l.take (run letB l), 0, run letB l, 0⟩
  else if 30 < run letB l then One.bad 5 else ⟨1, l.take (run letB l), 0, run letB l, 0⟩
def textOne (r : List UInt8) : One :=
  match unqF (r.length + 1) r with
  | none => One.bad 4
  | some (o, k) => if 1000 < o.length then One.bad 5 else ⟨4, o, 0, k + 1, 0⟩
def markOne (l : List UInt8) : One :=
  match marks.find? (fun m => m.isPrefixOf l) with
  | none => One.bad 2
  | some m => ⟨5, m, 0, m.length, 0⟩
def one : List UInt8 → One
  | [] => One.bad 2
  | c :: r => if c.toNat = 34 then textOne r else if digB c = true then numOne (c :: r) else if letB c = true then nameOne (c :: r) else markOne (c :: r)

/-! All tokens. -/
/-! Lemmas on numbers. -/
/-! Lemmas on texts: places counted from the head of the whole. -/
end Go.Proofs.YtfndbnbnimhnaaaGreatDoor
