import Derived.Test.YtpobfklbbkdglaaDoorChecked
import Derived.WalkKit
import Derived.WalkSpells
import Derived.WalkLawsBesides
import Derived.Deep.QuietTactic
import Derived.BigQuiet
import Derived.Lib.Bytealg
import Derived.Lib.Strings
import Derived.BigCall
/-! Plain mathematics of scanning: nothing of the program stands here. -/
namespace Go.Proofs.YtpobfklbbkdglaaDoor
/-- The bytes that are digits, that begin a name, that go on in one; hex digits. -/
def dig (c : Int) : Bool := decide (48 ≤ c) && decide (c ≤ 57)
def beg (c : Int) : Bool := (decide (97 ≤ c) && decide (c ≤ 122)) || c == 95
def let_ (c : Int) : Bool := beg c || dig c
def hexv (c : Int) : Int := if 48 ≤ c ∧ c ≤ 57 then c - 48 else if 97 ≤ c ∧ c ≤ 102 then c - 87 else -1
def digB (c : UInt8) : Bool := dig c.toNat
def begB (c : UInt8) : Bool := beg c.toNat
def letB (c : UInt8) : Bool := let_ c.toNat

/-- How many bytes at the head meet p. -/
def run (p : UInt8 → Bool) (l : List UInt8) : Nat := (l.takeWhile p).length
theorem run_le (p : UInt8 → Bool) (l : List UInt8) : run p l ≤ l.length := by
  unfold run; induction l with
  | nil => simp
  | cons a l ih => by_cases h : p a <;> simp [h] <;> omega
theorem run_cons (p : UInt8 → Bool) (a : UInt8) (l : List UInt8) : run p (a :: l) = if p a = true then run p l + 1 else 0 := by
  unfold run; by_cases h : p a <;> simp [h]
theorem run_all (p : UInt8 → Bool) (l : List UInt8) (k : Nat) (hk : k ≤ run p l) (i : Nat) (hi : i < k) (hl : i < l.length) : p l[i] = true := by
  induction l generalizing k i with
  | nil => simp at hl
  | cons a l ih =>
    rw [run_cons] at hk
    by_cases h : p a
    · rw [if_pos h] at hk
      cases i with
      | zero => exact h
      | succ i => exact ih (k - 1) (by omega) i (by omega) (by simpa using hl)
    · rw [if_neg h] at hk; omega
theorem run_step (p : UInt8 → Bool) (l : List UInt8) (k : Nat) (hk : k ≤ run p l) (hl : k < l.length) (hp : p l[k] = true) : k + 1 ≤ run p l := by
  induction l generalizing k with
  | nil => simp at hl
  | cons a l ih =>
    rw [run_cons] at hk ⊢
    cases k with
    | zero => simp at hp; rw [if_pos hp]; omega
    | succ k =>
      by_cases h : p a
      · rw [if_pos h] at hk ⊢
        have := ih k (by omega) (by simpa using hl) (by simpa using hp); omega
      · rw [if_neg h] at hk; omega
theorem run_stop (p : UInt8 → Bool) (l : List UInt8) (k : Nat) (hk : k ≤ run p l) (hl : k < l.length) (hp : p l[k] = false) : run p l = k := by
  apply Nat.le_antisymm _ hk
  apply Nat.le_of_not_lt; intro h
  have := run_all p l (run p l) (Nat.le_refl _) k h hl
  rw [hp] at this; cases this
theorem run_end (p : UInt8 → Bool) (l : List UInt8) (hk : l.length ≤ run p l) : run p l = l.length := Nat.le_antisymm (run_le p l) hk

theorem hexv_le (c : Int) : -1 ≤ hexv c ∧ hexv c ≤ 15 := by unfold hexv; split <;> (try split) <;> omega

/-! Gaps. -/
/-- How many bytes at the head are a gap; the Bool: we stand inside a note. -/
def gapN : Bool → List UInt8 → Nat
  | _, [] => 0
  | true, c :: r => if c = 10 then gapN false r + 1 else gapN true r + 1
  | false, c :: r => if c = 35 then gapN true r + 1 else if c = 32 ∨ c = 10 then gapN false r + 1 else 0
theorem gapN_le (b : Bool) (l : List UInt8) : gapN b l ≤ l.length := by
  induction l generalizing b with
  | nil => cases b <;> simp [gapN]
  | cons c r ih =>
    have h1 := ih true; have h2 := ih false
    cases b <;> unfold gapN <;> simp only [List.length_cons] <;> (repeat' split) <;> omega
theorem gapN_true_nl (r : List UInt8) : gapN true (10 :: r) = gapN false (10 :: r) := by simp [gapN]
theorem gapN_drop (l : List UInt8) (k : Nat) (hk : k < l.length) (c : UInt8) (hc : l[k] = c) : l.drop k = c :: l.drop (k + 1) := by
  rw [List.drop_eq_getElem_cons hk, hc]

theorem gt_step (l : List UInt8) (m : Nat) (h : m < l.length) (hc : ¬ l[m].toNat = 10) : gapN true (l.drop m) = gapN true (l.drop (m + 1)) + 1 := by
  rw [List.drop_eq_getElem_cons h]; simp only [gapN]; rw [if_neg]; intro e; rw [e] at hc; exact hc rfl
theorem gt_nl (l : List UInt8) (m : Nat) (h : m < l.length) (hc : l[m].toNat = 10) : gapN true (l.drop m) = gapN false (l.drop m) := by
  have e : l[m] = 10 := UInt8.toNat_inj.1 hc
  rw [List.drop_eq_getElem_cons h, e, gapN_true_nl]
theorem g_end (b : Bool) (l : List UInt8) (m : Nat) (h : l.length ≤ m) : gapN b (l.drop m) = 0 := by
  rw [List.drop_of_length_le h]; cases b <;> rfl
theorem gf_note (l : List UInt8) (m : Nat) (h : m < l.length) (hc : l[m].toNat = 35) : gapN false (l.drop m) = gapN true (l.drop m) := by
  have e : l[m] = 35 := UInt8.toNat_inj.1 hc
  rw [List.drop_eq_getElem_cons h, e]; simp [gapN]
theorem gf_blank (l : List UInt8) (m : Nat) (h : m < l.length) (hc : l[m].toNat = 32 ∨ l[m].toNat = 10) : gapN false (l.drop m) = gapN false (l.drop (m + 1)) + 1 := by
  rw [List.drop_eq_getElem_cons h]
  rcases hc with hc | hc
  · have e : l[m] = 32 := UInt8.toNat_inj.1 hc
    rw [e]; simp [gapN]
  · have e : l[m] = 10 := UInt8.toNat_inj.1 hc
    rw [e]; simp [gapN]
theorem gf_stop (l : List UInt8) (m : Nat) (h : m < l.length) (h1 : ¬ l[m].toNat = 35) (h2 : ¬ l[m].toNat = 32) (h3 : ¬ l[m].toNat = 10) : gapN false (l.drop m) = 0 := by
  rw [List.drop_eq_getElem_cons h]; simp only [gapN]
  rw [if_neg (fun e => h1 (by rw [e]; rfl)), if_neg]
  rintro (e | e)
  · exact h2 (by rw [e]; rfl)
  · exact h3 (by rw [e]; rfl)
def nn (c : UInt8) : Bool := c != 10
/-- How many bytes one call of the program's own counts: a blank, a newline, or a note. -/
def gap1 : List UInt8 → Nat
  | [] => 0
  | c :: r => if c.toNat = 32 ∨ c.toNat = 10 then 1 else if c.toNat = 35 then run nn (c :: r) else 0
theorem gapN_note (l : List UInt8) : gapN true l = run nn l + gapN false (l.drop (run nn l)) := by
  induction l with
  | nil => simp [gapN, run]
  | cons c r ih =>
    rw [run_cons]
    by_cases h : c = 10
    · subst h; simp [nn, gapN]
    · have e : nn c = true := by simp [nn, h]
      rw [if_pos e, List.drop_succ_cons]
      simp only [gapN]
      rw [if_neg h, ih]; omega
theorem u8_eq {c : UInt8} {k : Nat} (hk : k < 256) : c.toNat = k ↔ c = UInt8.ofNat k := by
  constructor
  · intro h; apply UInt8.toNat_inj.1; rw [h]; simp; omega
  · intro h; rw [h]; simp; omega
/-- One call after the other: all of the gap. -/
theorem gapN_gap1 (l : List UInt8) : gapN false l = gap1 l + (if gap1 l = 0 then 0 else gapN false (l.drop (gap1 l))) := by
  cases l with
  | nil => simp [gapN, gap1]
  | cons c r =>
    by_cases h1 : c = 35
    · subst h1
      have g : gap1 (35 :: r) = run nn r + 1 := by simp [gap1, run_cons, nn]
      rw [g, if_neg (by omega), List.drop_succ_cons]
      simp only [gapN]
      rw [if_pos trivial, gapN_note r]; omega
    · by_cases h2 : c = 32 ∨ c = 10
      · have g : gap1 (c :: r) = 1 := by
          simp only [gap1]; rw [if_pos]
          rcases h2 with rfl | rfl
          · left; rfl
          · right; rfl
        rw [g, if_neg (by omega)]
        simp only [gapN]
        rw [if_neg h1, if_pos h2]; simp; omega
      · have g : gap1 (c :: r) = 0 := by
          simp only [gap1]
          rw [if_neg (fun h => h2 (h.imp (u8_eq (by decide)).1 (u8_eq (by decide)).1)), if_neg (fun h => h1 ((u8_eq (by decide)).1 h))]
        rw [g, if_pos rfl]
        simp only [gapN]
        rw [if_neg h1, if_neg h2]
theorem gap1_le (l : List UInt8) : gap1 l ≤ l.length := by
  cases l with
  | nil => simp [gap1]
  | cons c r =>
    simp only [gap1]; have := run_le nn (c :: r)
    split
    · simp
    · split
      · exact this
      · omega

/-! Numbers. -/
def dval (l : List UInt8) : Nat := l.foldl (fun a c => a * 10 + (c.toNat - 48)) 0
theorem dval_snoc (l : List UInt8) (c : UInt8) : dval (l ++ [c]) = dval l * 10 + (c.toNat - 48) := by simp [dval]

/-! Texts. -/
/-- The byte that is written first inside a text, and how many bytes that takes; none: it is not written so. -/
def tb : List UInt8 → Option (UInt8 × Nat)
  | [] => none
  | c :: r => if c.toNat < 32 ∨ 126 < c.toNat then none else if c.toNat ≠ 92 then some (c, 1) else
    match r with
    | a :: b :: _ => if hexv a.toNat < 0 ∨ hexv b.toNat < 0 then none else some ((hexv a.toNat * 16 + hexv b.toNat).toNat.toUInt8, 3)
    | _ => none
/-- A text behind its first quote: what it stands for, and how many bytes it takes, the last quote among them. -/
def unqF : Nat → List UInt8 → Option (List UInt8 × Nat)
  | 0, _ => none
  | _ + 1, [] => none
  | f + 1, c :: r => if c.toNat = 34 then some ([], 1) else
    match tb (c :: r) with
    | none => none
    | some (b, k) => match unqF f ((c :: r).drop k) with
      | none => none
      | some (o, m) => some (b :: o, m + k)
theorem tb_pos {l : List UInt8} {b : UInt8} {k : Nat} (h : tb l = some (b, k)) : 1 ≤ k ∧ k ≤ l.length := by
  cases l with
  | nil => simp [tb] at h
  | cons c r =>
    simp only [tb] at h
    split at h
    · cases h
    · split at h
      · cases h; simp
      · split at h
        · split at h
          · cases h
          · cases h; simp
        · cases h

/-! Marks and words. -/
def marks : List (List UInt8) := [[61, 61], [33, 61], [60, 61], [62, 61], [61, 62], [40], [41], [91], [93], [123], [125], [44], [59], [58], [46], [61], [60], [62], [43], [45], [42], [47], [37]]
def words : List (List UInt8) := [[97, 110, 100], [100, 101, 102], [101, 108, 115, 101], [101, 109, 105, 116], [102, 97, 108, 115, 101], [102, 110], [102, 111, 114], [104, 97, 115], [105, 102], [105, 110], [108, 101, 116], [108, 111, 97, 100], [110, 111, 110, 101], [110, 111, 116], [111, 114], [116, 104, 101, 110], [116, 114, 117, 101]]

/-! One token. -/
structure One where
  kind : Nat
  text : List UInt8
  n : Nat
  size : Nat
  code : Nat
def One.bad (c : Nat) : One := ⟨0, [], 0, 0, c⟩
def numOne (l : List UInt8) : One :=
  if run letB l ≠ run digB l ∨ (l.take 1 = [48] ∧ 1 < run digB l) ∨ 9223372036854775808 ≤ dval (l.take (run digB l)) then One.bad 3
  else ⟨3, [], dval (l.take (run digB l)), run digB l, 0⟩
def nameOne (l : List UInt8) : One :=
  if l.take (run letB l) ∈ words then ⟨2, l.take (run letB l), 0, run letB l, 0⟩
  else if 30 < run letB l then One.bad 5 else ⟨1, l.take (run letB l), 0, run letB l, 0⟩
def textOne (r : List UInt8) : One :=
  match unqF (r.length + 1) r with
  | none => One.bad 4
  | some (o, k) => if 1000 < o.length then One.bad 5 else ⟨4, o, 0, k + 1, 0⟩
def markOne (l : List UInt8) : One :=
  match marks.find? (fun m => m.isPrefixOf l) with
  | none => One.bad 2
  | some m => ⟨5, m, 0, m.length, 0⟩
def one : List UInt8 → One
  | [] => One.bad 2
  | c :: r => if c.toNat = 34 then textOne r else if digB c = true then numOne (c :: r) else if letB c = true then nameOne (c :: r) else markOne (c :: r)

/-! All tokens. -/
structure Tok where
  kind : Nat
  text : List UInt8
  n : Nat
  place : Nat
/-- The tokens from place p on, where p is no place of a gap: and the fault that ends them, if there is one. -/
def scanA : Nat → List UInt8 → Nat → List Tok × Option (Nat × Nat)
  | 0, _, _ => ([], none)
  | f + 1, l, p => if l.length ≤ p then ([], none) else
    if (one (l.drop p)).code ≠ 0 then ([], some ((one (l.drop p)).code, p)) else
      (⟨(one (l.drop p)).kind, (one (l.drop p)).text, (one (l.drop p)).n, p⟩ :: (scanA f l (p + (one (l.drop p)).size + gapN false (l.drop (p + (one (l.drop p)).size)))).1,
       (scanA f l (p + (one (l.drop p)).size + gapN false (l.drop (p + (one (l.drop p)).size)))).2)
/-- All of it: tokens, code, place. -/
def scanR (l : List UInt8) : List Tok × Nat × Nat :=
  if 8000 < l.length then ([], 1, 0) else
    match scanA (l.length + 1) l (gapN false l) with
    | (ts, none) => (ts, 0, 0)
    | (_, some x) => ([], x)

/-! Lemmas on numbers. -/
theorem dig_let {c : UInt8} (h : digB c = true) : letB c = true := by
  unfold letB let_; unfold digB at h; rw [h]; simp
theorem run_mono {p q : UInt8 → Bool} (hpq : ∀ c, p c = true → q c = true) (l : List UInt8) : run p l ≤ run q l := by
  induction l with
  | nil => simp [run]
  | cons a l ih =>
    rw [run_cons, run_cons]
    by_cases h : p a = true
    · rw [if_pos h, if_pos (hpq a h)]; omega
    · rw [if_neg h]; exact Nat.zero_le _
theorem num_let (L : List UInt8) (k : Nat) (hd : run digB L = k) (hl : k < L.length) : (letB L[k] = true ↔ run letB L ≠ k) := by
  have hm := run_mono (fun c => dig_let (c := c)) L
  rw [hd] at hm
  constructor
  · intro h; have := run_step letB L k hm hl h; omega
  · intro h
    cases hb : letB L[k]
    · exact absurd (run_stop letB L k hm hl hb) h
    · rfl
theorem num_end (L : List UInt8) (hd : run digB L = L.length) : run letB L = L.length := by
  have hm := run_mono (fun c => dig_let (c := c)) L
  have := run_le letB L; omega
theorem num_bad (L : List UInt8) (k : Nat) (hd : run digB L = k) (h : run letB L ≠ k ∨ (L.take 1 = [48] ∧ 1 < k) ∨ 9223372036854775807 < dval (L.take k)) : numOne L = One.bad 3 := by
  unfold numOne; rw [hd, if_pos]
  rcases h with h | h | h
  · exact .inl h
  · exact .inr (.inl h)
  · exact .inr (.inr (by omega))
theorem num_good (L : List UInt8) (k : Nat) (hd : run digB L = k) (h1 : run letB L = k) (h2 : ¬ (L.take 1 = [48] ∧ 1 < k)) (h3 : dval (L.take k) ≤ 9223372036854775807) : numOne L = ⟨3, [], dval (L.take k), k, 0⟩ := by
  unfold numOne; rw [hd, if_neg]
  rintro (h | h | h)
  · exact h h1
  · exact h2 h
  · omega
theorem dval_step (L : List UInt8) (k : Nat) (hl : k < L.length) : dval (L.take (k + 1)) = dval (L.take k) * 10 + (L[k].toNat - 48) := by
  rw [List.take_succ_eq_append_getElem hl, dval_snoc]

/-! Lemmas on texts: places counted from the head of the whole. -/
def unqAt (f : Nat) (l : List UInt8) (p : Nat) (acc : List UInt8) : Option (List UInt8 × Nat) := (unqF f (l.drop p)).map fun x => (acc ++ x.1, p + x.2)
theorem unqAt_end (f : Nat) (l : List UInt8) (p : Nat) (acc : List UInt8) (h : l.length ≤ p) : unqAt f l p acc = none := by
  unfold unqAt; rw [List.drop_of_length_le h]; cases f <;> rfl
theorem unqAt_quote (f : Nat) (l : List UInt8) (p : Nat) (acc : List UInt8) (h : p < l.length) (hc : l[p].toNat = 34) : unqAt (f + 1) l p acc = some (acc, p + 1) := by
  unfold unqAt; rw [List.drop_eq_getElem_cons h]; simp only [unqF]; rw [if_pos hc]; simp
theorem unqAt_bad (f : Nat) (l : List UInt8) (p : Nat) (acc : List UInt8) (h : p < l.length) (hc : ¬ l[p].toNat = 34) (ht : tb (l.drop p) = none) : unqAt (f + 1) l p acc = none := by
  unfold unqAt; rw [List.drop_eq_getElem_cons h] at ht ⊢; simp only [unqF]; rw [if_neg hc, ht]; rfl
theorem unqAt_go (f : Nat) (l : List UInt8) (p : Nat) (acc : List UInt8) (h : p < l.length) (hc : ¬ l[p].toNat = 34) {b : UInt8} {m : Nat} (ht : tb (l.drop p) = some (b, m)) :
    unqAt (f + 1) l p acc = unqAt f l (p + m) (acc ++ [b]) := by
  unfold unqAt
  have hd : (l.drop p).drop m = l.drop (p + m) := by rw [List.drop_drop]
  rw [← hd]
  rw [List.drop_eq_getElem_cons h] at ht ⊢
  generalize l[p] = c at *
  generalize l.drop (p + 1) = r at *
  simp only [unqF]; rw [if_neg hc, ht]
  cases hu : unqF f (List.drop m (c :: r)) with
  | none => simp [hu]
  | some x => simp [hu, List.append_assoc]; omega
theorem tb_low (l : List UInt8) (p : Nat) (h : p < l.length) (hc : l[p].toNat < 32 ∨ 126 < l[p].toNat) : tb (l.drop p) = none := by
  rw [List.drop_eq_getElem_cons h]; simp only [tb]; rw [if_pos hc]
theorem tb_plain (l : List UInt8) (p : Nat) (h : p < l.length) (h1 : 32 ≤ l[p].toNat) (h2 : l[p].toNat ≤ 126) (h3 : ¬ l[p].toNat = 92) : tb (l.drop p) = some (l[p], 1) := by
  rw [List.drop_eq_getElem_cons h]; simp only [tb]; rw [if_neg (by omega), if_pos h3]
theorem tb_short (l : List UInt8) (p : Nat) (h : p < l.length) (h3 : l[p].toNat = 92) (hl : l.length ≤ p + 2) : tb (l.drop p) = none := by
  rw [List.drop_eq_getElem_cons h]; simp only [tb]; rw [if_neg (by omega), if_neg (by omega)]
  have hlen : (l.drop (p + 1)).length ≤ 1 := by rw [List.length_drop]; omega
  match hr : l.drop (p + 1) with
  | [] => rfl
  | [_] => rfl
  | _ :: _ :: _ => rw [hr] at hlen; simp at hlen
theorem tb_hex (l : List UInt8) (p : Nat) (h : p + 2 < l.length) (h3 : l[p].toNat = 92) :
    tb (l.drop p) = if hexv l[p + 1].toNat < 0 ∨ hexv l[p + 2].toNat < 0 then none else some ((hexv l[p + 1].toNat * 16 + hexv l[p + 2].toNat).toNat.toUInt8, 3) := by
  rw [List.drop_eq_getElem_cons (by omega), List.drop_eq_getElem_cons (show p + 1 < l.length by omega), List.drop_eq_getElem_cons (show p + 1 + 1 < l.length by omega)]
  simp only [tb]; rw [if_neg (by omega), if_neg (by omega)]
theorem hex_byte (x y : Int) (hx : 0 ≤ x ∧ x ≤ 15) (hy : 0 ≤ y ∧ y ≤ 15) : (((x * 16 + y).toNat.toUInt8).toNat : Int) = x * 16 + y := by
  have h : (x * 16 + y).toNat < 256 := by omega
  simp [Nat.mod_eq_of_lt h]; omega
end Go.Proofs.YtpobfklbbkdglaaDoor
namespace Go.Proofs.YtpobfklbbkdglaaDoor
open Go.RowKit
set_option maxRecDepth 20000

theorem ret_bool {a b : Bool} (h : a = b) : Ending.returned (.bool a) = .returned (.bool b) := by rw [h]
theorem ret_int {k : IntKind} {a b : Int} (h : a = b) : Ending.returned (.int k a) = .returned (.int k b) := by rw [h]
set_option maxHeartbeats 400000 in
theorem isDigit_any (c : Int) (w : World) :
    Calls Tryd.prog 80 #[.int .u8 c] w fun e w' => e = .returned (.bool (dig c)) ∧ w' = w := by
  go_enter Tryd.func80, Tryd.ntmps80
  go_wp2
  all_goals go_ret
  all_goals exact ⟨ret_bool (by unfold dig; rw [Bool.eq_iff_iff]; simp; try omega), rfl⟩
set_option maxHeartbeats 400000 in
theorem l1Digit_any (c : Int) (w : World) :
    Calls Tryd.prog 78 #[.int .u8 c] w fun e w' => e = .returned (.bool (dig c)) ∧ w' = w := by
  go_enter Tryd.func78, Tryd.ntmps78
  go_wp2
  all_goals go_ret
  all_goals exact ⟨ret_bool (by unfold dig; rw [Bool.eq_iff_iff]; simp; try omega), rfl⟩
set_option maxHeartbeats 400000 in
theorem l1Begins_any (c : Int) (w : World) :
    Calls Tryd.prog 55 #[.int .u8 c] w fun e w' => e = .returned (.bool (beg c)) ∧ w' = w := by
  go_enter Tryd.func55, Tryd.ntmps55
  go_wp2
  all_goals go_ret
  all_goals exact ⟨ret_bool (by unfold beg; rw [Bool.eq_iff_iff]; simp; try omega), rfl⟩
set_option maxHeartbeats 400000 in
theorem l1Letter_any (c : Int) (w : World) :
    Calls Tryd.prog 57 #[.int .u8 c] w fun e w' => e = .returned (.bool (let_ c)) ∧ w' = w := by
  cases hb : beg c <;> cases hd : dig c
  all_goals go_enter Tryd.func57, Tryd.ntmps57
  all_goals go_wp2_with (first
    | (go_at_call 55; refine (l1Begins_any _ _).mono ?_; rintro e w' ⟨rfl, rfl⟩)
    | (go_at_call 78; refine (l1Digit_any _ _).mono ?_; rintro e w' ⟨rfl, rfl⟩))
  all_goals go_ret
  all_goals exact ⟨ret_bool (by simp [let_, hb, hd]), rfl⟩
set_option maxHeartbeats 400000 in
theorem isName_any (c : Int) (w : World) :
    Calls Tryd.prog 92 #[.int .u8 c] w fun e w' => e = .returned (.bool (let_ c)) ∧ w' = w := by
  go_enter Tryd.func92, Tryd.ntmps92
  go_wp2_with (first
    | (go_at_call 80; refine (isDigit_any _ _).mono ?_; rintro e w' ⟨rfl, rfl⟩))
  all_goals go_ret
  all_goals exact ⟨ret_bool (by unfold let_ beg; generalize dig c = d; cases d <;> rw [Bool.eq_iff_iff] <;> simp <;> try omega), rfl⟩
set_option maxHeartbeats 400000 in
theorem nameSize_any (s : ByteArray) (w : World) (hs : s.size ≤ maxLen) :
    Calls Tryd.prog 79 #[.string s] w fun e w' => e = .returned (.int .i64 (run letB s.data.toList)) ∧ w' = w := by
  unfold maxLen at hs
  go_enter Tryd.func79, Tryd.ntmps79
  go_wp2
  go_loop [3] (fun i => ∃ k : Nat, k ≤ s.size ∧ i = .int .i64 k ∧ k ≤ run letB s.data.toList) (fun i => s.size - (intOf i).toNat)
  case atStart => exact ⟨0, Nat.zero_le _, rfl, Nat.zero_le _⟩
  case round =>
    obtain ⟨k, hk, rfl, hr⟩ := hrel
    by_cases hlt : k < s.size
    · have hl : k < s.data.toList.length := by simpa using hlt
      have hg : s.data.toList[k] = s[k] := rfl
      have HG : Hid (s.data.toList[k] = s[k]) := hg
      clear hg
      cases hp : let_ (s[k].toNat : Int)
      · have HE := run_stop letB _ k hr hl (by rw [HG.out]; exact hp)
        have HE' : Hid (run letB s.data.toList = k) := HE
        clear HE
        go_wp2_with (go_at_call 92; refine (isName_any _ _).mono ?_; rintro e w' ⟨rfl, rfl⟩)
        go_ret
        exact ⟨ret_int (by rw [HE'.out]), rfl⟩
      · have HE := run_step letB _ k hr hl (by rw [HG.out]; exact hp)
        go_wp2_with (go_at_call 92; refine (isName_any _ _).mono ?_; rintro e w' ⟨rfl, rfl⟩)
        go_round
        case rel => exact ⟨k + 1, by omega, by go_num, HE⟩
        case measure => simp [intOf]; omega
    · have HE : Hid (run letB s.data.toList = k) := by
        have := run_le letB s.data.toList
        have e : s.data.toList.length = s.size := by simp
        exact Nat.le_antisymm (by omega) hr
      go_wp2
      go_ret
      exact ⟨ret_int (by rw [HE.out]), rfl⟩
theorem byte_bd (c : UInt8) : 0 ≤ (c.toNat : Int) ∧ (c.toNat : Int) ≤ 255 := by have := c.toNat_lt; omega
theorem head_eq (s : ByteArray) (hp : 0 < s.size) : s.data.toList = s[0] :: s.data.toList.tail := by
  match s, hp with
  | ⟨⟨c :: r⟩⟩, _ => rfl
  | ⟨⟨[]⟩⟩, h => exact absurd h (by decide)
theorem len_size (s : ByteArray) : s.data.toList.length = s.size := by simp
theorem notEmpty (s : ByteArray) (hp : 0 < s.size) : s.toList.isEmpty = false := by
  rw [Lib.toList_data, head_eq s hp]; rfl
theorem get_eq (s : ByteArray) (k : Nat) (h : k < s.size) : s.data.toList[k]'(by rw [len_size]; exact h) = s[k] := rfl
theorem bytes_eq {a b : ByteArray} (h : (a.toList == b.toList) = true) : a = b := by
  rw [Lib.toList_data, Lib.toList_data, beq_iff_eq] at h
  exact ByteArray.ext (Array.toList_inj.1 h)
set_option maxHeartbeats 400000 in
theorem l1Words_any (w : World) :
    Calls Tryd.prog 56 #[] w fun e w' => e = .returned (.slice (some ⟨w.heap.size, 0, none⟩) 17 17) ∧ w' = w.alloc (.cells (words.map fun x => Value.string ⟨x.toArray⟩).toArray 9) := by
  go_enter Tryd.func56, Tryd.ntmps56
  go_wp2
  go_ret
  exact ⟨rfl, rfl⟩
set_option maxHeartbeats 400000 in
theorem l1Has_any (b n : Nat) (s : ByteArray) (ss : Nat → ByteArray) (w : World) (hn : n ≤ 100)
    (hc : ∀ i, i < n → w.cell? ⟨b, i, none⟩ = some (.string (ss i))) :
    Calls Tryd.prog 34 #[.slice (some ⟨b, 0, none⟩) n n, .string s] w fun e w' => (e = .returned (.bool true) ∧ (∃ i, i < n ∧ ss i = s) ∨ e = .returned (.bool false) ∧ (∀ i, i < n → ¬ ss i = s)) ∧ w' = w := by
  go_enter Tryd.func34, Tryd.ntmps34
  go_wp2
  go_loop [5] (fun i => ∃ k : Nat, k ≤ n ∧ i = .int .i64 k ∧ ∀ i, i < k → ¬ ss i = s) (fun i => n - (intOf i).toNat)
  case atStart => exact ⟨0, Nat.zero_le _, rfl, fun i h => absurd h (Nat.not_lt_zero _)⟩
  case round =>
    obtain ⟨k, hk, rfl, hr⟩ := hrel
    have HR : Hid (∀ i, i < k → ¬ ss i = s) := hr
    clear hr
    by_cases hlt : k < n
    · have hck := hc k hlt
      have HC : Hid (∀ i, i < n → w.cell? ⟨b, i, none⟩ = some (.string (ss i))) := hc
      clear hc
      cases hq : ((ss k).toList == s.toList)
      · have HN : Hid (¬ ss k = s) := fun e => by rw [e] at hq; simp at hq
        go_wp2
        go_round
        case rel => exact ⟨k + 1, by omega, by go_num, fun i h => by
          rcases Nat.lt_or_eq_of_le (Nat.lt_succ_iff.1 h) with h | h
          · exact HR.out i h
          · subst h; exact HN.out⟩
        case measure => simp [intOf]; omega
      · have HN : Hid (ss k = s) := bytes_eq hq
        go_wp2
        go_ret
        exact ⟨.inl ⟨rfl, k, hlt, HN.out⟩, rfl⟩
    · go_wp2
      go_ret
      exact ⟨.inr ⟨rfl, fun i h => HR.out i (by omega)⟩, rfl⟩
def wordS (i : Nat) : ByteArray := ⟨(words.getD i []).toArray⟩
theorem cell_new_row (w : World) (cs : Array Value) (t : TypeId) (i : Nat) : (w.alloc (.cells cs t)).cell? ⟨w.heap.size, i, none⟩ = cs[i]? := by
  have h := heap_alloc_new w (.cells cs t)
  unfold World.cell?
  rw [h]; rfl
theorem wordS_cell (w : World) (i : Nat) (h : i < 17) : (w.alloc (.cells (words.map fun x => Value.string ⟨x.toArray⟩).toArray 9)).cell? ⟨w.heap.size, i, none⟩ = some (.string (wordS i)) := by
  rw [cell_new_row]
  have hl : i < words.length := h
  simp [wordS, hl]
theorem wordS_mem (t : List UInt8) : (∃ i, i < 17 ∧ wordS i = ⟨t.toArray⟩) ↔ t ∈ words := by
  constructor
  · rintro ⟨i, h, e⟩
    have hl : i < words.length := h
    have e2 : words.getD i [] = t := by
      have := congrArg (fun b : ByteArray => b.data.toList) e
      simpa [wordS] using this
    rw [← e2]
    simp [hl]
  · intro h
    obtain ⟨i, hl, e⟩ := List.getElem_of_mem h
    exact ⟨i, hl, by simp [wordS, hl, e]⟩
theorem l1Has_words (s : ByteArray) (w : World) (b : Nat) (hc : ∀ i, i < 17 → w.cell? ⟨b, i, none⟩ = some (.string (wordS i))) :
    Calls Tryd.prog 34 #[.slice (some ⟨b, 0, none⟩) 17 17, .string s] w fun e w' => e = .returned (.bool (decide (s.data.toList ∈ words))) ∧ w' = w := by
  refine (l1Has_any b 17 s wordS w (by omega) hc).mono ?_
  rintro e w' ⟨⟨rfl, h⟩ | ⟨rfl, h⟩, rfl⟩
  · exact ⟨ret_bool (by have := (wordS_mem s.data.toList).1 (by simpa using h); simp [this]), rfl⟩
  · refine ⟨ret_bool ?_, rfl⟩
    have : ¬ s.data.toList ∈ words := fun hm => by
      obtain ⟨i, hi, e⟩ := (wordS_mem s.data.toList).2 hm
      exact h i hi (by simpa using e)
    simp [this]
theorem hid {p : Prop} (h : p) : Hid p := h
theorem own_base {w : World} {B B' e size k : Nat} {v : Value} {xs : List Value} (h : w.ownsRow B e size v k xs) (hB : B' ≤ B) : w.ownsRow B' e size v k xs := by
  obtain ⟨h1, h2 | ⟨g, cap, cur, a, b, c⟩⟩ := h
  · exact ⟨h1, .inl h2⟩
  · exact ⟨h1, .inr ⟨g, cap, cur, a, Nat.le_trans hB b, c⟩⟩
theorem own_below {w w1 : World} {B e size k : Nat} {v : Value} {xs : List Value} (h : w.ownsRow B e size v k xs) (hb : Below w.heap.size w w1) : w1.ownsRow B e size v k xs := by
  obtain ⟨h1, h2 | ⟨g, cap, cur, a, b, c, d⟩⟩ := h
  · exact ⟨h1, .inl h2⟩
  · refine ⟨h1, .inr ⟨g, cap, cur, a, b, ?_, d⟩⟩
    have hg : g < w.heap.size := (Array.getElem?_eq_some_iff.1 c).1
    rw [hb.block g hg]; exact c
/-- The first n words, as the entries of the program's own map. -/
def wordE (n : Nat) : Array MapEntry := ((List.range n).map fun i => ({ key := .string (wordS i), val := .int .i64 2, born := i } : MapEntry)).toArray
theorem wordE_succ (n : Nat) : wordE (n + 1) = (wordE n).push { key := .string (wordS n), val := .int .i64 2, born := n } := by
  simp [wordE, List.range_succ]
theorem find_none (s : ByteArray) (es : List MapEntry) (i : Nat) (h : ∀ e ∈ es, ∃ t, e.key = .string t ∧ (s == t) = false) : Instr.findNow .string (.string s) es i = some none := by
  induction es generalizing i with
  | nil => rfl
  | cons e es ih =>
    obtain ⟨t, ht, hne⟩ := h e (List.mem_cons_self ..)
    unfold Instr.findNow
    rw [ht]
    simp only [Instr.sameNow, hne]
    exact ih (i + 1) fun x hx => h x (List.mem_cons_of_mem _ hx)
theorem find_some (s : ByteArray) (es : List MapEntry) (i : Nat) (hs : ∀ e ∈ es, (∃ t, e.key = .string t) ∧ e.val = .int .i64 2) (h : ∃ e ∈ es, e.key = .string s) : ∃ j, Instr.findNow .string (.string s) es i = some (some (j, .int .i64 2)) := by
  induction es generalizing i with
  | nil => obtain ⟨e, he, _⟩ := h; simp at he
  | cons e es ih =>
    obtain ⟨⟨t, ht⟩, hv⟩ := hs e (List.mem_cons_self ..)
    unfold Instr.findNow
    rw [ht]
    simp only [Instr.sameNow]
    cases hq : (s == t) with
    | true => exact ⟨i, by simp [hv]⟩
    | false =>
      refine ih (i + 1) (fun x hx => hs x (List.mem_cons_of_mem _ hx)) ?_
      obtain ⟨x, hx, hk⟩ := h
      rcases List.mem_cons.1 hx with e2 | e2
      · subst e2
        rw [ht] at hk
        cases hk
        rw [beq_toListBytes] at hq
        simp at hq
      · exact ⟨x, e2, hk⟩
theorem wordE_mem (n : Nat) (e : MapEntry) : e ∈ (wordE n).toList ↔ ∃ i, i < n ∧ e = { key := .string (wordS i), val := .int .i64 2, born := i } := by
  simp [wordE]
  constructor
  · rintro ⟨i, hi, rfl⟩; exact ⟨i, hi, rfl⟩
  · rintro ⟨i, hi, rfl⟩; exact ⟨i, hi, rfl⟩
theorem word_apart : ∀ i, i < 17 → ∀ j, j < i → words.getD i [] ≠ words.getD j [] := by decide
theorem wordS_apart (i : Nat) (hi : i < 17) (j : Nat) (hj : j < i) : (wordS i == wordS j) = false := by
  rw [beq_toListBytes, beq_eq_false_iff_ne]
  intro e
  exact word_apart i hi j hj (by rw [Lib.toList_data, Lib.toList_data] at e; simpa [wordS] using e)
theorem set_last {α : Type} (a : Array α) (x y : α) : (a.push x).setIfInBounds a.size y = a.push y := by
  apply Array.ext
  · simp
  · intro i h1 h2
    rw [Array.getElem_setIfInBounds (by simpa using h1), Array.getElem_push, Array.getElem_push]
    by_cases h : a.size = i
    · subst h; simp
    · rw [if_neg h]
      simp at h1
      rw [dif_pos (by omega), dif_pos (by omega)]
theorem word_ins (w : World) (i : Nat) (hi : i < 17) (s : ByteArray) (hs : s = wordS i) :
    (Instr.mapUpdate 92 (.map (some w.heap.size)) (.string s) (.int .i64 2)).run Tryd.prog (w.alloc (.map (wordE i) i)) = .ok () (w.alloc (.map (wordE (i + 1)) (i + 1))) := by
  subst hs
  have hf : Instr.findNow .string (.string (wordS i)) (wordE i).toList 0 = some none := by
    refine find_none _ _ _ fun e he => ?_
    obtain ⟨j, hj, rfl⟩ := (wordE_mem i e).1 he
    exact ⟨_, rfl, wordS_apart i hi j hj⟩
  have hb : (w.alloc (.map (wordE i) i)).heap[w.heap.size]? = some (.map (wordE i) i) := heap_alloc_new w _
  have hc : ∀ W, (Instr.checkKey false 10000 9 (.string (wordS i))).run Tryd.prog W = .ok () W := fun W => MapKept.run_checkKey (k := .string (wordS i)) Tryd.underlying9 (by simp [MapKept.IsKey]) false 9999
  simp only [Instr.mapUpdate, Sem.run_bind, run_underlying Tryd.underlying92, MapKept.run_getObj_map hb, hc, MapKept.run_findKey Tryd.underlying9 hf, MapKept.run_setObj_map _ hb, Result.andThen]
  rw [wordE_succ]
  have e : ((w.alloc (.map (wordE i) i)).heap.setIfInBounds w.heap.size (.map ((wordE i).push { key := .string (wordS i), val := .int .i64 2, born := i }) (i + 1))) = (w.alloc (.map ((wordE i).push { key := .string (wordS i), val := .int .i64 2, born := i }) (i + 1))).heap := by
    exact set_last w.heap _ _
  rw [e]; rfl
set_option maxRecDepth 20000 in
set_option maxHeartbeats 1000000 in
theorem clayWords_any (w : World) :
    Calls Tryd.prog 59 #[] w fun e w' => e = .returned (.map (some w.heap.size)) ∧ w' = w.alloc (.map (wordE 17) 17) := by
  have f : (Instr.makeMap 92 none).run Tryd.prog w = .ok (.map (some w.heap.size)) (w.alloc (.map (wordE 0) 0)) := rfl
  have f0 := word_ins w 0 (by decide) ⟨#[97, 110, 100]⟩ rfl
  have f1 := word_ins w 1 (by decide) ⟨#[100, 101, 102]⟩ rfl
  have f2 := word_ins w 2 (by decide) ⟨#[101, 108, 115, 101]⟩ rfl
  have f3 := word_ins w 3 (by decide) ⟨#[101, 109, 105, 116]⟩ rfl
  have f4 := word_ins w 4 (by decide) ⟨#[102, 97, 108, 115, 101]⟩ rfl
  have f5 := word_ins w 5 (by decide) ⟨#[102, 110]⟩ rfl
  have f6 := word_ins w 6 (by decide) ⟨#[102, 111, 114]⟩ rfl
  have f7 := word_ins w 7 (by decide) ⟨#[104, 97, 115]⟩ rfl
  have f8 := word_ins w 8 (by decide) ⟨#[105, 102]⟩ rfl
  have f9 := word_ins w 9 (by decide) ⟨#[105, 110]⟩ rfl
  have f10 := word_ins w 10 (by decide) ⟨#[108, 101, 116]⟩ rfl
  have f11 := word_ins w 11 (by decide) ⟨#[108, 111, 97, 100]⟩ rfl
  have f12 := word_ins w 12 (by decide) ⟨#[110, 111, 110, 101]⟩ rfl
  have f13 := word_ins w 13 (by decide) ⟨#[110, 111, 116]⟩ rfl
  have f14 := word_ins w 14 (by decide) ⟨#[111, 114]⟩ rfl
  have f15 := word_ins w 15 (by decide) ⟨#[116, 104, 101, 110]⟩ rfl
  have f16 := word_ins w 16 (by decide) ⟨#[116, 114, 117, 101]⟩ rfl
  go_enter Tryd.func59, Tryd.ntmps59
  go_wp2
  go_ret
  exact ⟨rfl, rfl⟩
theorem lookup_word (W : World) (r : Nat) (hb : W.heap[r]? = some (.map (wordE 17) 17)) (s : ByteArray) :
    (Instr.lookup 92 (.map (some r)) (.string s) true).run Tryd.prog W = .ok (.tuple #[.int .i64 (if s.data.toList ∈ words then 2 else 0), .bool (decide (s.data.toList ∈ words))]) W := by
  have hc : ∀ b W, (Instr.checkKey b 10000 9 (.string s)).run Tryd.prog W = .ok () W := fun b W => MapKept.run_checkKey (k := .string s) Tryd.underlying9 (by simp [MapKept.IsKey]) b 9999
  by_cases hm : s.data.toList ∈ words
  · obtain ⟨j, hf⟩ := find_some s (wordE 17).toList 0 (fun e he => by
        obtain ⟨i, _, rfl⟩ := (wordE_mem 17 e).1 he
        exact ⟨⟨_, rfl⟩, rfl⟩) (by
        obtain ⟨i, hi, e⟩ := (wordS_mem s.data.toList).2 hm
        exact ⟨_, (wordE_mem 17 _).2 ⟨i, hi, rfl⟩, by simp [e]⟩)
    simp only [Instr.lookup, Sem.run_bind, run_underlying Tryd.underlying92, MapKept.run_getObj_map hb, hc, MapKept.run_findKey Tryd.underlying9 hf, Result.andThen, Sem.run_pure]
    simp [hm]
  · have hf : Instr.findNow .string (.string s) (wordE 17).toList 0 = some none := by
      refine find_none _ _ _ fun e he => ?_
      obtain ⟨j, hj, rfl⟩ := (wordE_mem 17 e).1 he
      refine ⟨_, rfl, ?_⟩
      rw [beq_toListBytes, beq_eq_false_iff_ne]
      intro e2
      exact hm ((wordS_mem s.data.toList).1 ⟨j, hj, by rw [Lib.toList_data, Lib.toList_data] at e2; rw [e2]⟩)
    simp only [Instr.lookup, Sem.run_bind, run_underlying Tryd.underlying92, MapKept.run_getObj_map hb, hc, MapKept.run_findKey Tryd.underlying9 hf, Result.andThen, Sem.run_pure, Tryd.zeroValue3]
    simp [hm]
end Go.Proofs.YtpobfklbbkdglaaDoor
/-! Plain mathematics of trees: nothing of the program stands here. -/
namespace Go.Proofs.YtpobfklbbkdglaaDoor
/-- A node. -/
structure Nd where
  kind : Int
  op : Int
  n : Int
  text : ByteArray
  kids : Int
def inR (x lo hi : Int) : Bool := decide (lo ≤ x) && decide (x ≤ hi)
def isE (k : Int) : Bool := inR k 1 16
def pkg_ (c : Int) : Bool := (decide (97 ≤ c) && decide (c ≤ 122)) || dig c || c == 95 || c == 45 || c == 46 || c == 47
def pkgB (c : UInt8) : Bool := pkg_ c.toNat
def PkgOk (s : ByteArray) : Prop := 1 ≤ s.size ∧ s.size ≤ 30 ∧ ∀ i (h : i < s.size), pkgB s[i] = true
def NameOk (s : ByteArray) : Prop := ∃ (h1 : 0 < s.size), s.size ≤ 30 ∧ begB s[0] = true ∧ ¬ s.data.toList ∈ words ∧ ∀ i (h : i < s.size), letB s[i] = true
/-- The kinds that use Text. -/
def hasText (k : Int) : Bool := k == 4 || k == 5 || k == 11 || k == 14 || inR k 16 21 || k == 23
/-- A node uses only what its kind may. -/
def PlainNd (x : Nd) : Prop :=
  (hasText x.kind = true ∨ x.text.toList = []) ∧ (x.kind = 2 ∨ x.kind = 3 ∨ x.n = 0) ∧ (x.kind = 6 ∨ x.kind = 7 ∨ x.op = 0) ∧
  (x.kind = 2 → x.n = 0 ∨ x.n = 1) ∧ (x.kind = 3 → 0 ≤ x.n) ∧ (x.kind = 4 ∨ x.kind = 17 → x.text.size ≤ 1000) ∧ (x.kind = 6 → 1 ≤ x.op ∧ x.op ≤ 2) ∧ (x.kind = 7 → 1 ≤ x.op ∧ x.op ≤ 14) ∧
  (x.kind = 23 → PkgOk x.text) ∧ (hasText x.kind = true → ¬ x.kind = 4 → ¬ x.kind = 17 → ¬ x.kind = 23 → NameOk x.text)
/-- No two of m nodes have one Text. -/
def Apart (m : Nat) (nd : Nat → Nd) : Prop := ∀ i, i < m → ∀ k, k < i → ¬ (nd k).text = (nd i).text
def AllE (m : Nat) (nd : Nat → Nd) : Prop := ∀ i, i < m → isE (nd i).kind = true
/-- The kinds of a node's m kids are right. -/
def KidsOk (kind : Int) (m : Nat) (nd : Nat → Nd) : Prop :=
  ((kind = 1 ∨ kind = 2 ∨ kind = 3 ∨ kind = 4 ∨ kind = 5) ∧ m = 0) ∨
  ((kind = 6 ∨ kind = 11 ∨ kind = 17 ∨ kind = 18 ∨ kind = 21 ∨ kind = 22) ∧ m = 1 ∧ AllE m nd) ∨
  ((kind = 7 ∨ kind = 10 ∨ kind = 14) ∧ m = 2 ∧ AllE m nd) ∨
  (kind = 13 ∧ m = 3 ∧ AllE m nd) ∨
  (kind = 16 ∧ 2 ≤ m ∧ m ≤ 3 ∧ AllE m nd) ∨
  (kind = 19 ∧ m ≤ 1 ∧ AllE m nd) ∨
  (kind = 8 ∧ m ≤ 200 ∧ AllE m nd) ∨
  (kind = 9 ∧ m ≤ 200 ∧ (∀ i, i < m → (nd i).kind = 17) ∧ Apart m nd) ∨
  (kind = 12 ∧ ∃ f, 1 ≤ f ∧ f ≤ m ∧ m ≤ 9 ∧ AllE f nd ∧ (∀ i, f ≤ i → i < m → (nd i).kind = 18) ∧ Apart (m - f) (fun i => nd (f + i))) ∨
  ((kind = 15 ∨ kind = 20) ∧ 1 ≤ m ∧ m ≤ 9 ∧ (∀ i, i + 1 < m → (nd i).kind = 19) ∧ isE (nd (m - 1)).kind = true) ∨
  (kind = 23 ∧ 1 ≤ m ∧ m ≤ 200 ∧ ∀ i, i < m → (nd i).kind = 5) ∨
  (kind = 24 ∧ m ≤ 200 ∧ ∀ i, i < m → 20 ≤ (nd i).kind ∧ (nd i).kind ≤ 23)
theorem kind_cases (k : Int) : k = 1 ∨ k = 2 ∨ k = 3 ∨ k = 4 ∨ k = 5 ∨ k = 6 ∨ k = 7 ∨ k = 8 ∨ k = 9 ∨ k = 10 ∨ k = 11 ∨ k = 12 ∨ k = 13 ∨ k = 14 ∨ k = 15 ∨ k = 16 ∨ k = 17 ∨ k = 18 ∨ k = 19 ∨ k = 20 ∨ k = 21 ∨ k = 22 ∨ k = 23 ∨ k = 24 ∨ k < 1 ∨ 24 < k := by omega
end Go.Proofs.YtpobfklbbkdglaaDoor
namespace Go.Proofs.YtpobfklbbkdglaaDoor
open Go.RowKit
/-- The call answered a bool, and the bool says whether P. -/
def Says (e : Ending) (P : Prop) : Prop := ∃ b, e = .returned (.bool b) ∧ (b = true ↔ P)
theorem says_t {P : Prop} (h : P) : Says (.returned (.bool true)) P := ⟨true, rfl, by simp [h]⟩
theorem says_f {P : Prop} (h : ¬ P) : Says (.returned (.bool false)) P := ⟨false, rfl, by simp [h]⟩
theorem Says.get {e : Ending} {P : Prop} (h : Says e P) : e = .returned (.bool true) ∧ P ∨ e = .returned (.bool false) ∧ ¬ P := by
  obtain ⟨b, rfl, hb⟩ := h
  cases b
  · exact .inr ⟨rfl, fun h => by simp [h] at hb⟩
  · exact .inl ⟨rfl, hb.1 rfl⟩
set_option maxHeartbeats 400000 in
theorem l1In_any (x lo hi : Int) (w : World) :
    Calls Tryd.prog 32 #[.int .i64 x, .int .i64 lo, .int .i64 hi] w fun e w' => e = .returned (.bool (inR x lo hi)) ∧ w' = w := by
  go_enter Tryd.func32, Tryd.ntmps32
  go_wp2
  all_goals go_ret
  all_goals exact ⟨ret_bool (by unfold inR; rw [Bool.eq_iff_iff]; simp; try omega), rfl⟩
set_option maxHeartbeats 400000 in
theorem l2E_any (x : Int) (w : World) :
    Calls Tryd.prog 65 #[.int .i64 x] w fun e w' => e = .returned (.bool (isE x)) ∧ w' = w := by
  go_enter Tryd.func65, Tryd.ntmps65
  go_wp2_with (go_at_call 32; refine (l1In_any _ _ _ _).mono ?_; rintro e w' ⟨rfl, rfl⟩)
  go_ret
  exact ⟨rfl, rfl⟩
set_option maxHeartbeats 1000000 in
theorem l2Package_any (s : ByteArray) (w : World) (hs : s.size ≤ maxLen) :
    Calls Tryd.prog 64 #[.string s] w fun e w' => Says e (PkgOk s) ∧ w' = w := by
  unfold maxLen at hs
  by_cases h1 : 1 ≤ s.size ∧ s.size ≤ 30
  · obtain ⟨h1, h2⟩ := h1
    have HIN : Hid (inR (s.size : Int) 1 30 = true) := by show _ = _; unfold inR; simp; omega
    go_enter Tryd.func64, Tryd.ntmps64
    go_wp2_with (go_at_call 32; refine (l1In_any _ _ _ _).mono ?_; rintro e w' ⟨rfl, rfl⟩; rw [HIN.out])
    go_loop [3] (fun i => ∃ k : Nat, k ≤ s.size ∧ i = .int .i64 k ∧ ∀ j (h : j < s.size), j < k → pkgB s[j] = true) (fun i => s.size - (intOf i).toNat)
    case atStart => exact ⟨0, Nat.zero_le _, rfl, fun j h h0 => absurd h0 (Nat.not_lt_zero _)⟩
    case round =>
      obtain ⟨k, hk, rfl, hr⟩ := hrel
      have HR := hid hr
      clear hr
      by_cases hlt : k < s.size
      · cases hd : dig (s[k].toNat : Int)
        all_goals cases hp : pkg_ (s[k].toNat : Int)
        · have HE : Hid (¬ PkgOk s) := fun h => by have := h.2.2 k hlt; unfold pkgB at this; rw [hp] at this; cases this
          unfold pkg_ at hp
          rw [hd] at hp
          simp at hp
          obtain ⟨⟨⟨⟨p0, p1⟩, p2⟩, p3⟩, p4⟩ := hp
          have p5 : (s[k].toNat : Int) < 97 ∨ 122 < (s[k].toNat : Int) := by
            by_cases q : 97 ≤ (s[k].toNat : Int)
            · exact .inr (p0 q)
            · exact .inl (by omega)
          clear p0
          go_wp2_with (go_at_call 78; refine (l1Digit_any _ _).mono ?_; rintro e w' ⟨rfl, rfl⟩)
          all_goals first
            | (exfalso; (try simp only [bne_iff_ne, bne_eq_false_iff_eq, ne_eq, Bool.not_eq_eq_eq_not, Bool.not_true, Bool.not_false, decide_eq_true_eq, decide_eq_false_iff_not] at *); omega)
            | (go_ret; exact ⟨says_f HE.out, rfl⟩)
        · have NX : Hid (∀ j (h : j < s.size), j < k + 1 → pkgB s[j] = true) := fun j h hj => by
            rcases Nat.lt_or_eq_of_le (Nat.lt_succ_iff.1 hj) with h' | h'
            · exact HR.out j h h'
            · subst h'; exact hp
          unfold pkg_ at hp
          rw [hd] at hp
          simp at hp
          go_wp2_with (go_at_call 78; refine (l1Digit_any _ _).mono ?_; rintro e w' ⟨rfl, rfl⟩)
          all_goals first
            | (exfalso; (try simp only [bne_iff_ne, bne_eq_false_iff_eq, ne_eq] at *); omega)
            | (go_round; (case rel => exact ⟨k + 1, by omega, by go_num, NX.out⟩); (case measure => simp [intOf]; omega))
        · exfalso; unfold pkg_ at hp; rw [hd] at hp; simp at hp
        · have NX : Hid (∀ j (h : j < s.size), j < k + 1 → pkgB s[j] = true) := fun j h hj => by
            rcases Nat.lt_or_eq_of_le (Nat.lt_succ_iff.1 hj) with h' | h'
            · exact HR.out j h h'
            · subst h'; exact hp
          clear hp
          go_wp2_with (go_at_call 78; refine (l1Digit_any _ _).mono ?_; rintro e w' ⟨rfl, rfl⟩)
          all_goals first
            | (exfalso; omega)
            | (go_round; (case rel => exact ⟨k + 1, by omega, by go_num, NX.out⟩); (case measure => simp [intOf]; omega))
      · go_wp2
        go_ret
        exact ⟨says_t ⟨h1, h2, fun i h => HR.out i h (by omega)⟩, rfl⟩
  · have HIN : Hid (inR (s.size : Int) 1 30 = false) := by show _ = _; unfold inR; simp; omega
    go_enter Tryd.func64, Tryd.ntmps64
    go_wp2_with (go_at_call 32; refine (l1In_any _ _ _ _).mono ?_; rintro e w' ⟨rfl, rfl⟩; rw [HIN.out])
    go_ret
    exact ⟨says_f (fun h => h1 ⟨h.1, h.2.1⟩), rfl⟩
set_option maxHeartbeats 1000000 in
theorem l1NameOk_any (s : ByteArray) (w : World) (hs : s.size ≤ maxLen) :
    Calls Tryd.prog 33 #[.string s] w fun e w' => Says e (NameOk s) ∧ Below w.heap.size w w' := by
  unfold maxLen at hs
  by_cases h1 : 1 ≤ s.size ∧ s.size ≤ 30
  · obtain ⟨h1, h2⟩ := h1
    have h0 : 0 < s.size := h1
    have HIN : Hid (inR (s.size : Int) 1 30 = true) := by show _ = _; unfold inR; simp; omega
    cases hb : beg (s[0].toNat : Int)
    · have HE : Hid (¬ NameOk s) := fun ⟨_, _, h, _⟩ => by unfold begB at h; rw [hb] at h; cases h
      go_enter Tryd.func33, Tryd.ntmps33
      go_wp2_with (first
        | (go_at_call 32; refine (l1In_any _ _ _ _).mono ?_; rintro e w' ⟨rfl, rfl⟩; rw [HIN.out])
        | (go_at_call 55; refine (l1Begins_any _ _).mono ?_; rintro e w' ⟨rfl, rfl⟩))
      go_ret
      exact ⟨says_f HE.out, Below.refl _ _⟩
    · by_cases hw : s.data.toList ∈ words
      · have HE : Hid (¬ NameOk s) := fun ⟨_, _, _, h, _⟩ => h hw
        have HW : Hid (decide (s.data.toList ∈ words) = true) := by show _ = _; simp [hw]
        clear hw
        go_enter Tryd.func33, Tryd.ntmps33
        go_wp2_with (first
          | (go_at_call 32; refine (l1In_any _ _ _ _).mono ?_; rintro e w' ⟨rfl, hw⟩; have hw2 := hw.symm; clear hw; subst hw2; rw [HIN.out])
          | (go_at_call 55; refine (l1Begins_any _ _).mono ?_; rintro e w' ⟨rfl, hw⟩; have hw2 := hw.symm; clear hw; subst hw2)
          | (go_at_call 56; refine (l1Words_any _).mono ?_; rintro e w' ⟨rfl, rfl⟩)
          | (go_at_call 34; refine (l1Has_words _ _ w.heap.size (fun i hi => wordS_cell w i hi)).mono ?_; rintro e w' ⟨rfl, rfl⟩; rw [HW.out]))
        go_ret
        exact ⟨says_f HE.out, (Below.refl _ _).alloc (Nat.le_refl _) _⟩
      · have HNW := hid hw
        have HW : Hid (decide (s.data.toList ∈ words) = false) := by show _ = _; simp [hw]
        clear hw
        go_enter Tryd.func33, Tryd.ntmps33
        go_wp2_with (first
          | (go_at_call 32; refine (l1In_any _ _ _ _).mono ?_; rintro e w' ⟨rfl, hw⟩; have hw2 := hw.symm; clear hw; subst hw2; rw [HIN.out])
          | (go_at_call 55; refine (l1Begins_any _ _).mono ?_; rintro e w' ⟨rfl, hw⟩; have hw2 := hw.symm; clear hw; subst hw2)
          | (go_at_call 56; refine (l1Words_any _).mono ?_; rintro e w' ⟨rfl, rfl⟩)
          | (go_at_call 34; refine (l1Has_words _ _ w.heap.size (fun i hi => wordS_cell w i hi)).mono ?_; rintro e w' ⟨rfl, hw⟩; have hw2 := hw.symm; clear hw; subst hw2; rw [HW.out]))
        go_loop [3] (fun i => ∃ k : Nat, k ≤ s.size ∧ i = .int .i64 k ∧ ∀ j (h : j < s.size), j < k → letB s[j] = true) (fun i => s.size - (intOf i).toNat)
        case atStart => exact ⟨0, Nat.zero_le _, rfl, fun j h h0 => absurd h0 (Nat.not_lt_zero _)⟩
        case round =>
          obtain ⟨k, hk, rfl, hr⟩ := hrel
          have HR := hid hr
          clear hr
          by_cases hlt : k < s.size
          · cases hp : let_ (s[k].toNat : Int)
            · have HE : Hid (¬ NameOk s) := fun ⟨_, _, _, _, h⟩ => by have := h k hlt; unfold letB at this; rw [hp] at this; cases this
              go_wp2_with (go_at_call 57; refine (l1Letter_any _ _).mono ?_; rintro e w' ⟨rfl, rfl⟩)
              go_ret
              exact ⟨says_f HE.out, (Below.refl _ _).alloc (Nat.le_refl _) _⟩
            · have NX : Hid (∀ j (h : j < s.size), j < k + 1 → letB s[j] = true) := fun j h hj => by
                rcases Nat.lt_or_eq_of_le (Nat.lt_succ_iff.1 hj) with h' | h'
                · exact HR.out j h h'
                · subst h'; exact hp
              go_wp2_with (go_at_call 57; refine (l1Letter_any _ _).mono ?_; rintro e w' ⟨rfl, rfl⟩)
              go_round
              case rel => exact ⟨k + 1, by omega, by go_num, NX.out⟩
              case measure => simp [intOf]; omega
          · go_wp2
            go_ret
            exact ⟨says_t ⟨h0, h2, hb, HNW.out, fun i h => HR.out i h (by omega)⟩, (Below.refl _ _).alloc (Nat.le_refl _) _⟩
  · have HIN : Hid (inR (s.size : Int) 1 30 = false) := by show _ = _; unfold inR; simp; omega
    go_enter Tryd.func33, Tryd.ntmps33
    go_wp2_with (go_at_call 32; refine (l1In_any _ _ _ _).mono ?_; rintro e w' ⟨rfl, rfl⟩; rw [HIN.out])
    go_ret
    exact ⟨says_f (fun ⟨a, b, _⟩ => h1 ⟨a, b⟩), Below.refl _ _⟩
end Go.Proofs.YtpobfklbbkdglaaDoor
namespace Go.Proofs.YtpobfklbbkdglaaDoor
open Go.RowKit
set_option maxRecDepth 20000
def ndV (x : Nd) : Value := .agg #[.int .i64 x.kind, .int .i64 x.op, .int .i64 x.n, .string x.text, .int .i64 x.kids]
theorem empty_eq (t : ByteArray) : (t.toList == (⟨#[]⟩ : ByteArray).toList) = true ↔ t = ⟨#[]⟩ := by
  constructor
  · exact bytes_eq
  · rintro rfl; simp
theorem l1In_dec (x lo hi : Int) (w : World) :
    Calls Tryd.prog 32 #[.int .i64 x, .int .i64 lo, .int .i64 hi] w fun e w' => e = .returned (.bool (decide (lo ≤ x) && decide (x ≤ hi))) ∧ w' = w := l1In_any x lo hi w
def Pl1 (k : Int) : Prop := ∀ (op n kids : Int) (t : ByteArray) (w : World), t.size ≤ maxLen → Calls Tryd.prog 43 #[ndV ⟨k, op, n, t, kids⟩] w fun e w' => Says e (PlainNd ⟨k, op, n, t, kids⟩) ∧ Below w.heap.size w w'
end Go.Proofs.YtpobfklbbkdglaaDoor
