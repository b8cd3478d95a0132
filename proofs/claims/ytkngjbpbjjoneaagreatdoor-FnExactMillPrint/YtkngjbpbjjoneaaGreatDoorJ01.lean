import Derived.Test.YtkngjbpbjjoneaaGreatDoorChecked
import Derived.WalkKit
import Derived.WalkSpells
import Derived.WalkLawsBesides
import Derived.Deep.QuietTactic
import Derived.BigQuiet
import Derived.Lib.Bytealg
import Derived.Lib.Strings
import Derived.BigCall
import Derived.Shelf.Abstract
import Derived.Test.YtkngjbpbjjoneaaGreatDoorJ00
/-! Plain mathematics of Mill's scanning. -/
namespace Go.Proofs.YtkngjbpbjjoneaaGreatDoor
def mlt (c : Int) : Bool := decide (97 ≤ c) && decide (c ≤ 122)
def mltB (c : UInt8) : Bool := mlt c.toNat
def tws : List (List UInt8) := [ [98, 111, 111, 108], [116, 101, 120, 116], [117, 56], [117, 49, 54], [117, 51, 50], [117, 54, 52], [105, 56], [105, 49, 54], [105, 51, 50], [105, 54, 52] ]
def pws : List (List UInt8) := [ [102, 110], [108, 101, 116], [105, 102], [101, 108, 115, 101], [119, 104, 105, 108, 101], [98, 114, 101, 97, 107], [99, 111, 110, 116, 105, 110, 117, 101], [114, 101, 116, 117, 114, 110], [102, 97, 105, 108], [119, 114, 105, 116, 101], [115, 97, 121], [116, 114, 117, 101], [102, 97, 108, 115, 101] ]
def bws : List (List UInt8) := [ [114, 101, 97, 100], [104, 97, 115], [108, 105, 115, 116], [116, 111, 111, 108], [97, 114, 103], [108, 101, 110], [97, 116], [99, 117, 116], [102, 105, 110, 100], [99, 104, 114], [100, 101, 99], [110, 117, 109] ]
def mws : List (List UInt8) := tws ++ pws ++ bws
def mmarks : List (List UInt8) := [ [45, 62], [61, 61], [33, 61], [60, 61], [62, 61], [60, 60], [62, 62], [38, 38], [124, 124], [40], [41], [123], [125], [44], [59], [61], [60], [62], [43], [45], [42], [47], [37], [38], [124], [94], [33], [126] ]
/-- The type that a word names, 0 for none. -/
def mtype (x : List UInt8) : Nat := if x ∈ tws then tws.idxOf x + 1 else 0
def tw (i : Nat) : List UInt8 := tws.getD i []
theorem mtype_tw (i : Nat) (h : i < 10) : mtype (tw i) = i + 1 := by
  have : ∀ j : Fin 10, mtype (tw j.1) = j.1 + 1 := by decide
  exact this ⟨i, h⟩
theorem mem_get (xs : List (List UInt8)) (t : List UInt8) : t ∈ xs ↔ ∃ i, i < xs.length ∧ xs.getD i [] = t := by
  constructor
  · intro h
    obtain ⟨i, hl, e⟩ := List.getElem_of_mem h
    exact ⟨i, hl, by simp [hl, e]⟩
  · rintro ⟨i, h, e⟩
    rw [← e]; simp [h]
theorem mtype_none (x : List UInt8) (h : ∀ i, i < 10 → tw i ≠ x) : mtype x = 0 := by
  unfold mtype; rw [if_neg]
  intro hm
  obtain ⟨i, hi, e⟩ := (mem_get tws x).1 hm
  exact h i hi e
theorem mtype_le (x : List UInt8) : mtype x ≤ 10 := by
  unfold mtype; split
  · rename_i h
    have := List.idxOf_lt_length_of_mem h
    have : tws.length = 10 := rfl
    omega
  · omega
theorem mtype_pos (x : List UInt8) : mtype x ≠ 0 ↔ x ∈ tws := by
  unfold mtype; split
  · rename_i h; exact ⟨fun _ => h, fun _ => by omega⟩
  · rename_i h; exact ⟨fun e => absurd rfl e, fun e => absurd e h⟩
theorem mws_len : ∀ x ∈ mws, x.length ≤ 8 := by decide
def mmax : Nat → Nat
  | 3 => 255 | 4 => 65535 | 5 => 4294967295 | 6 => 18446744073709551615 | 7 => 127 | 8 => 32767 | 9 => 2147483647 | _ => 9223372036854775807
theorem mmax_le (t : Nat) : mmax t ≤ 18446744073709551615 ∧ 127 ≤ mmax t := by
  unfold mmax; split <;> omega
/-- The int64 with the same bits. -/
def s64 (x : Nat) : Int := if x ≤ 9223372036854775807 then x else (x : Int) - 18446744073709551616
structure MOne where
  kind : Nat
  text : List UInt8
  ty : Nat
  n : Int
  size : Nat
  code : Nat
def MOne.bad (c : Nat) : MOne := ⟨0, [], 0, 0, 0, c⟩
/-- A number, by its piece: the digits and what stands behind them. -/
def numTy (p : List UInt8) : Nat := if run digB p < p.length then mtype (p.drop (run digB p)) else 10
def mnumP (p : List UInt8) : MOne :=
  if numTy p < 3 ∨ (p.take 1 = [48] ∧ 1 < run digB p) ∨ mmax (numTy p) < dval (p.take (run digB p)) then MOne.bad 3
  else ⟨3, [], numTy p, s64 (dval (p.take (run digB p))), p.length, 0⟩
def mnum (l : List UInt8) : MOne := mnumP (l.take (run letB l))
theorem numTy_le (p : List UInt8) : numTy p ≤ 10 := by
  unfold numTy; split
  · exact mtype_le _
  · exact Nat.le_refl _
def mname (l : List UInt8) : MOne :=
  if l.take (run letB l) ∈ mws then ⟨2, l.take (run letB l), 0, 0, run letB l, 0⟩
  else if 30 < run letB l then MOne.bad 5 else ⟨1, l.take (run letB l), 0, 0, run letB l, 0⟩
def mtext (r : List UInt8) : MOne :=
  match unqF (r.length + 1) r with
  | none => MOne.bad 4
  | some (o, k) => if 3000 < o.length then MOne.bad 5 else ⟨4, o, 0, 0, k + 1, 0⟩
def mmark (l : List UInt8) : MOne :=
  match mmarks.find? (fun m => m.isPrefixOf l) with
  | none => MOne.bad 2
  | some m => ⟨5, m, 0, 0, m.length, 0⟩
def mone : List UInt8 → MOne
  | [] => MOne.bad 2
  | c :: r => if c.toNat = 34 then mtext r else if digB c = true then mnum (c :: r) else if mltB c = true then mname (c :: r) else mmark (c :: r)
structure MTok where
  kind : Nat
  text : List UInt8
  ty : Nat
  n : Int
  place : Nat
/-- The tokens from place p on, where p is no place of a gap: and the fault that ends them, if there is one. -/
def mscanA : Nat → List UInt8 → Nat → List MTok × Option (Nat × Nat)
  | 0, _, _ => ([], none)
  | f + 1, l, p => if l.length ≤ p then ([], none) else
    if (mone (l.drop p)).code ≠ 0 then ([], some ((mone (l.drop p)).code, p)) else
      (⟨(mone (l.drop p)).kind, (mone (l.drop p)).text, (mone (l.drop p)).ty, (mone (l.drop p)).n, p⟩ :: (mscanA f l (p + (mone (l.drop p)).size + gapN false (l.drop (p + (mone (l.drop p)).size)))).1,
       (mscanA f l (p + (mone (l.drop p)).size + gapN false (l.drop (p + (mone (l.drop p)).size)))).2)
def mscanR (l : List UInt8) : List MTok × Nat × Nat :=
  if 12000 < l.length then ([], 1, 0) else
    match mscanA (l.length + 1) l (gapN false l) with
    | (ts, none) => (ts, 0, 0)
    | (_, some x) => ([], x)
theorem mmarks_pos : ∀ m ∈ mmarks, 1 ≤ m.length := by decide
theorem mlt_let {c : UInt8} (h : mltB c = true) : letB c = true := by
  unfold letB let_ beg; unfold mltB mlt at h; simp at h; simp; omega
/-- A token that is one takes a byte at least, and no more than there are. -/
theorem mone_size (L : List UInt8) (h : (mone L).code = 0) : 1 ≤ (mone L).size ∧ (mone L).size ≤ L.length := by
  cases L with
  | nil => simp [mone, MOne.bad] at h
  | cons c r =>
    simp only [mone] at h ⊢
    split at h
    · rename_i hc
      rw [if_pos hc]
      unfold mtext at h ⊢
      cases hu : unqF (r.length + 1) r with
      | none => rw [hu] at h; simp [MOne.bad] at h
      | some x =>
        obtain ⟨o, k⟩ := x
        rw [hu] at h
        have := unqF_pos hu
        simp only at h ⊢
        by_cases hl : 3000 < o.length
        · rw [if_pos hl] at h; simp [MOne.bad] at h
        · rw [if_neg hl]; simp; omega
    · rename_i hc
      rw [if_neg hc]
      split at h
      · rename_i hd
        rw [if_pos hd]
        unfold mnum mnumP at h ⊢
        split at h
        · simp [MOne.bad] at h
        · rename_i hx
          rw [if_neg hx]
          have h1 := run_pos _ c r (dig_let hd)
          have h2 := run_le letB (c :: r)
          show 1 ≤ ((c :: r).take (run letB (c :: r))).length ∧ ((c :: r).take (run letB (c :: r))).length ≤ _
          rw [List.length_take]; omega
      · rename_i hd
        rw [if_neg hd]
        split at h
        · rename_i hl
          rw [if_pos hl]
          unfold mname at h ⊢
          split at h
          · rename_i hx
            rw [if_pos hx]; exact ⟨run_pos _ _ _ (mlt_let hl), run_le _ _⟩
          · rename_i hx
            rw [if_neg hx]
            split at h
            · simp [MOne.bad] at h
            · rename_i hy
              rw [if_neg hy]; exact ⟨run_pos _ _ _ (mlt_let hl), run_le _ _⟩
        · rename_i hl
          rw [if_neg hl]
          unfold mmark at h ⊢
          cases hm : mmarks.find? (fun m => m.isPrefixOf (c :: r)) with
          | none => rw [hm] at h; simp [MOne.bad] at h
          | some m =>
            have h1 := List.mem_of_find?_eq_some hm
            have h2 := List.find?_some hm
            have h3 := (List.isPrefixOf_iff_prefix.1 h2).length_le
            exact ⟨mmarks_pos m h1, h3⟩
theorem mscanA_end (f : Nat) (l : List UInt8) (p : Nat) (h : l.length ≤ p) : mscanA f l p = ([], none) := by
  cases f with
  | zero => rfl
  | succ f => unfold mscanA; rw [if_pos h]
theorem mscanA_bad (f : Nat) (l : List UInt8) (p : Nat) (h : p < l.length) (hc : ¬ (mone (l.drop p)).code = 0) : mscanA (f + 1) l p = ([], some ((mone (l.drop p)).code, p)) := by
  unfold mscanA; rw [if_neg (by omega), if_pos hc]
theorem mscanA_go (f : Nat) (l : List UInt8) (p : Nat) (h : p < l.length) (hc : (mone (l.drop p)).code = 0) : mscanA (f + 1) l p =
    (⟨(mone (l.drop p)).kind, (mone (l.drop p)).text, (mone (l.drop p)).ty, (mone (l.drop p)).n, p⟩ :: (mscanA f l (p + (mone (l.drop p)).size + gapN false (l.drop (p + (mone (l.drop p)).size)))).1,
       (mscanA f l (p + (mone (l.drop p)).size + gapN false (l.drop (p + (mone (l.drop p)).size)))).2) := by
  rw [mscanA, if_neg (by omega), if_neg (by simp [hc])]
/-- What stands behind the tokens 'pre' that have been read: the whole is these and the rest. -/
def mscanRest (l : List UInt8) (f p : Nat) (pre : List MTok) : Prop := mscanA (l.length + 1) l (gapN false l) = (pre ++ (mscanA f l p).1, (mscanA f l p).2)
theorem mscanRest_go {l : List UInt8} {f p : Nat} {pre : List MTok} (hr : mscanRest l (f + 1) p pre) (h : p < l.length) (hc : (mone (l.drop p)).code = 0) :
    mscanRest l f (p + (mone (l.drop p)).size + gapN false (l.drop (p + (mone (l.drop p)).size))) (pre ++ [⟨(mone (l.drop p)).kind, (mone (l.drop p)).text, (mone (l.drop p)).ty, (mone (l.drop p)).n, p⟩]) := by
  unfold mscanRest at *; rw [hr, mscanA_go f l p h hc]; simp
theorem mscanRest_bad {l : List UInt8} {f p : Nat} {pre : List MTok} (hr : mscanRest l (f + 1) p pre) (h : p < l.length) (hl : l.length ≤ 12000) (hc : ¬ (mone (l.drop p)).code = 0) :
    mscanR l = ([], (mone (l.drop p)).code, p) := by
  unfold mscanRest at hr; unfold mscanR; rw [if_neg (by omega), hr, mscanA_bad f l p h hc]
theorem mscanRest_end {l : List UInt8} {f p : Nat} {pre : List MTok} (hr : mscanRest l f p pre) (h : l.length ≤ p) (hl : l.length ≤ 12000) : mscanR l = (pre, 0, 0) := by
  unfold mscanRest at hr; unfold mscanR; rw [if_neg (by omega), hr, mscanA_end f l p h]; simp
theorem mone_code (L : List UInt8) : (mone L).code ≤ 5 := by
  have hb : ∀ c, c ≤ 5 → (MOne.bad c).code ≤ 5 := fun c h => h
  cases L with
  | nil => exact hb 2 (by decide)
  | cons c r =>
    simp only [mone]
    split
    · unfold mtext; split
      · exact hb 4 (by decide)
      · split
        · exact hb 5 (by decide)
        · exact Nat.zero_le _
    · split
      · unfold mnum mnumP; split
        · exact hb 3 (by decide)
        · exact Nat.zero_le _
      · split
        · unfold mname; split
          · exact Nat.zero_le _
          · split
            · exact hb 5 (by decide)
            · exact Nat.zero_le _
        · unfold mmark; split
          · exact hb 2 (by decide)
          · exact Nat.zero_le _
end Go.Proofs.YtkngjbpbjjoneaaGreatDoor
/-! Plain mathematics of Mill's trees: nothing of the program's functions stands here. -/
namespace Go.Proofs.YtkngjbpbjjoneaaGreatDoor.Q
/-- A node. -/
structure Nd where
  kind : Int
  op : Int
  ty : Int
  n : Int
  text : ByteArray
  kids : Int
def mE (k : Int) : Prop := 1 ≤ k ∧ k ≤ 9
def mS (k : Int) : Prop := 10 ≤ k ∧ k ≤ 20
def NameOk (s : ByteArray) : Prop := ∃ (h1 : 0 < s.size), s.size ≤ 30 ∧ mltB s[0] = true ∧ ¬ s.data.toList ∈ mws ∧ ∀ i (h : i < s.size), letB s[i] = true
/-- Which fields a kind uses. -/
def useOp (k : Int) : Prop := k = 5 ∨ k = 6 ∨ k = 8
def useTy (k : Int) : Prop := k = 1 ∨ k = 9 ∨ k = 22 ∨ k = 23
def useN (k : Int) : Prop := k = 1 ∨ k = 3
def useName (k : Int) : Prop := k = 4 ∨ k = 7 ∨ k = 10 ∨ k = 11 ∨ k = 22 ∨ k = 23
def useText (k : Int) : Prop := k = 2 ∨ useName k
/-- A number fits to its type, as a number without sign. -/
def NumOk (t n : Int) : Prop := ∃ T : Nat, t = T ∧ 3 ≤ T ∧ T ≤ 10 ∧ IntKind.u64.wrap n ≤ (mmax T : Int)
/-- A node uses only what its kind may, and that rightly. -/
def PlainNd (x : Nd) : Prop :=
  (useOp x.kind ∨ x.op = 0) ∧ (useTy x.kind ∨ x.ty = 0) ∧ (useN x.kind ∨ x.n = 0) ∧ (useText x.kind ∨ x.text.toList.isEmpty = true) ∧ (useName x.kind → NameOk x.text) ∧
  (x.kind = 1 → NumOk x.ty x.n) ∧ (x.kind = 2 → x.text.size ≤ 3000) ∧ (x.kind = 3 → x.n = 0 ∨ x.n = 1) ∧ (x.kind = 5 → 1 ≤ x.op ∧ x.op ≤ 3) ∧ (x.kind = 6 → 1 ≤ x.op ∧ x.op ≤ 18) ∧
  (x.kind = 8 → 1 ≤ x.op ∧ x.op ≤ 12) ∧ (x.kind = 9 → 3 ≤ x.ty ∧ x.ty ≤ 10) ∧ (x.kind = 22 → 1 ≤ x.ty ∧ x.ty ≤ 10) ∧ (x.kind = 23 → 0 ≤ x.ty ∧ x.ty ≤ 10)
/-- How many kids a built word has. -/
def builtKids (op : Int) : Nat := if op = 4 ∨ op = 7 ∨ op = 9 then 2 else if op = 8 then 3 else if op = 5 then 0 else 1
def AllE (m : Nat) (kd : Nat → Int) : Prop := ∀ i, i < m → mE (kd i)
/-- The kinds of a node's m kids are right. -/
def KidsOk (x : Nd) (m : Nat) (kd : Nat → Int) : Prop :=
  ((x.kind = 1 ∨ x.kind = 2 ∨ x.kind = 3 ∨ x.kind = 4 ∨ x.kind = 14 ∨ x.kind = 15 ∨ x.kind = 22) ∧ m = 0) ∨
  ((x.kind = 5 ∨ x.kind = 9 ∨ x.kind = 10 ∨ x.kind = 11 ∨ x.kind = 17 ∨ x.kind = 19) ∧ m = 1 ∧ AllE m kd) ∨
  ((x.kind = 6 ∨ x.kind = 18) ∧ m = 2 ∧ AllE m kd) ∨
  (x.kind = 7 ∧ m ≤ 8 ∧ AllE m kd) ∨
  (x.kind = 8 ∧ m = builtKids x.op ∧ AllE m kd) ∨
  (x.kind = 12 ∧ (m = 2 ∨ m = 3) ∧ mE (kd 0) ∧ kd 1 = 21 ∧ (m = 3 → kd 2 = 21 ∨ kd 2 = 12)) ∨
  (x.kind = 13 ∧ m = 2 ∧ mE (kd 0) ∧ kd 1 = 21) ∨
  (x.kind = 16 ∧ m ≤ 1 ∧ AllE m kd) ∨
  (x.kind = 20 ∧ m = 1 ∧ kd 0 = 7) ∨
  (x.kind = 21 ∧ ∀ i, i < m → mS (kd i)) ∨
  (x.kind = 23 ∧ 1 ≤ m ∧ m ≤ 9 ∧ (∀ i, i + 1 < m → kd i = 22) ∧ kd (m - 1) = 21) ∨
  (x.kind = 24 ∧ 1 ≤ m ∧ m ≤ 60 ∧ ∀ i, i < m → kd i = 23)
end Go.Proofs.YtkngjbpbjjoneaaGreatDoor.Q
namespace Go.Proofs.YtkngjbpbjjoneaaGreatDoor.Q
open Go.RowKit Go.Shelf
set_option maxRecDepth 20000

theorem ret_bool {a b : Bool} (h : a = b) : Ending.returned (.bool a) = .returned (.bool b) := by rw [h]
theorem ret_int {k : IntKind} {a b : Int} (h : a = b) : Ending.returned (.int k a) = .returned (.int k b) := by rw [h]
theorem byte_bd (c : UInt8) : 0 ≤ (c.toNat : Int) ∧ (c.toNat : Int) ≤ 255 := by have := c.toNat_lt; omega
theorem head_eq (s : ByteArray) (hp : 0 < s.size) : s.data.toList = s[0] :: s.data.toList.tail := by
  match s, hp with
  | ⟨⟨c :: r⟩⟩, _ => rfl
  | ⟨⟨[]⟩⟩, h => exact absurd h (by decide)
theorem len_size (s : ByteArray) : s.data.toList.length = s.size := by simp
theorem notEmpty (s : ByteArray) (hp : 0 < s.size) : s.toList.isEmpty = false := by
  rw [Lib.toList_data, head_eq s hp]; rfl
theorem get_eq (s : ByteArray) (k : Nat) (h : k < s.size) : s.data.toList[k]'(by rw [len_size]; exact h) = s[k] := rfl
theorem bytes_eq {a b : ByteArray} (h : (a.toList == b.toList) = true) : a = b := by
  rw [Lib.toList_data, Lib.toList_data, beq_iff_eq] at h
  exact ByteArray.ext (Array.toList_inj.1 h)
theorem cell_new_row (w : World) (cs : Array Value) (t : TypeId) (i : Nat) : (w.alloc (.cells cs t)).cell? ⟨w.heap.size, i, none⟩ = cs[i]? := by
  have h := heap_alloc_new w (.cells cs t)
  unfold World.cell?
  rw [h]; rfl
theorem hid {p : Prop} (h : p) : Hid p := h
theorem own_base {w : World} {B B' e size k : Nat} {v : Value} {xs : List Value} (h : w.ownsRow B e size v k xs) (hB : B' ≤ B) : w.ownsRow B' e size v k xs := by
  obtain ⟨h1, h2 | ⟨g, cap, cur, a, b, c⟩⟩ := h
  · exact ⟨h1, .inl h2⟩
  · exact ⟨h1, .inr ⟨g, cap, cur, a, Nat.le_trans hB b, c⟩⟩
theorem own_below {w w1 : World} {B e size k : Nat} {v : Value} {xs : List Value} (h : w.ownsRow B e size v k xs) (hb : Below w.heap.size w w1) : w1.ownsRow B e size v k xs := by
  obtain ⟨h1, h2 | ⟨g, cap, cur, a, b, c, d⟩⟩ := h
  · exact ⟨h1, .inl h2⟩
  · refine ⟨h1, .inr ⟨g, cap, cur, a, b, ?_, d⟩⟩
    have hg : g < w.heap.size := (Array.getElem?_eq_some_iff.1 c).1
    rw [hb.block g hg]; exact c
theorem find_none (s : ByteArray) (es : List MapEntry) (i : Nat) (h : ∀ e ∈ es, ∃ t, e.key = .string t ∧ (s == t) = false) : Instr.findNow .string (.string s) es i = some none := by
  induction es generalizing i with
  | nil => rfl
  | cons e es ih =>
    obtain ⟨t, ht, hne⟩ := h e (List.mem_cons_self ..)
    unfold Instr.findNow
    rw [ht]
    simp only [Instr.sameNow, hne]
    exact ih (i + 1) fun x hx => h x (List.mem_cons_of_mem _ hx)
theorem set_last {α : Type} (a : Array α) (x y : α) : (a.push x).setIfInBounds a.size y = a.push y := by
  apply Array.ext
  · simp
  · intro i h1 h2
    rw [Array.getElem_setIfInBounds (by simpa using h1), Array.getElem_push, Array.getElem_push]
    by_cases h : a.size = i
    · subst h; simp
    · rw [if_neg h]
      simp at h1
      rw [dif_pos (by omega), dif_pos (by omega)]
theorem let_mlt (c : Int) : let_ c = (mlt c || dig c || c == 95) := by
  unfold let_ beg mlt; generalize dig c = d; cases d <;> rw [Bool.eq_iff_iff] <;> simp
theorem str_eq (a : List UInt8) (s : ByteArray) : ((⟨a.toArray⟩ : ByteArray).toList == s.toList) = decide (a = s.data.toList) := by
  rw [Lib.toList_data, Lib.toList_data, Bool.eq_iff_iff]; simp
theorem not_mem_get (xs : List (List UInt8)) (t : List UInt8) (h : ∀ i, i < xs.length → xs.getD i [] ≠ t) : ¬ t ∈ xs := fun hm => by
  obtain ⟨i, hi, e⟩ := (mem_get xs t).1 hm
  exact h i hi e
theorem mem_mws (x : List UInt8) : x ∈ mws ↔ x ∈ tws ∨ x ∈ pws ∨ x ∈ bws := by
  unfold mws; simp only [List.mem_append]
  constructor
  · rintro ((h | h) | h)
    · exact .inl h
    · exact .inr (.inl h)
    · exact .inr (.inr h)
  · rintro (h | h | h)
    · exact .inl (.inl h)
    · exact .inl (.inr h)
    · exact .inr h
/-- The call answered a bool, and the bool says whether P. -/
def Says (e : Ending) (P : Prop) : Prop := ∃ b, e = .returned (.bool b) ∧ (b = true ↔ P)
theorem says_t {P : Prop} (h : P) : Says (.returned (.bool true)) P := ⟨true, rfl, by simp [h]⟩
theorem says_f {P : Prop} (h : ¬ P) : Says (.returned (.bool false)) P := ⟨false, rfl, by simp [h]⟩
theorem Says.get {e : Ending} {P : Prop} (h : Says e P) : e = .returned (.bool true) ∧ P ∨ e = .returned (.bool false) ∧ ¬ P := by
  obtain ⟨b, rfl, hb⟩ := h
  cases b
  · exact .inr ⟨rfl, fun h => by simp [h] at hb⟩
  · exact .inl ⟨rfl, hb.1 rfl⟩
theorem below_drewN {B : Nat} {w w' : World} (h : Below B w w') (n : Nat) : Below B w (w'.drewN n) := by
  induction n with
  | zero => exact h
  | succ n ih => exact ih.drew
theorem Says.pos {e : Ending} {P : Prop} (h : Says e P) (hp : P) : e = .returned (.bool true) := by
  rcases h.get with ⟨h1, _⟩ | ⟨_, h2⟩
  · exact h1
  · exact absurd hp h2
theorem Says.neg {e : Ending} {P : Prop} (h : Says e P) (hp : ¬ P) : e = .returned (.bool false) := by
  rcases h.get with ⟨_, h2⟩ | ⟨h1, _⟩
  · exact absurd h2 hp
  · exact h1
theorem Says.of {e : Ending} {P Q : Prop} (h : Says e P) (hq : P ↔ Q) : Says e Q := by
  obtain ⟨b, h1, h2⟩ := h
  exact ⟨b, h1, h2.trans hq⟩
end Go.Proofs.YtkngjbpbjjoneaaGreatDoor.Q
