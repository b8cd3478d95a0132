import Derived.Test.YtcjgcipacfcjnaaGreatDoorProg
import Derived.WalkKit
import Derived.WalkSpells
import Derived.WalkLawsBesides
import Derived.Deep.QuietTactic
import Derived.BigQuiet
import Derived.Lib.Bytealg
import Derived.Lib.Strings
import Derived.BigCall
import Derived.Shelf.Abstract
import Derived.Shelf.Strings.FuncGrows
import Derived.Test.YtcjgcipacfcjnaaGreatDoorJ00
namespace Go.Proofs.YtcjgcipacfcjnaaGreatDoor.C
structure Sh where
 st : Nat
 sl : List Int
 sk : List Int
deriving DecidableEq
def bot : Sh := ⟨0, [], []⟩
def top : Sh := ⟨2, [], []⟩
def OkSh (S : Nat) (s : Sh) : Prop := s = bot ∨ s = top ∨ (s.st = 1 ∧ s.sl.length = S ∧ (∀ x ∈ s.sl, 0 ≤ x ∧ x ≤ 10) ∧ (∀ x ∈ s.sk, 1 ≤ x ∧ x ≤ 10) ∧ s.sk.length ≤ 600)
def slLe (a b : List Int) : Prop := a.length = b.length ∧ ∀ i, i < a.length → b.getD i 0 = a.getD i 0 ∨ b.getD i 0 = 0
def le (a b : Sh) : Prop := a.st = 0 ∨ b.st = 2 ∨ (a.st = 1 ∧ b.st = 1 ∧ a.sk = b.sk ∧ slLe a.sl b.sl)
def slJoin (a b : List Int) : List Int := List.zipWith (fun x y => if x = y then x else 0) a b
def join (a b : Sh) : Sh := if a.st = 0 then b else if a.st = 2 ∨ b.st = 2 ∨ ¬ a.sk = b.sk then top else ⟨1, slJoin a.sl b.sl, a.sk⟩
theorem slJoin_length (a b : List Int) (h : a.length = b.length) : (slJoin a b).length = a.length := by simp [slJoin, h]
theorem slJoin_get (a b : List Int) (h : a.length = b.length) (i : Nat) (hi : i < a.length) : (slJoin a b).getD i 0 = if a.getD i 0 = b.getD i 0 then a.getD i 0 else 0 := by
 have hb : i < b.length := by omega
 unfold slJoin
 rw [List.getD_eq_getElem?_getD, List.getElem?_zipWith, List.getD_eq_getElem?_getD, List.getD_eq_getElem?_getD, List.getElem?_eq_getElem hi, List.getElem?_eq_getElem hb]
 rfl
theorem slLe_refl (a : List Int) : slLe a a := ⟨rfl, fun _ _ => .inl rfl⟩
theorem slLe_trans {a b c : List Int} (h : slLe a b) (k : slLe b c) : slLe a c := by
 refine ⟨h.1.trans k.1, fun i hi => ?_⟩
 rcases k.2 i (by rw [← h.1]; exact hi) with e | e
 ·rw [e]; exact h.2 i hi
 ·exact .inr e
theorem slLe_antisymm {a b : List Int} (h : slLe a b) (k : slLe b a) : a = b := by
 apply List.ext_getElem h.1
 intro i h1 h2
 have x := h.2 i h1
 have y := k.2 i h2
 simp only [List.getD_eq_getElem?_getD, List.getElem?_eq_getElem h1, List.getElem?_eq_getElem h2, Option.getD_some] at x y
 rcases x with e | e
 ·exact e.symm
 ·rcases y with f | f
  ·exact f
  ·rw [e, f]
theorem le_refl {S : Nat} {a : Sh} (h : OkSh S a) : le a a := by
 rcases h with rfl | rfl | ⟨h, _⟩
 ·exact .inl rfl
 ·exact .inr (.inl rfl)
 ·exact .inr (.inr ⟨h, h, rfl, slLe_refl _⟩)
theorem le_trans {a b c : Sh} (h : le a b) (k : le b c) : le a c := by
 rcases h with h | h | ⟨h1, h2, h3, h4⟩
 ·exact .inl h
 ·rcases k with k | k | ⟨k1, _⟩
  ·omega
  ·exact .inr (.inl k)
  ·omega
 ·rcases k with k | k | ⟨k1, k2, k3, k4⟩
  ·omega
  ·exact .inr (.inl k)
  ·exact .inr (.inr ⟨h1, k2, h3.trans k3, slLe_trans h4 k4⟩)
theorem le_antisymm {S : Nat} {a b : Sh} (ha : OkSh S a) (hb : OkSh S b) (h : le a b) (k : le b a) : a = b := by
 rcases ha with rfl | rfl | ⟨a1, _⟩
 ·rcases hb with rfl | rfl | ⟨b1, _⟩
  ·rfl
  ·rcases k with k | k | ⟨k, _⟩ <;> simp [bot, top] at k
  ·rcases k with k | k | ⟨_, k, _⟩
   ·omega
   ·simp [bot] at k
   ·simp [bot] at k
 ·rcases hb with rfl | rfl | ⟨b1, _⟩
  ·rcases h with k | k | ⟨k, _⟩ <;> simp [bot, top] at k
  ·rfl
  ·rcases h with h | h | ⟨h, _⟩
   ·simp [top] at h
   ·omega
   ·simp [top] at h
 ·rcases hb with rfl | rfl | ⟨b1, _⟩
  ·rcases h with h | h | ⟨_, h, _⟩
   ·omega
   ·simp [bot] at h
   ·simp [bot] at h
  ·rcases k with k | k | ⟨k, _⟩
   ·simp [top] at k
   ·omega
   ·simp [top] at k
  ·rcases h with h | h | ⟨_, _, h3, h4⟩
   ·omega
   ·omega
   ·rcases k with k | k | ⟨_, _, _, k4⟩
    ·omega
    ·omega
    ·obtain ⟨s1, l1, k1⟩ := a
     obtain ⟨s2, l2, k2⟩ := b
     simp only at a1 b1 h3 h4 k4
     rw [a1, b1, h3, slLe_antisymm h4 k4]
theorem join_ok {S : Nat} {a b : Sh} (ha : OkSh S a) (hb : OkSh S b) (hb0 : b.st ≠ 0) : OkSh S (join a b) := by
 unfold join
 split
 ·exact hb
 ·split
  ·exact .inr (.inl rfl)
  ·rename_i h1 h2
   rcases ha with rfl | rfl | ⟨_, a2, a3, a4, a5⟩
   ·exact absurd rfl h1
   ·exact absurd (.inl rfl) h2
   ·rcases hb with rfl | rfl | ⟨_, b2, b3, _⟩
    ·exact absurd rfl hb0
    ·exact absurd (.inr (.inl rfl)) h2
    ·refine .inr (.inr ⟨rfl, by rw [slJoin_length _ _ (by omega)]; exact a2, fun x hx => ?_, a4, a5⟩)
     obtain ⟨i, hi, rfl⟩ := List.getElem_of_mem hx
     have hi2 : i < a.sl.length := by rw [← slJoin_length a.sl b.sl (by omega)]; exact hi
     have e := slJoin_get a.sl b.sl (by omega) i hi2
     rw [List.getD_eq_getElem?_getD, List.getElem?_eq_getElem hi, Option.getD_some] at e
     rw [e]
     split
     ·have : a.sl.getD i 0 ∈ a.sl := by rw [List.getD_eq_getElem?_getD, List.getElem?_eq_getElem hi2]; exact List.getElem_mem hi2
      exact a3 _ this
     ·omega
theorem le_join_left {S : Nat} {a b : Sh} (ha : OkSh S a) (hb : OkSh S b) (hb0 : b.st ≠ 0) : le a (join a b) := by
 unfold join
 split
 ·rename_i h; exact .inl h
 ·split
  ·exact .inr (.inl rfl)
  ·rename_i h1 h2
   rcases ha with rfl | rfl | ⟨a1, a2, _⟩
   ·exact absurd rfl h1
   ·exact absurd (.inl rfl) h2
   ·rcases hb with rfl | rfl | ⟨_, b2, _⟩
    ·exact absurd rfl hb0
    ·exact absurd (.inr (.inl rfl)) h2
    ·refine .inr (.inr ⟨a1, rfl, rfl, by rw [slJoin_length _ _ (by omega)], fun i hi => ?_⟩)
     rw [slJoin_get _ _ (by omega) i hi]
     split
     ·exact .inl rfl
     ·exact .inr rfl
theorem le_join_right {S : Nat} {a b : Sh} (ha : OkSh S a) (hb : OkSh S b) (hb0 : b.st ≠ 0) : le b (join a b) := by
 unfold join
 split
 ·exact le_refl hb
 ·split
  ·exact .inr (.inl rfl)
  ·rename_i h1 h2
   rcases ha with rfl | rfl | ⟨a1, a2, _⟩
   ·exact absurd rfl h1
   ·exact absurd (.inl rfl) h2
   ·rcases hb with rfl | rfl | ⟨b1, b2, _⟩
    ·exact absurd rfl hb0
    ·exact absurd (.inr (.inl rfl)) h2
    ·have hsk : a.sk = b.sk := Decidable.byContradiction fun h => h2 (.inr (.inr h))
     refine .inr (.inr ⟨b1, rfl, hsk.symm, by rw [slJoin_length _ _ (by omega)]; omega, fun i hi => ?_⟩)
     rw [slJoin_get _ _ (by omega) i (by omega)]
     split
     ·rename_i h; exact .inl h
     ·exact .inr rfl
theorem join_le {S : Nat} {a b c : Sh} (_ha : OkSh S a) (_hb : OkSh S b) (hb0 : b.st ≠ 0) (h : le a c) (k : le b c) : le (join a b) c := by
 unfold join
 split
 ·exact k
 ·rename_i h1
  rcases h with h | h | ⟨h2, h3, h4, h5⟩
  ·exact absurd h h1
  ·exact .inr (.inl h)
  ·rcases k with k | k | ⟨k2, _, k4, k5⟩
   ·exact absurd k hb0
   ·exact .inr (.inl k)
   ·rw [if_neg (by rintro (x | x | x); omega; omega; exact x (h4.trans k4.symm))]
    have hl : a.sl.length = b.sl.length := h5.1.trans k5.1.symm
    refine .inr (.inr ⟨rfl, h3, h4, by rw [slJoin_length _ _ hl]; exact h5.1, fun i hi => ?_⟩)
    rw [slJoin_length _ _ hl] at hi
    rw [slJoin_get _ _ hl i hi]
    have x := h5.2 i hi
    have y := k5.2 i (by omega)
    split
    ·exact x
    ·rename_i hne
     rcases x with x | x
     ·rcases y with y | y
      ·exact absurd (x.symm.trans y) hne
      ·exact .inr y
     ·exact .inr x
def nz : List Int → Nat
 | [] => 0
 | x :: r => (if x = 0 then 0 else 1) + nz r
theorem nz_le : ∀ l : List Int, nz l ≤ l.length
 | [] => Nat.le_refl _
 | x :: r => by
  have := nz_le r
  simp only [nz, List.length_cons]
  split <;> omega
def hgt (S : Nat) (s : Sh) : Nat := if s.st = 0 then S + 2 else if s.st = 1 then 1 + nz s.sl else 0
theorem hgt_0 {S : Nat} {s : Sh} (h : s.st = 0) : hgt S s = S + 2 := if_pos h
theorem hgt_1 {S : Nat} {s : Sh} (h : s.st = 1) : hgt S s = 1 + nz s.sl := by unfold hgt; rw [if_neg (by omega), if_pos h]
theorem hgt_2 {S : Nat} {s : Sh} (h : s.st = 2) : hgt S s = 0 := by unfold hgt; rw [if_neg (by omega), if_neg (by omega)]
theorem nz_down : ∀ (a b : List Int), slLe a b → nz b ≤ nz a ∧ (¬ a = b → nz b < nz a) := by
 intro a
 induction a with
 | nil =>
  intro b h
  have : b = [] := List.eq_nil_of_length_eq_zero h.1.symm
  subst this
  exact ⟨Nat.le_refl _, fun h => absurd rfl h⟩
 | cons x a ih =>
  intro b h
  cases b with
  | nil => exact absurd h.1 (by simp)
  | cons y b =>
   have hs : slLe a b := ⟨by simpa using h.1, fun i hi => by simpa using h.2 (i + 1) (by simpa using hi)⟩
   have h0 := h.2 0 (by simp)
   simp only [List.getD_cons_zero] at h0
   obtain ⟨i1, i2⟩ := ih b hs
   simp only [nz]
   rcases h0 with rfl | rfl
   ·refine ⟨by split <;> omega, fun hne => ?_⟩
    have := i2 (fun e => hne (by rw [e]))
    split <;> omega
   ·by_cases hx : x = 0
    ·subst hx
     refine ⟨by rw [if_pos rfl]; omega, fun hne => ?_⟩
     have := i2 (fun e => hne (by rw [e]))
     rw [if_pos rfl]; omega
    ·rw [if_neg hx, if_pos rfl]
     exact ⟨by omega, fun _ => by omega⟩
theorem hgt_lt {S : Nat} {a b : Sh} (ha : OkSh S a) (hb : OkSh S b) (h : le a b) (hne : ¬ a = b) : hgt S b < hgt S a := by
 rcases h with h | h | ⟨h1, h2, h3, h4⟩
 ·have e : a = bot := by
   rcases ha with h2 | h2 | ⟨h2, _⟩
   ·exact h2
   ·rw [h2] at h; simp [top] at h
   ·omega
  rw [hgt_0 (s := a) (by rw [e]; rfl)]
  rcases hb with rfl | rfl | ⟨b1, b2, _⟩
  ·exact absurd e hne
  ·rw [hgt_2 rfl]; omega
  ·have := nz_le b.sl
   rw [hgt_1 b1]
   omega
 ·have e : b = top := by
   rcases hb with k | k | ⟨k, _⟩
   ·rw [k] at h; simp [bot] at h
   ·exact k
   ·omega
  rw [hgt_2 (s := b) h]
  rcases ha with rfl | rfl | ⟨a1, _⟩
  ·rw [hgt_0 rfl]; omega
  ·exact absurd e.symm hne
  ·rw [hgt_1 a1]; omega
 ·have := (nz_down _ _ h4).2 (fun e => hne (by
   obtain ⟨s1, l1, k1⟩ := a
   obtain ⟨s2, l2, k2⟩ := b
   simp only at h1 h2 h3 e
   rw [h1, h2, h3, e]))
  rw [hgt_1 h1, hgt_1 h2]
  omega
end Go.Proofs.YtcjgcipacfcjnaaGreatDoor.C
namespace Go.Proofs.YtcjgcipacfcjnaaGreatDoor.C
structure In where
 op : Int
 a : Int
 n : Int
 text : ByteArray
structure Fn where
 name : ByteArray
 params : List Int
 result : Int
 slots : Int
 ins : List In
def Fn.S (f : Fn) : Nat := f.slots.toNat
def in0 : In := ⟨0, 0, 0, ⟨#[]⟩⟩
def fn0 : Fn := ⟨⟨#[]⟩, [], 0, 0, []⟩
def isI (t : Int) : Bool := decide (3 ≤ t) && decide (t ≤ 10)
def unG (op k : Int) : Int := if (op = 2 ∧ k = 1) ∨ (¬ op = 2 ∧ isI k = true) then k else 0
def binG (op a b : Int) : Int :=
 if ¬ a = b ∨ a = 0 then 0 else if op = 3 ∨ op = 4 then 1 else if 5 ≤ op ∧ op ≤ 8 then (if a = 1 then 0 else 1) else if op = 9 then (if a = 1 then 0 else a) else if isI a = true then a else 0
def sig (op : Int) : List Int × Int :=
 if op = 1 ∨ op = 3 then ([2], 2) else if op = 2 then ([2], 1) else if op = 4 then ([2, 2], 2) else if op = 5 then ([], 2) else if op = 6 ∨ op = 12 then ([2], 10) else if op = 7 then ([2, 10], 3) else if op = 8 then ([2, 10, 10], 2) else if op = 9 then ([2, 2], 10) else if op = 10 then ([3], 2) else ([-1], 2)
def fitK (ask k : Int) : Bool := decide (ask = k) || (decide (ask = -1) && isI k)
def fitL : List Int → List Int → Bool
 | [], [] => true
 | a :: r, k :: s => fitK a k && fitL r s
 | _, _ => false
def takesN (fns : List Fn) (i : In) : Nat :=
 if i.op = 3 ∨ i.op = 4 ∨ i.op = 5 ∨ i.op = 7 ∨ i.op = 11 ∨ i.op = 13 ∨ i.op = 15 then 1 else if i.op = 6 ∨ i.op = 14 then 2 else if i.op = 8 then (sig i.a).1.length else if i.op = 9 then (fns.getD i.a.toNat fn0).params.length else if i.op = 12 then i.a.toNat else 0
def opt (t : Int) : Option (List Int) := if t = 0 then none else some [t]
def whn (p : Prop) [Decidable p] (l : List Int) : Option (List Int) := if p then some l else none
def eff (fns : List Fn) (f : Fn) (i : In) (sl tk : List Int) : Option (List Int) :=
 if i.op = 1 then some [i.a]
 else if i.op = 2 then opt (sl.getD i.a.toNat 0)
 else if i.op = 5 then opt (unG i.a (tk.getD 0 0))
 else if i.op = 6 then opt (binG i.a (tk.getD 0 0) (tk.getD 1 0))
 else if i.op = 7 then whn (isI (tk.getD 0 0) = true) [i.a]
 else if i.op = 8 then whn (fitL (sig i.a).1 tk = true) [(sig i.a).2]
 else if i.op = 9 then whn (tk = (fns.getD i.a.toNat fn0).params) (if (fns.getD i.a.toNat fn0).result = 0 then [] else [(fns.getD i.a.toNat fn0).result])
 else if i.op = 11 then whn (tk.getD 0 0 = 1) []
 else if i.op = 12 then whn (i.a = 0 ∨ tk.getD 0 0 = f.result) []
 else if i.op = 13 ∨ i.op = 15 then whn (tk.getD 0 0 = 2) []
 else if i.op = 14 then whn (tk.getD 0 0 = 2 ∧ tk.getD 1 0 = 2) []
 else some []
def goes (i : In) (p : Nat) : List Nat := if i.op = 12 ∨ i.op = 13 then [] else if i.op = 10 then [i.a.toNat] else if i.op = 11 then [i.a.toNat, p + 1] else [p + 1]
def behind (fns : List Fn) (f : Fn) (p : Nat) (s : Sh) : Sh :=
 if s.st = 1 ∧ takesN fns (f.ins.getD p in0) ≤ s.sk.length ∧ ∀ g ∈ goes (f.ins.getD p in0) p, g < f.ins.length then
  match eff fns f (f.ins.getD p in0) s.sl (s.sk.drop (s.sk.length - takesN fns (f.ins.getD p in0))) with
  | none => top
  | some l => if s.sk.length - takesN fns (f.ins.getD p in0) + l.length ≤ 600 then ⟨1, if (f.ins.getD p in0).op = 3 then s.sl.set (f.ins.getD p in0).a.toNat (s.sk.getLastD 0) else s.sl, s.sk.take (s.sk.length - takesN fns (f.ins.getD p in0)) ++ l⟩ else top
 else top
structure InsR (fns : List Fn) (f : Fn) (i : In) : Prop where
 op : 1 ≤ i.op ∧ i.op ≤ 16
 push : i.op = 1 → 1 ≤ i.a ∧ i.a ≤ 10
 slot : i.op = 2 ∨ i.op = 3 → 0 ≤ i.a ∧ i.a < f.slots
 un : i.op = 5 → 1 ≤ i.a ∧ i.a ≤ 3
 bin : i.op = 6 → 3 ≤ i.a ∧ i.a ≤ 18
 conv : i.op = 7 → 3 ≤ i.a ∧ i.a ≤ 10
 built : i.op = 8 → 1 ≤ i.a ∧ i.a ≤ 12
 call : i.op = 9 → 0 ≤ i.a ∧ i.a < fns.length
 place : i.op = 10 ∨ i.op = 11 → 0 ≤ i.a ∧ i.a ≤ f.ins.length
 ret : i.op = 12 → (i.a = 1 ∧ ¬ f.result = 0) ∨ (i.a = 0 ∧ f.result = 0)
structure FnR (fns : List Fn) (f : Fn) : Prop where
 params : ∀ x ∈ f.params, 1 ≤ x ∧ x ≤ 10
 few : f.params.length ≤ 8
 result : 0 ≤ f.result ∧ f.result ≤ 10
 slots : (f.params.length : Int) ≤ f.slots ∧ f.slots ≤ 200
 some_ : 1 ≤ f.ins.length ∧ f.ins.length ≤ 50000
 ins : ∀ i ∈ f.ins, InsR fns f i
theorem unG_range {op k : Int} (hk : 0 ≤ k ∧ k ≤ 10) : 0 ≤ unG op k ∧ unG op k ≤ 10 := by
 unfold unG; split <;> omega
theorem binG_range {op a b : Int} (ha : 0 ≤ a ∧ a ≤ 10) : 0 ≤ binG op a b ∧ binG op a b ≤ 10 := by
 unfold binG; (repeat' split) <;> omega
theorem sig_range (op : Int) : 1 ≤ (sig op).2 ∧ (sig op).2 ≤ 10 := by
 unfold sig; (repeat' split) <;> simp
theorem opt_some {t : Int} {l : List Int} (h : opt t = some l) : ¬ t = 0 ∧ l = [t] := by
 unfold opt at h
 split at h
 ·cases h
 ·rename_i hne
  exact ⟨hne, by simpa using h.symm⟩
theorem whn_some {p : Prop} [Decidable p] {l m : List Int} (h : whn p l = some m) : p ∧ m = l := by
 unfold whn at h
 split at h
 ·rename_i hp
  exact ⟨hp, by simpa using h.symm⟩
 ·cases h
theorem getD_range {l : List Int} (h : ∀ x ∈ l, 1 ≤ x ∧ x ≤ 10) (i : Nat) : 0 ≤ l.getD i 0 ∧ l.getD i 0 ≤ 10 := by
 by_cases hi : i < l.length
 ·rw [List.getD_eq_getElem?_getD, List.getElem?_eq_getElem hi]
  have := h _ (List.getElem_mem hi)
  simp; omega
 ·rw [List.getD_eq_getElem?_getD, List.getElem?_eq_none (by omega)]; simp
theorem getD_range0 {l : List Int} (h : ∀ x ∈ l, 0 ≤ x ∧ x ≤ 10) (i : Nat) : 0 ≤ l.getD i 0 ∧ l.getD i 0 ≤ 10 := by
 by_cases hi : i < l.length
 ·rw [List.getD_eq_getElem?_getD, List.getElem?_eq_getElem hi]
  exact h _ (List.getElem_mem hi)
 ·rw [List.getD_eq_getElem?_getD, List.getElem?_eq_none (by omega)]; simp
theorem eff_range {fns : List Fn} {f : Fn} {i : In} {sl tk l : List Int} (_hf : FnR fns f) (hF : ∀ g ∈ fns, FnR fns g) (hi : InsR fns f i) (hs : ∀ x ∈ sl, 0 ≤ x ∧ x ≤ 10) (ht : ∀ x ∈ tk, 1 ≤ x ∧ x ≤ 10) (h : eff fns f i sl tk = some l) : (∀ x ∈ l, 1 ≤ x ∧ x ≤ 10) ∧ l.length ≤ 1 := by
 have one : ∀ t : Int, 1 ≤ t ∧ t ≤ 10 → (∀ x ∈ [t], 1 ≤ x ∧ x ≤ 10) ∧ [t].length ≤ 1 := fun t h => ⟨fun x hx => by simp at hx; subst hx; exact h, by simp⟩
 have none : (∀ x ∈ ([] : List Int), 1 ≤ x ∧ x ≤ 10) ∧ ([] : List Int).length ≤ 1 := ⟨fun x hx => (nomatch hx), by simp⟩
 have h0 := getD_range0 hs i.a.toNat
 have t0 := getD_range ht 0
 obtain ⟨op, a, n, t⟩ := i
 have hop := hi.op
 dsimp only at hop h0
 obtain rfl | rfl | rfl | rfl | rfl | rfl | rfl | rfl | rfl | rfl | rfl | rfl | rfl | rfl | rfl | rfl : op = 1 ∨ op = 2 ∨ op = 3 ∨ op = 4 ∨ op = 5 ∨ op = 6 ∨ op = 7 ∨ op = 8 ∨ op = 9 ∨ op = 10 ∨ op = 11 ∨ op = 12 ∨ op = 13 ∨ op = 14 ∨ op = 15 ∨ op = 16 := by omega
 all_goals simp [eff] at h
 ·rw [← h]; exact one _ (hi.push rfl)
 ·obtain ⟨h1, rfl⟩ := opt_some h
  exact one _ (by simp at h0 h1 ⊢; omega)
 ·rw [h]; exact none
 ·rw [h]; exact none
 ·obtain ⟨h1, rfl⟩ := opt_some h
  have := unG_range (op := a) t0
  exact one _ (by simp at this h1 ⊢; omega)
 ·obtain ⟨h1, rfl⟩ := opt_some h
  have := binG_range (op := a) (b := tk.getD 1 0) t0
  exact one _ (by simp at this h1 ⊢; omega)
 ·obtain ⟨_, rfl⟩ := whn_some h
  have := hi.conv rfl
  exact one _ (by dsimp only at this; omega)
 ·obtain ⟨_, rfl⟩ := whn_some h
  exact one _ (sig_range _)
 ·obtain ⟨_, rfl⟩ := whn_some h
  split
  ·exact none
  ·rename_i hne
   have hc := hi.call rfl
   dsimp only at hc
   have hm : fns.getD a.toNat fn0 ∈ fns := by
    have : a.toNat < fns.length := by omega
    rw [List.getD_eq_getElem?_getD, List.getElem?_eq_getElem this]
    exact List.getElem_mem this
   have := (hF _ hm).result
   simp only [List.getD_eq_getElem?_getD] at this hne ⊢
   exact one _ (by omega)
 ·rw [h]; exact none
 ·obtain ⟨_, rfl⟩ := whn_some h; exact none
 ·obtain ⟨_, rfl⟩ := whn_some h; exact none
 ·obtain ⟨_, rfl⟩ := whn_some h; exact none
 ·obtain ⟨_, rfl⟩ := whn_some h; exact none
 ·obtain ⟨_, rfl⟩ := whn_some h; exact none
 ·rw [h]; exact none
theorem behind_st (fns : List Fn) (f : Fn) (p : Nat) (s : Sh) : (behind fns f p s).st ≠ 0 := by
 unfold behind
 split
 ·split
  ·simp [top]
  ·split
   ·simp
   ·simp [top]
 ·simp [top]
theorem behind_ok {fns : List Fn} {f : Fn} {p : Nat} {s : Sh} (hf : FnR fns f) (hF : ∀ g ∈ fns, FnR fns g) (hp : p < f.ins.length) (hs : OkSh f.S s) : OkSh f.S (behind fns f p s) := by
 have hm : f.ins.getD p in0 ∈ f.ins := by rw [List.getD_eq_getElem?_getD, List.getElem?_eq_getElem hp]; exact List.getElem_mem hp
 unfold behind
 generalize f.ins.getD p in0 = i at *
 have hi := hf.ins i hm
 split
 ·rename_i hc
  rcases hs with rfl | rfl | ⟨s1, s2, s3, s4, s5⟩
  ·exact absurd hc.1 (by simp [bot])
  ·exact absurd hc.1 (by simp [top])
  ·split
   ·exact .inr (.inl rfl)
   ·rename_i l hl
    split
    ·rename_i h6
     have hr := eff_range hf hF hi s3 (fun x hx => s4 x (List.mem_of_mem_drop hx)) hl
     refine .inr (.inr ⟨rfl, ?_, ?_, ?_, ?_⟩)
     ·dsimp only
      split
      ·rw [List.length_set]; exact s2
      ·exact s2
     ·dsimp only
      split
      ·rename_i h3
       intro x hx
       rcases List.mem_or_eq_of_mem_set hx with hx | rfl
       ·exact s3 x hx
       ·have hne : s.sk ≠ [] := fun e => by
         have := hc.2.1
         rw [e] at this
         simp [takesN, h3] at this
        have := s4 (s.sk.getLastD 0) (by
         cases hk : s.sk with
         | nil => exact absurd hk hne
         | cons a r => rw [List.getLastD_cons]; exact List.getLastD_mem_cons ..)
        omega
      ·exact s3
     ·intro x hx
      rcases List.mem_append.1 hx with hx | hx
      ·exact s4 x (List.mem_of_mem_take hx)
      ·exact hr.1 x hx
     ·dsimp only
      rw [List.length_append, List.length_take]
      omega
    ·exact .inr (.inl rfl)
 ·exact .inr (.inl rfl)
theorem set_le {a b : List Int} (h : slLe a b) (k : Nat) (t : Int) : slLe (a.set k t) (b.set k t) := by
 refine ⟨by simp [h.1], fun i hi => ?_⟩
 rw [List.length_set] at hi
 simp only [List.getD_eq_getElem?_getD, List.getElem?_set]
 by_cases e : k = i
 ·subst e
  have := h.1
  rw [if_pos rfl, if_pos rfl, if_pos hi, if_pos (by omega)]
  exact .inl rfl
 ·rw [if_neg e, if_neg e, ← List.getD_eq_getElem?_getD, ← List.getD_eq_getElem?_getD]
  exact h.2 i hi
theorem eff_mono {fns : List Fn} {f : Fn} {i : In} {a b tk l : List Int} (h : slLe a b) (hi : InsR fns f i) (ha : a.length = f.S) (he : eff fns f i b tk = some l) : eff fns f i a tk = some l := by
 by_cases h2 : i.op = 2
 ·have hs := hi.slot (.inl h2)
  unfold eff at he ⊢
  rw [if_neg (by omega), if_pos h2] at he ⊢
  obtain ⟨h3, rfl⟩ := opt_some he
  rcases h.2 i.a.toNat (by rw [ha]; unfold Fn.S; omega) with e | e
  ·rw [← e]; exact he
  ·exact absurd e h3
 ·unfold eff at he ⊢
  rw [if_neg h2] at he ⊢
  exact he
theorem behind_mono {fns : List Fn} {f : Fn} {p : Nat} {a b : Sh} (hf : FnR fns f) (hp : p < f.ins.length) (ha : OkSh f.S a) (h : le a b) (h0 : a.st ≠ 0) : le (behind fns f p a) (behind fns f p b) := by
 have hm : f.ins.getD p in0 ∈ f.ins := by rw [List.getD_eq_getElem?_getD, List.getElem?_eq_getElem hp]; exact List.getElem_mem hp
 have hi := hf.ins _ hm
 rcases h with h | h | ⟨h1, h2, h3, h4⟩
 ·exact absurd h h0
 ·refine .inr (.inl ?_)
  unfold behind
  rw [if_neg (by omega)]
  rfl
 ·have hal : a.sl.length = f.S := by
   rcases ha with rfl | rfl | ⟨_, h, _⟩
   ·simp [bot] at h1
   ·simp [top] at h1
   ·exact h
  unfold behind
  generalize f.ins.getD p in0 = i at *
  rw [← h3]
  by_cases hc : takesN fns i ≤ a.sk.length ∧ ∀ g ∈ goes i p, g < f.ins.length
  ·have c1 : a.st = 1 ∧ takesN fns i ≤ a.sk.length ∧ ∀ g ∈ goes i p, g < f.ins.length := ⟨h1, hc⟩
   have c2 : b.st = 1 ∧ takesN fns i ≤ a.sk.length ∧ ∀ g ∈ goes i p, g < f.ins.length := ⟨h2, hc⟩
   rw [if_pos c1, if_pos c2]
   cases hb : eff fns f i b.sl (a.sk.drop (a.sk.length - takesN fns i)) with
   | none => exact .inr (.inl rfl)
   | some l =>
    rw [eff_mono h4 hi hal hb]
    dsimp only
    split
    ·refine .inr (.inr ⟨rfl, rfl, rfl, ?_⟩)
     dsimp only
     split
     ·exact set_le h4 _ _
     ·exact h4
    ·exact .inr (.inl rfl)
  ·have c2 : ¬ (b.st = 1 ∧ takesN fns i ≤ a.sk.length ∧ ∀ g ∈ goes i p, g < f.ins.length) := fun h => hc h.2
   rw [if_neg c2]
   exact .inr (.inl rfl)
def first (f : Fn) : Sh := ⟨1, f.params ++ List.replicate (f.S - f.params.length) 0, []⟩
theorem first_ok {fns : List Fn} {f : Fn} (hf : FnR fns f) : OkSh f.S (first f) := by
 refine .inr (.inr ⟨rfl, ?_, ?_, fun x hx => (nomatch hx), by simp [first]⟩)
 ·have := hf.slots; simp [first, Fn.S]; omega
 ·intro x hx
  rcases List.mem_append.1 hx with hx | hx
  ·have := hf.params x hx; omega
  ·have := List.eq_of_mem_replicate hx; omega
def ClosedAt (fns : List Fn) (f : Fn) (A : Nat → Sh) (p : Nat) : Prop := (A p).st ≠ 0 → ∀ g ∈ goes (f.ins.getD p in0) p, g < f.ins.length → le (behind fns f p (A p)) (A g)
structure Closed (fns : List Fn) (f : Fn) (A : Nat → Sh) : Prop where
 ok : ∀ p, p < f.ins.length → OkSh f.S (A p)
 fst : le (first f) (A 0)
 go : ∀ p, p < f.ins.length → ClosedAt fns f A p
structure Low (fns : List Fn) (f : Fn) (A : Nat → Sh) : Prop where
 ok : ∀ p, p < f.ins.length → OkSh f.S (A p)
 low : ∀ F, Closed fns f F → ∀ p, p < f.ins.length → le (A p) (F p)
theorem least_unique {fns : List Fn} {f : Fn} {A B : Nat → Sh} (a : Closed fns f A) (la : Low fns f A) (b : Closed fns f B) (lb : Low fns f B) (p : Nat) (hp : p < f.ins.length) : A p = B p :=
 le_antisymm (a.ok p hp) (b.ok p hp) (la.low B b p hp) (lb.low A a p hp)
def upd (A : Nat → Sh) (g : Nat) (s : Sh) : Nat → Sh := fun q => if q = g then s else A q
theorem Low.come {fns : List Fn} {f : Fn} {A : Nat → Sh} (h : Low fns f A) (hf : FnR fns f) (hF : ∀ g ∈ fns, FnR fns g) {p g : Nat} (hp : p < f.ins.length) (h0 : (A p).st ≠ 0) (hg : g ∈ goes (f.ins.getD p in0) p) (hgn : g < f.ins.length) : Low fns f (upd A g (join (A g) (behind fns f p (A p)))) := by
 have bo := behind_ok hf hF hp (h.ok p hp)
 have b0 := behind_st fns f p (A p)
 refine ⟨fun q hq => ?_, fun F hFc q hq => ?_⟩
 ·unfold upd
  split
  ·exact join_ok (h.ok g hgn) bo b0
  ·exact h.ok q hq
 ·unfold upd
  split
  ·rename_i e
   subst e
   refine join_le (h.ok q hq) bo b0 (h.low F hFc q hq) ?_
   have hpF := h.low F hFc p hp
   have hF0 : (F p).st ≠ 0 := fun e => by
    rcases hpF with x | x | ⟨_, x, _⟩
    ·exact h0 x
    ·omega
    ·omega
   exact le_trans (behind_mono hf hp (h.ok p hp) hpF h0) (hFc.go p hp hF0 q hg hq)
  ·exact h.low F hFc q hq
def tot (S : Nat) (A : Nat → Sh) : Nat → Nat
 | 0 => 0
 | n + 1 => tot S A n + hgt S (A n)
theorem tot_same {S : Nat} {A B : Nat → Sh} : ∀ n, (∀ q, q < n → A q = B q) → tot S A n = tot S B n
 | 0, _ => rfl
 | n + 1, h => by simp only [tot]; rw [tot_same n (fun q hq => h q (by omega)), h n (by omega)]
theorem tot_upd {S : Nat} {A : Nat → Sh} {g : Nat} {s : Sh} : ∀ n, g < n → hgt S s < hgt S (A g) → tot S (upd A g s) n < tot S A n
 | 0, h, _ => by omega
 | n + 1, h, hl => by
  simp only [tot]
  by_cases e : g = n
  ·subst e
   rw [tot_same (B := A) g (fun q hq => by unfold upd; rw [if_neg (by omega)])]
   have : upd A g s g = s := by unfold upd; rw [if_pos rfl]
   rw [this]; omega
  ·have := tot_upd (S := S) (A := A) (s := s) n (by omega) hl
   have e2 : upd A g s n = A n := by unfold upd; rw [if_neg (by omega)]
   rw [e2]; omega
theorem tot_join {f : Fn} {A : Nat → Sh} (h : ∀ p, p < f.ins.length → OkSh f.S (A p)) {g : Nat} {b : Sh} (hg : g < f.ins.length) (hb : OkSh f.S b) (hb0 : b.st ≠ 0) (hne : ¬ join (A g) b = A g) : tot f.S (upd A g (join (A g) b)) f.ins.length < tot f.S A f.ins.length :=
 tot_upd _ hg (hgt_lt (h g hg) (join_ok (h g hg) hb hb0) (le_join_left (h g hg) hb hb0) (fun e => hne e.symm))
end Go.Proofs.YtcjgcipacfcjnaaGreatDoor.C
namespace Go.Proofs.YtcjgcipacfcjnaaGreatDoor.V
open Go.RowKit Go.Shelf
set_option maxRecDepth 20000
theorem ret_bool {a b : Bool} (h : a = b) : Ending.returned (.bool a) = .returned (.bool b) := by rw [h]
theorem ret_int {k : IntKind} {a b : Int} (h : a = b) : Ending.returned (.int k a) = .returned (.int k b) := by rw [h]
theorem hid {p : Prop} (h : p) : Hid p := h
set_option maxHeartbeats 400000 in
theorem l10Integer_any (t : Int) (w : World) :
  Calls Tryz.prog 109 #[.int .i64 t] w fun e w' => e = .returned (.bool (decide (3 ≤ t) && decide (t ≤ 10))) ∧ w' = w := by
 go_enter Tryz.func109, Tryz.ntmps109
 go_wp2
 all_goals go_ret
 all_goals exact ⟨ret_bool (by rw [Bool.eq_iff_iff]; simp; try omega), rfl⟩
set_option maxHeartbeats 400000 in
theorem millIsInteger_any (t : Int) (w : World) :
  Calls Tryz.prog 141 #[.int .i64 t] w fun e w' => e = .returned (.bool (decide (3 ≤ t) && decide (t ≤ 10))) ∧ w' = w := by
 go_enter Tryz.func141, Tryz.ntmps141
 go_wp2
 all_goals go_ret
 all_goals exact ⟨ret_bool (by rw [Bool.eq_iff_iff]; simp; try omega), rfl⟩
set_option maxHeartbeats 400000 in
theorem l10Signed_any (t : Int) (w : World) :
  Calls Tryz.prog 154 #[.int .i64 t] w fun e w' => e = .returned (.bool (decide (7 ≤ t) && decide (t ≤ 10))) ∧ w' = w := by
 go_enter Tryz.func154, Tryz.ntmps154
 go_wp2
 all_goals go_ret
 all_goals exact ⟨ret_bool (by rw [Bool.eq_iff_iff]; simp; try omega), rfl⟩
theorem typ8 {t : Int} (h1 : 3 ≤ t) (h2 : t ≤ 10) : t = 3 ∨ t = 4 ∨ t = 5 ∨ t = 6 ∨ t = 7 ∨ t = 8 ∨ t = 9 ∨ t = 10 := by omega
set_option maxHeartbeats 400000 in
theorem l10Bits_any (t : Int) (h1 : 3 ≤ t) (h2 : t ≤ 10) (w : World) :
  Calls Tryz.prog 153 #[.int .i64 t] w fun e w' => e = .returned (.int .i64 ((kT t).bits : Nat)) ∧ w' = w := by
 obtain rfl | rfl | rfl | rfl | rfl | rfl | rfl | rfl := typ8 h1 h2
 all_goals go_enter Tryz.func153, Tryz.ntmps153
 all_goals go_wp2
 all_goals go_ret
 all_goals exact ⟨rfl, rfl⟩
set_option maxHeartbeats 1000000 in
theorem l13Into_any (t x : Int) (h1 : 3 ≤ t) (h2 : t ≤ 10) (hx0 : 0 ≤ x) (hx : x ≤ 18446744073709551615) (w : World) :
  Calls Tryz.prog 137 #[.int .i64 t, .int .u64 x] w fun e w' => e = .returned (.int .i64 (into t x)) ∧ w' = w := by
 obtain rfl | rfl | rfl | rfl | rfl | rfl | rfl | rfl := typ8 h1 h2
 all_goals clear h1 h2
 all_goals go_enter Tryz.func137, Tryz.ntmps137
 all_goals go_wp2_with (first
  | (go_at_call 153; refine (l10Bits_any _ (by decide) (by decide) _).mono ?_; rintro e w' ⟨rfl, rfl⟩; simp only [kT3, kT4, kT5, kT6, kT7, kT8, kT9, kT10, IntKind.bits])
  | (go_at_call 154; refine (l10Signed_any _ _).mono ?_; rintro e w' ⟨rfl, rfl⟩; simp)
  | fail)
 all_goals go_ret
 all_goals exact ⟨ret_int (by simp [into, intoK, kT3, kT4, kT5, kT6, kT7, kT8, kT9, kT10, IntKind.wrap, IntKind.bits, IntKind.signed, wrap64]; try omega), rfl⟩
end Go.Proofs.YtcjgcipacfcjnaaGreatDoor.V
namespace Go.Proofs.YtcjgcipacfcjnaaGreatDoor.C
structure Src (fns : List Fn) (f : Fn) (p : Nat) (s : Sh) : Prop where
 ok : OkSh f.S s
 st : s.st ≠ 0
 low : ∀ F, Closed fns f F → ∀ g ∈ goes (f.ins.getD p in0) p, g < f.ins.length → le s (F g)
theorem Low.src {fns : List Fn} {f : Fn} {A : Nat → Sh} (h : Low fns f A) (hf : FnR fns f) (hF : ∀ g ∈ fns, FnR fns g) {p : Nat} (hp : p < f.ins.length) (h0 : (A p).st ≠ 0) : Src fns f p (behind fns f p (A p)) := by
 refine ⟨behind_ok hf hF hp (h.ok p hp), behind_st _ _ _ _, fun F hFc g hg hgn => ?_⟩
 have hpF := h.low F hFc p hp
 have hF0 : (F p).st ≠ 0 := fun e => by
  rcases hpF with x | x | ⟨_, x, _⟩
  ·exact h0 x
  ·omega
  ·omega
 exact le_trans (behind_mono hf hp (h.ok p hp) hpF h0) (hFc.go p hp hF0 g hg hgn)
theorem upd_at (A : Nat → Sh) (g : Nat) (s : Sh) : upd A g s g = s := by unfold upd; rw [if_pos rfl]
theorem upd_ne (A : Nat → Sh) {g q : Nat} (s : Sh) (h : ¬ q = g) : upd A g s q = A q := by unfold upd; rw [if_neg h]
theorem Low.comes {fns : List Fn} {f : Fn} {A : Nat → Sh} {s : Sh} {p g : Nat} (h : Low fns f A) (hs : Src fns f p s) (hg : g ∈ goes (f.ins.getD p in0) p) (hgn : g < f.ins.length) : Low fns f (upd A g (join (A g) s)) := by
 refine ⟨fun q hq => ?_, fun F hFc q hq => ?_⟩
 ·by_cases e : q = g
  ·subst e; rw [upd_at]; exact join_ok (h.ok q hq) hs.ok hs.st
  ·rw [upd_ne _ _ e]; exact h.ok q hq
 ·by_cases e : q = g
  ·subst e; rw [upd_at]; exact join_le (h.ok q hq) hs.ok hs.st (h.low F hFc q hq) (hs.low F hFc q hg hq)
  ·rw [upd_ne _ _ e]; exact h.low F hFc q hq
theorem up_upd {fns : List Fn} {f : Fn} {A : Nat → Sh} {s : Sh} {p g : Nat} (h : Low fns f A) (hs : Src fns f p s) (hgn : g < f.ins.length) (q : Nat) (hq : q < f.ins.length) : le (A q) (upd A g (join (A g) s) q) := by
 by_cases e : q = g
 ·subst e; rw [upd_at]; exact le_join_left (h.ok q hq) hs.ok hs.st
 ·rw [upd_ne _ _ e]; exact le_refl (h.ok q hq)
theorem come_le {S : Nat} {a s : Sh} (ha : OkSh S a) (hs : OkSh S s) (h0 : s.st ≠ 0) (h : join a s = a) : le s a := by
 have := le_join_right ha hs h0
 rwa [h] at this
theorem le_first_low {fns : List Fn} {f : Fn} (hf : FnR fns f) : Low fns f (upd (fun _ => bot) 0 (first f)) := by
 refine ⟨fun q hq => ?_, fun F hFc q hq => ?_⟩
 ·by_cases e : q = 0
  ·subst e; rw [upd_at]; exact first_ok hf
  ·rw [upd_ne _ _ e]; exact .inl rfl
 ·by_cases e : q = 0
  ·subst e; rw [upd_at]; exact hFc.fst
  ·rw [upd_ne _ _ e]; exact .inl rfl
structure RInv (fns : List Fn) (f : Fn) (A0 A : Nat → Sh) (i : Nat) (again : Bool) : Prop where
 low : Low fns f A
 fst : le (first f) (A 0)
 same : again = false → (∀ q, q < f.ins.length → A q = A0 q) ∧ ∀ p, p < i → ClosedAt fns f A p
 less : again = true → tot f.S A f.ins.length < tot f.S A0 f.ins.length
theorem RInv.start {fns : List Fn} {f : Fn} {A : Nat → Sh} (h : Low fns f A) (h1 : le (first f) (A 0)) : RInv fns f A A 0 false := ⟨h, h1, fun _ => ⟨fun _ _ => rfl, fun p hp => absurd hp (Nat.not_lt_zero _)⟩, fun h => by cases h⟩
theorem RInv.skip {fns : List Fn} {f : Fn} {A0 A : Nat → Sh} {i : Nat} {again : Bool} (h : RInv fns f A0 A i again) (h0 : (A i).st = 0) : RInv fns f A0 A (i + 1) again :=
 ⟨h.low, h.fst, fun e => ⟨(h.same e).1, fun p hp => by
  by_cases hi : p = i
  ·subst hi; intro hne; exact absurd h0 hne
  ·exact (h.same e).2 p (by omega)⟩, h.less⟩
structure KInv (fns : List Fn) (f : Fn) (A0 A : Nat → Sh) (i k : Nat) (s : Sh) (again : Bool) : Prop where
 base : RInv fns f A0 A i again
 src : Src fns f i s
 now : again = false → s = behind fns f i (A i)
 did : again = false → ∀ j, j < k → ∀ g, (goes (f.ins.getD i in0) i)[j]? = some g → g < f.ins.length → le s (A g)
theorem RInv.go {fns : List Fn} {f : Fn} {A0 A : Nat → Sh} {i : Nat} {again : Bool} (h : RInv fns f A0 A i again) (hf : FnR fns f) (hF : ∀ g ∈ fns, FnR fns g) (hi : i < f.ins.length) (h0 : (A i).st ≠ 0) : KInv fns f A0 A i 0 (behind fns f i (A i)) again :=
 ⟨h, h.low.src hf hF hi h0, fun _ => rfl, fun _ _j hj => absurd hj (Nat.not_lt_zero _)⟩
theorem KInv.out {fns : List Fn} {f : Fn} {A0 A : Nat → Sh} {i k : Nat} {s : Sh} {again : Bool} (h : KInv fns f A0 A i k s again) {g : Nat} (hg : (goes (f.ins.getD i in0) i)[k]? = some g) (hgn : ¬ g < f.ins.length) : KInv fns f A0 A i (k + 1) s again :=
 ⟨h.base, h.src, h.now, fun e j hj g' hg' hn => by
  by_cases hk : j = k
  ·subst hk; rw [hg] at hg'; cases hg'; exact absurd hn hgn
  ·exact h.did e j (by omega) g' hg' hn⟩
theorem KInv.same {fns : List Fn} {f : Fn} {A0 A : Nat → Sh} {i k : Nat} {s : Sh} {again : Bool} (h : KInv fns f A0 A i k s again) {g : Nat} (hg : (goes (f.ins.getD i in0) i)[k]? = some g) (hgn : g < f.ins.length) (hj : join (A g) s = A g) : KInv fns f A0 A i (k + 1) s again :=
 ⟨h.base, h.src, h.now, fun e j hj' g' hg' hn => by
  by_cases hk : j = k
  ·subst hk; rw [hg] at hg'; cases hg'; exact come_le (h.base.low.ok g hgn) h.src.ok h.src.st hj
  ·exact h.did e j (by omega) g' hg' hn⟩
theorem KInv.up {fns : List Fn} {f : Fn} {A0 A : Nat → Sh} {i k : Nat} {s : Sh} {again : Bool} (h : KInv fns f A0 A i k s again) {g : Nat} (hg : (goes (f.ins.getD i in0) i)[k]? = some g) (hgn : g < f.ins.length) (hj : ¬ join (A g) s = A g) : KInv fns f A0 (upd A g (join (A g) s)) i (k + 1) s true := by
 have hmem : g ∈ goes (f.ins.getD i in0) i := List.mem_of_getElem? hg
 have hlow := h.base.low.comes h.src hmem hgn
 have hlt := tot_join (f := f) h.base.low.ok hgn h.src.ok h.src.st hj
 refine ⟨⟨hlow, ?_, (fun e => by cases e), fun _ => ?_⟩, h.src, (fun e => by cases e), (fun e => by cases e)⟩
 ·by_cases hn : 0 < f.ins.length
  ·exact le_trans h.base.fst (up_upd h.base.low h.src hgn 0 hn)
  ·omega
 ·cases again with
  | true => have := h.base.less rfl; omega
  | false =>
   have := (h.base.same rfl).1
   rw [← tot_same f.ins.length this]
   exact hlt
theorem KInv.fin {fns : List Fn} {f : Fn} {A0 A : Nat → Sh} {i k : Nat} {s : Sh} {again : Bool} (h : KInv fns f A0 A i k s again) (hk : (goes (f.ins.getD i in0) i).length ≤ k) : RInv fns f A0 A (i + 1) again := by
 refine ⟨h.base.low, h.base.fst, fun e => ⟨(h.base.same e).1, fun p hp => ?_⟩, h.base.less⟩
 by_cases hi : p = i
 ·subst hi
  intro _ g hg hgn
  obtain ⟨j, hj, e2⟩ := List.getElem_of_mem hg
  rw [← h.now e]
  exact h.did e j (by omega) g (by rw [List.getElem?_eq_getElem hj, e2]) hgn
 ·exact (h.base.same e).2 p (by omega)
theorem RInv.closed {fns : List Fn} {f : Fn} {A0 A : Nat → Sh} (h : RInv fns f A0 A f.ins.length false) : Closed fns f A := ⟨h.low.ok, h.fst, (h.same rfl).2⟩
structure WInv (fns : List Fn) (f : Fn) (A : Nat → Sh) (wk : List Nat) : Prop where
 low : Low fns f A
 fst : le (first f) (A 0)
 wait : ∀ p, p < f.ins.length → p ∈ wk ∨ ClosedAt fns f A p
 good : ∀ p ∈ wk, p < f.ins.length ∧ (A p).st ≠ 0
 desc : wk.Pairwise (· > ·)
structure GInv (fns : List Fn) (f : Fn) (A : Nat → Sh) (wk : List Nat) (p k : Nat) (s : Sh) : Prop where
 low : Low fns f A
 fst : le (first f) (A 0)
 wait : ∀ q, q < f.ins.length → ¬ q = p → q ∈ wk ∨ ClosedAt fns f A q
 self : p ∈ wk ∨ s = behind fns f p (A p)
 good : ∀ q ∈ wk, q < f.ins.length ∧ (A q).st ≠ 0
 desc : wk.Pairwise (· > ·)
 src : Src fns f p s
 did : ∀ j, j < k → ∀ g, (goes (f.ins.getD p in0) p)[j]? = some g → g < f.ins.length → le s (A g)
theorem WInv.pop {fns : List Fn} {f : Fn} {A : Nat → Sh} {wk : List Nat} {p : Nat} (h : WInv fns f A (wk ++ [p])) (hf : FnR fns f) (hF : ∀ g ∈ fns, FnR fns g) : GInv fns f A wk p 0 (behind fns f p (A p)) ∧ p < f.ins.length ∧ (A p).st ≠ 0 := by
 obtain ⟨hp, hp0⟩ := h.good p (by simp)
 refine ⟨⟨h.low, h.fst, fun q hq hne => ?_, .inr rfl, fun q hq => h.good q (by simp [hq]), (List.pairwise_append.1 h.desc).1, h.low.src hf hF hp hp0, fun j hj => absurd hj (Nat.not_lt_zero _)⟩, hp, hp0⟩
 rcases h.wait q hq with x | x
 ·rcases List.mem_append.1 x with x | x
  ·exact .inl x
  ·simp at x; exact absurd x hne
 ·exact .inr x
theorem GInv.out {fns : List Fn} {f : Fn} {A : Nat → Sh} {wk : List Nat} {p k : Nat} {s : Sh} (h : GInv fns f A wk p k s) {g : Nat} (hg : (goes (f.ins.getD p in0) p)[k]? = some g) (hgn : ¬ g < f.ins.length) : GInv fns f A wk p (k + 1) s :=
 ⟨h.low, h.fst, h.wait, h.self, h.good, h.desc, h.src, fun j hj g' hg' hn => by
  by_cases hk : j = k
  ·subst hk; rw [hg] at hg'; cases hg'; exact absurd hn hgn
  ·exact h.did j (by omega) g' hg' hn⟩
theorem GInv.same {fns : List Fn} {f : Fn} {A : Nat → Sh} {wk : List Nat} {p k : Nat} {s : Sh} (h : GInv fns f A wk p k s) {g : Nat} (hg : (goes (f.ins.getD p in0) p)[k]? = some g) (hgn : g < f.ins.length) (hj : join (A g) s = A g) : GInv fns f A wk p (k + 1) s :=
 ⟨h.low, h.fst, h.wait, h.self, h.good, h.desc, h.src, fun j hj' g' hg' hn => by
  by_cases hk : j = k
  ·subst hk; rw [hg] at hg'; cases hg'; exact come_le (h.low.ok g hgn) h.src.ok h.src.st hj
  ·exact h.did j (by omega) g' hg' hn⟩
def ins1 (wk : List Nat) (g : Nat) : List Nat := wk.filter (fun q => decide (g < q)) ++ g :: wk.filter (fun q => decide (q < g))
theorem mem_ins1 {wk : List Nat} {g q : Nat} : q ∈ ins1 wk g ↔ q = g ∨ q ∈ wk := by
 unfold ins1
 simp only [List.mem_append, List.mem_filter, List.mem_cons, decide_eq_true_eq]
 constructor
 ·rintro (⟨h, _⟩ | h | ⟨h, _⟩)
  ·exact .inr h
  ·exact .inl h
  ·exact .inr h
 ·rintro (h | h)
  ·exact .inr (.inl h)
  ·rcases Nat.lt_trichotomy q g with x | x | x
   ·exact .inr (.inr ⟨h, x⟩)
   ·exact .inr (.inl x)
   ·exact .inl ⟨h, x⟩
theorem desc_ins1 {wk : List Nat} {g : Nat} (h : wk.Pairwise (· > ·)) : (ins1 wk g).Pairwise (· > ·) := by
 unfold ins1
 refine List.pairwise_append.2 ⟨h.filter _, List.pairwise_cons.2 ⟨fun q hq => ?_, h.filter _⟩, fun a ha b hb => ?_⟩
 ·have := (List.mem_filter.1 hq).2
  simpa using this
 ·have h1 := (List.mem_filter.1 ha).2
  simp at h1
  rcases List.mem_cons.1 hb with rfl | hb
  ·exact h1
  ·have h2 := (List.mem_filter.1 hb).2
   simp at h2
   omega
theorem GInv.up {fns : List Fn} {f : Fn} {A : Nat → Sh} {wk : List Nat} {p k : Nat} {s : Sh} (h : GInv fns f A wk p k s) {g : Nat} (hg : (goes (f.ins.getD p in0) p)[k]? = some g) (hgn : g < f.ins.length) (hj : ¬ join (A g) s = A g) : GInv fns f (upd A g (join (A g) s)) (ins1 wk g) p (k + 1) s ∧ tot f.S (upd A g (join (A g) s)) f.ins.length < tot f.S A f.ins.length := by
 have hmem : g ∈ goes (f.ins.getD p in0) p := List.mem_of_getElem? hg
 have hlow := h.low.comes h.src hmem hgn
 have hup := up_upd h.low h.src hgn
 have hj0 : (join (A g) s).st ≠ 0 := fun e => by
  have := le_join_right (h.low.ok g hgn) h.src.ok h.src.st
  rcases this with x | x | ⟨_, x, _⟩
  ·exact h.src.st x
  ·omega
  ·omega
 refine ⟨⟨hlow, ?_, fun q hq hne => ?_, ?_, fun q hq => ?_, desc_ins1 h.desc, h.src, fun j hj' g' hg' hn => ?_⟩, tot_join (f := f) h.low.ok hgn h.src.ok h.src.st hj⟩
 ·exact le_trans h.fst (hup 0 (by omega))
 ·by_cases e : q = g
  ·exact .inl (mem_ins1.2 (.inl e))
  ·rcases h.wait q hq hne with x | x
   ·exact .inl (mem_ins1.2 (.inr x))
   ·refine .inr fun h0 g' hg' hn => ?_
    rw [upd_ne _ _ e] at h0 ⊢
    exact le_trans (x h0 g' hg' hn) (hup g' hn)
 ·by_cases e : p = g
  ·exact .inl (mem_ins1.2 (.inl e))
  ·rcases h.self with x | x
   ·exact .inl (mem_ins1.2 (.inr x))
   ·right; rw [upd_ne _ _ e]; exact x
 ·rcases mem_ins1.1 hq with rfl | hq
  ·exact ⟨hgn, by rw [upd_at]; exact hj0⟩
  ·by_cases e : q = g
   ·subst e; exact ⟨hgn, by rw [upd_at]; exact hj0⟩
   ·rw [upd_ne _ _ e]; exact h.good q hq
 ·by_cases hk : j = k
  ·subst hk; rw [hg] at hg'; cases hg'
   rw [upd_at]
   exact le_join_right (h.low.ok g hgn) h.src.ok h.src.st
  ·exact le_trans (h.did j (by omega) g' hg' hn) (hup g' hn)
theorem GInv.fin {fns : List Fn} {f : Fn} {A : Nat → Sh} {wk : List Nat} {p k : Nat} {s : Sh} (h : GInv fns f A wk p k s) (hk : (goes (f.ins.getD p in0) p).length ≤ k) : WInv fns f A wk := by
 refine ⟨h.low, h.fst, fun q hq => ?_, h.good, h.desc⟩
 by_cases e : q = p
 ·subst e
  rcases h.self with x | x
  ·exact .inl x
  ·refine .inr fun _ g hg hgn => ?_
   obtain ⟨j, hj, e2⟩ := List.getElem_of_mem hg
   rw [← x]
   exact h.did j (by omega) g (by rw [List.getElem?_eq_getElem hj, e2]) hgn
 ·exact h.wait q hq e
theorem WInv.closed {fns : List Fn} {f : Fn} {A : Nat → Sh} (h : WInv fns f A []) : Closed fns f A := ⟨h.low.ok, h.fst, fun p hp => (h.wait p hp).resolve_left (by simp)⟩
theorem WInv.start {fns : List Fn} {f : Fn} (hf : FnR fns f) : WInv fns f (upd (fun _ => bot) 0 (first f)) [0] := by
 refine ⟨le_first_low hf, by rw [upd_at]; exact le_refl (first_ok hf), fun p hp => ?_, fun p hp => ?_, by simp⟩
 ·by_cases e : p = 0
  ·left; simp [e]
  ·right; intro h0; rw [upd_ne _ _ e] at h0; exact absurd rfl h0
 ·simp at hp
  subst hp
  exact ⟨by have := hf.some_; omega, by rw [upd_at]; simp [first]⟩
end Go.Proofs.YtcjgcipacfcjnaaGreatDoor.C
namespace Go.Proofs.YtcjgcipacfcjnaaGreatDoor.Q
open Go.RowKit Go.Shelf
set_option maxRecDepth 20000
def laysIF_ren : Go.Shelf.Ren := ⟨fun | 15 => 139 | 20 => 155 | n => n, fun | 0 => 0 | 3 => 3 | 4 => 4 | 9 => 9 | 21 => 21 | 23 => 204 | n => n, fun  | n => n⟩
theorem laysIF : Go.Proofs.LaysGw.n15 Tryz.prog laysIF_ren where
 mixed := by kernel_rfl
 f15 := Tryz.func139.trans (congrArg some (by kernel_rfl))
 f20 := Tryz.func155.trans (congrArg some (by kernel_rfl))
 t0 := Tryz.underlying0
 a0 := Tryz.isAgg0
 z0 := Tryz.sizeOf0
 v0 := Tryz.zeroValue0
 i0 := by kernel_rfl
 t3 := Tryz.underlying3
 a3 := Tryz.isAgg3
 z3 := Tryz.sizeOf3
 v3 := Tryz.zeroValue3
 i3 := by kernel_rfl
 t4 := Tryz.underlying4
 a4 := Tryz.isAgg4
 z4 := Tryz.sizeOf4
 v4 := Tryz.zeroValue4
 i4 := by kernel_rfl
 t9 := Tryz.underlying9
 a9 := Tryz.isAgg9
 z9 := Tryz.sizeOf9
 v9 := Tryz.zeroValue9
 i9 := by kernel_rfl
 t21 := Tryz.underlying21
 a21 := Tryz.isAgg21
 z21 := Tryz.sizeOf21
 v21 := Tryz.zeroValue21
 i21 := by kernel_rfl
 t23 := Tryz.underlying204
 a23 := Tryz.isAgg204
 z23 := Tryz.sizeOf204
 v23 := Tryz.zeroValue204
 i23 := by kernel_rfl
set_option maxHeartbeats 400000 in
theorem millIsLetter_any (c : Int) (w : World) :
  Calls Tryz.prog 116 #[.int .i32 c] w fun e w' => e = .returned (.bool (mlt c)) ∧ w' = w := by
 go_enter Tryz.func116, Tryz.ntmps116
 go_wp2
 all_goals go_ret
 all_goals exact ⟨ret_bool (by unfold mlt; rw [Bool.eq_iff_iff]; simp; try omega), rfl⟩
set_option maxHeartbeats 400000 in
theorem millIsDigit_any (c : Int) (w : World) :
  Calls Tryz.prog 156 #[.int .i32 c] w fun e w' => e = .returned (.bool (dig c)) ∧ w' = w := by
 go_enter Tryz.func156, Tryz.ntmps156
 go_wp2
 all_goals go_ret
 all_goals exact ⟨ret_bool (by unfold dig; rw [Bool.eq_iff_iff]; simp; try omega), rfl⟩
set_option maxHeartbeats 400000 in
theorem millEndsName_any (c : Int) (w : World) :
  Calls Tryz.prog 140 #[.int .i32 c] w fun e w' => e = .returned (.bool (!let_ c)) ∧ w' = w := by
 rw [let_mlt]
 cases hb : mlt c <;> cases hd : dig c
 all_goals go_enter Tryz.func140, Tryz.ntmps140
 all_goals go_wp2_with (first
  | (go_at_call 116; refine (millIsLetter_any _ _).mono ?_; rintro e w' ⟨rfl, rfl⟩)
  | (go_at_call 156; refine (millIsDigit_any _ _).mono ?_; rintro e w' ⟨rfl, rfl⟩))
 all_goals go_ret
 all_goals exact ⟨ret_bool (by simp [bne]), rfl⟩
theorem decodeN_low (n b0 b1 b2 b3 : Nat) (h : b0 < 128) : Lib.decodeN n b0 b1 b2 b3 = (b0, 1) := by simp [Lib.decodeN, h]
theorem decodeN_high (n b0 b1 b2 b3 : Nat) (h : 128 ≤ b0) : 128 ≤ (Lib.decodeN n b0 b1 b2 b3).1 := by
 unfold Lib.decodeN
 repeat' split
 all_goals (simp only; omega)
theorem let_high (c : Nat) (h : 123 ≤ c) : let_ (c : Int) = false := by
 unfold let_ beg dig; rw [Bool.eq_false_iff]; simp; omega
theorem idx_from (s : ByteArray) : ∀ (f pos : Nat), pos ≤ run letB s.data.toList → s.size ≤ pos + f →
  Lib.idxFuncFrom (fun x => !let_ (x : Int)) true s f pos = if run letB s.data.toList < s.size then (run letB s.data.toList : Int) else -1
 | 0, pos, hp, hf => by
  have h1 := run_le letB s.data.toList
  rw [len_size] at h1
  rw [if_neg (by omega)]; rfl
 | f + 1, pos, hp, hf => by
  have h1 := run_le letB s.data.toList
  rw [len_size] at h1
  unfold Lib.idxFuncFrom
  by_cases hlt : pos < s.size
  ·rw [if_pos hlt]
   have hl : pos < s.data.toList.length := by rw [len_size]; exact hlt
   have hg : s.get! pos = s[pos] := by
    show s.data[pos]! = s.data[pos]
    exact getElem!_pos s.data pos hlt
   have hd : (Utf8.decode s pos) = Lib.decodeN (s.size - pos) (s[pos]).toNat (s.get! (pos + 1)).toNat (s.get! (pos + 2)).toNat (s.get! (pos + 3)).toNat := by
    rw [Lib.decode_at, hg]
   cases hb : letB s[pos]
   ·have hr := run_stop letB _ pos hp hl (by rw [get_eq s pos hlt]; exact hb)
    have hx : (!let_ (((Utf8.decode s pos).1 : Nat) : Int)) = true := by
     by_cases ha : s[pos].toNat < 128
     ·rw [hd, decodeN_low _ _ _ _ _ ha]
      have hb2 : let_ (s[pos].toNat : Int) = false := hb
      simp [hb2]
     ·rw [hd]
      have := decodeN_high (s.size - pos) (s[pos]).toNat (s.get! (pos + 1)).toNat (s.get! (pos + 2)).toNat (s.get! (pos + 3)).toNat (by omega)
      rw [let_high _ (by omega)]; rfl
    rw [if_pos hx, hr, if_pos hlt]
   ·have hr := run_step letB _ pos hp hl (by rw [get_eq s pos hlt]; exact hb)
    have hb2 : let_ (s[pos].toNat : Int) = true := hb
    have ha : s[pos].toNat < 128 := by
     apply Nat.lt_of_not_le; intro h
     rw [let_high _ (by omega)] at hb2; cases hb2
    have hx : ¬ (!let_ (((Utf8.decode s pos).1 : Nat) : Int)) = true := by
     rw [hd, decodeN_low _ _ _ _ _ ha]; simp [hb2]
    rw [if_neg hx]
    have e2 : (Utf8.decode s pos).2 = 1 := by rw [hd, decodeN_low _ _ _ _ _ ha]
    rw [e2]
    exact idx_from s f (pos + 1) hr (by omega)
  ·rw [if_neg hlt, if_neg (by omega)]
theorem indexFunc_any (s : ByteArray) (w : World) :
  Calls Tryz.prog 139 #[.string s, .func (.func 140) #[] #[]] w fun e w' => e = .returned (.int .i64 (if run letB s.data.toList < s.size then (run letB s.data.toList : Int) else -1)) ∧ Below w.heap.size w w' := by
 refine (Any.strings_IndexFunc_grows laysIF 140 #[] (enters_of Tryz.func140 (by kernel_rfl) rfl) (fun x => !let_ (x : Int)) s w ?_).mono ?_
 ·intro W x _ _
  exact (millEndsName_any (x : Int) W).mono fun e w' ⟨h1, h2⟩ => ⟨h1, h2 ▸ Below.refl _ _⟩
 ·rintro e w' ⟨rfl, hb⟩
  refine ⟨ret_int ?_, hb⟩
  exact idx_from s s.size 0 (Nat.zero_le _) (by omega)
set_option maxHeartbeats 400000 in
theorem millNameSize_any (s : ByteArray) (w : World) (_hs : s.size ≤ 12000) :
  Calls Tryz.prog 115 #[.string s] w fun e w' => e = .returned (.int .i64 (run letB s.data.toList)) ∧ Below w.heap.size w w' := by
 have h1 := run_le letB s.data.toList
 rw [len_size] at h1
 by_cases hlt : run letB s.data.toList < s.size
 ·have HI : Hid ((if run letB s.data.toList < s.size then (run letB s.data.toList : Int) else -1) = (run letB s.data.toList : Int)) := if_pos hlt
  have HF : Hid (∀ W : World, Calls Tryz.prog 139 #[.string s, .func (.func 140) #[] #[]] W fun e w' => e = .returned (.int .i64 (run letB s.data.toList)) ∧ Below W.heap.size W w') := fun W => (indexFunc_any s W).mono fun e w' ⟨a, b⟩ => ⟨by rw [a, HI.out], b⟩
  generalize run letB s.data.toList = k at *
  clear hlt HI
  go_enter Tryz.func115, Tryz.ntmps115
  go_wp2_with (go_at_call 139; refine (HF.out _).mono ?_; rintro e w1 ⟨rfl, hb⟩; have HB := hid hb; clear hb)
  go_ret
  exact ⟨rfl, HB.out⟩
 ·have HI : Hid ((if run letB s.data.toList < s.size then (run letB s.data.toList : Int) else -1) = (-1 : Int)) := if_neg hlt
  have HF : Hid (∀ W : World, Calls Tryz.prog 139 #[.string s, .func (.func 140) #[] #[]] W fun e w' => e = .returned (.int .i64 (-1)) ∧ Below W.heap.size W w') := fun W => (indexFunc_any s W).mono fun e w' ⟨a, b⟩ => ⟨by rw [a, HI.out], b⟩
  have HE : Hid (run letB s.data.toList = s.size) := by show _ = _; omega
  clear hlt HI h1
  go_enter Tryz.func115, Tryz.ntmps115
  go_wp2_with (go_at_call 139; refine (HF.out _).mono ?_; rintro e w1 ⟨rfl, hb⟩; have HB := hid hb; clear hb)
  go_ret
  exact ⟨ret_int (by rw [HE.out]), HB.out⟩
def mwS (i : Nat) : ByteArray := ⟨(mws.getD i []).toArray⟩
def mwE (n : Nat) : Array MapEntry := ((List.range n).map fun i => ({ key := .string (mwS i), val := .int .i64 (mtype (mws.getD i [])), born := i } : MapEntry)).toArray
theorem mwE_succ (n : Nat) : mwE (n + 1) = (mwE n).push { key := .string (mwS n), val := .int .i64 (mtype (mws.getD n [])), born := n } := by
 simp [mwE, List.range_succ]
theorem mwE_mem (n : Nat) (e : MapEntry) : e ∈ (mwE n).toList ↔ ∃ i, i < n ∧ e = { key := .string (mwS i), val := .int .i64 (mtype (mws.getD i [])), born := i } := by
 simp only [mwE, List.mem_map, List.mem_range]
 constructor
 ·rintro ⟨i, hi, rfl⟩; exact ⟨i, hi, rfl⟩
 ·rintro ⟨i, hi, rfl⟩; exact ⟨i, hi, rfl⟩
theorem mw_apart : ∀ i, i < 35 → ∀ j, j < i → mws.getD i [] ≠ mws.getD j [] := by decide
theorem mwS_apart (i : Nat) (hi : i < 35) (j : Nat) (hj : j < i) : (mwS i == mwS j) = false := by
 rw [beq_toListBytes, beq_eq_false_iff_ne]
 intro e
 exact mw_apart i hi j hj (by rw [Lib.toList_data, Lib.toList_data] at e; simpa [mwS] using e)
theorem mw_ins (w : World) (i : Nat) (hi : i < 35) (s : ByteArray) (hs : s = mwS i) (v : Int) (hv : v = (mtype (mws.getD i []) : Int)) :
  (Instr.mapUpdate 175 (.map (some w.heap.size)) (.string s) (.int .i64 v)).run Tryz.prog (w.alloc (.map (mwE i) i)) = .ok () (w.alloc (.map (mwE (i + 1)) (i + 1))) := by
 subst hs; subst hv
 have hf : Instr.findNow .string (.string (mwS i)) (mwE i).toList 0 = some none := by
  refine find_none _ _ _ fun e he => ?_
  obtain ⟨j, hj, rfl⟩ := (mwE_mem i e).1 he
  exact ⟨_, rfl, mwS_apart i hi j hj⟩
 have hb : (w.alloc (.map (mwE i) i)).heap[w.heap.size]? = some (.map (mwE i) i) := heap_alloc_new w _
 have hc : ∀ W, (Instr.checkKey false 10000 9 (.string (mwS i))).run Tryz.prog W = .ok () W := fun W => MapKept.run_checkKey (k := .string (mwS i)) Tryz.underlying9 (by simp [MapKept.IsKey]) false 9999
 simp only [Instr.mapUpdate, Sem.run_bind, run_underlying Tryz.underlying175, MapKept.run_getObj_map hb, hc, MapKept.run_findKey Tryz.underlying9 hf, MapKept.run_setObj_map _ hb, Result.andThen]
 rw [mwE_succ]
 have e : ((w.alloc (.map (mwE i) i)).heap.setIfInBounds w.heap.size (.map ((mwE i).push { key := .string (mwS i), val := .int .i64 (mtype (mws.getD i [])), born := i }) (i + 1))) = (w.alloc (.map ((mwE i).push { key := .string (mwS i), val := .int .i64 (mtype (mws.getD i [])), born := i }) (i + 1))).heap := by
  exact set_last w.heap _ _
 rw [e]; rfl
set_option maxRecDepth 20000 in
set_option maxHeartbeats 4000000 in
theorem millWords_any (w : World) :
  Calls Tryz.prog 93 #[] w fun e w' => e = .returned (.map (some w.heap.size)) ∧ w' = w.alloc (.map (mwE 35) 35) := by
 have f : (Instr.makeMap 175 none).run Tryz.prog w = .ok (.map (some w.heap.size)) (w.alloc (.map (mwE 0) 0)) := rfl
 have f0 := mw_ins w 0 (by decide) ⟨#[98, 111, 111, 108]⟩ rfl 1 (by decide)
 have f1 := mw_ins w 1 (by decide) ⟨#[116, 101, 120, 116]⟩ rfl 2 (by decide)
 have f2 := mw_ins w 2 (by decide) ⟨#[117, 56]⟩ rfl 3 (by decide)
 have f3 := mw_ins w 3 (by decide) ⟨#[117, 49, 54]⟩ rfl 4 (by decide)
 have f4 := mw_ins w 4 (by decide) ⟨#[117, 51, 50]⟩ rfl 5 (by decide)
 have f5 := mw_ins w 5 (by decide) ⟨#[117, 54, 52]⟩ rfl 6 (by decide)
 have f6 := mw_ins w 6 (by decide) ⟨#[105, 56]⟩ rfl 7 (by decide)
 have f7 := mw_ins w 7 (by decide) ⟨#[105, 49, 54]⟩ rfl 8 (by decide)
 have f8 := mw_ins w 8 (by decide) ⟨#[105, 51, 50]⟩ rfl 9 (by decide)
 have f9 := mw_ins w 9 (by decide) ⟨#[105, 54, 52]⟩ rfl 10 (by decide)
 have f10 := mw_ins w 10 (by decide) ⟨#[102, 110]⟩ rfl 0 (by decide)
 have f11 := mw_ins w 11 (by decide) ⟨#[108, 101, 116]⟩ rfl 0 (by decide)
 have f12 := mw_ins w 12 (by decide) ⟨#[105, 102]⟩ rfl 0 (by decide)
 have f13 := mw_ins w 13 (by decide) ⟨#[101, 108, 115, 101]⟩ rfl 0 (by decide)
 have f14 := mw_ins w 14 (by decide) ⟨#[119, 104, 105, 108, 101]⟩ rfl 0 (by decide)
 have f15 := mw_ins w 15 (by decide) ⟨#[98, 114, 101, 97, 107]⟩ rfl 0 (by decide)
 have f16 := mw_ins w 16 (by decide) ⟨#[99, 111, 110, 116, 105, 110, 117, 101]⟩ rfl 0 (by decide)
 have f17 := mw_ins w 17 (by decide) ⟨#[114, 101, 116, 117, 114, 110]⟩ rfl 0 (by decide)
 have f18 := mw_ins w 18 (by decide) ⟨#[102, 97, 105, 108]⟩ rfl 0 (by decide)
 have f19 := mw_ins w 19 (by decide) ⟨#[119, 114, 105, 116, 101]⟩ rfl 0 (by decide)
 have f20 := mw_ins w 20 (by decide) ⟨#[115, 97, 121]⟩ rfl 0 (by decide)
 have f21 := mw_ins w 21 (by decide) ⟨#[116, 114, 117, 101]⟩ rfl 0 (by decide)
 have f22 := mw_ins w 22 (by decide) ⟨#[102, 97, 108, 115, 101]⟩ rfl 0 (by decide)
 have f23 := mw_ins w 23 (by decide) ⟨#[114, 101, 97, 100]⟩ rfl 0 (by decide)
 have f24 := mw_ins w 24 (by decide) ⟨#[104, 97, 115]⟩ rfl 0 (by decide)
 have f25 := mw_ins w 25 (by decide) ⟨#[108, 105, 115, 116]⟩ rfl 0 (by decide)
 have f26 := mw_ins w 26 (by decide) ⟨#[116, 111, 111, 108]⟩ rfl 0 (by decide)
 have f27 := mw_ins w 27 (by decide) ⟨#[97, 114, 103]⟩ rfl 0 (by decide)
 have f28 := mw_ins w 28 (by decide) ⟨#[108, 101, 110]⟩ rfl 0 (by decide)
 have f29 := mw_ins w 29 (by decide) ⟨#[97, 116]⟩ rfl 0 (by decide)
 have f30 := mw_ins w 30 (by decide) ⟨#[99, 117, 116]⟩ rfl 0 (by decide)
 have f31 := mw_ins w 31 (by decide) ⟨#[102, 105, 110, 100]⟩ rfl 0 (by decide)
 have f32 := mw_ins w 32 (by decide) ⟨#[99, 104, 114]⟩ rfl 0 (by decide)
 have f33 := mw_ins w 33 (by decide) ⟨#[100, 101, 99]⟩ rfl 0 (by decide)
 have f34 := mw_ins w 34 (by decide) ⟨#[110, 117, 109]⟩ rfl 0 (by decide)
 go_enter Tryz.func93, Tryz.ntmps93
 go_wp2
 go_ret
 exact ⟨rfl, rfl⟩
theorem mwS_mem (t : List UInt8) : (∃ i, i < 35 ∧ mwS i = ⟨t.toArray⟩) ↔ t ∈ mws := by
 rw [mem_get]
 constructor
 ·rintro ⟨i, h, e⟩
  refine ⟨i, h, ?_⟩
  have := congrArg (fun b : ByteArray => b.data.toList) e
  simpa [mwS] using this
 ·rintro ⟨i, hl, e⟩
  exact ⟨i, hl, by unfold mwS; rw [e]⟩
theorem mfind_some (s : ByteArray) (x : Value) (es : List MapEntry) (i : Nat) (hs : ∀ e ∈ es, (∃ t, e.key = .string t) ∧ (e.key = .string s → e.val = x)) (h : ∃ e ∈ es, e.key = .string s) : ∃ j, Instr.findNow .string (.string s) es i = some (some (j, x)) := by
 induction es generalizing i with
 | nil => obtain ⟨e, he, _⟩ := h; simp at he
 | cons e es ih =>
  obtain ⟨⟨t, ht⟩, hv⟩ := hs e (List.mem_cons_self ..)
  unfold Instr.findNow
  rw [ht]
  simp only [Instr.sameNow]
  cases hq : (s == t) with
  | true =>
   have e2 : s = t := by rw [beq_toListBytes] at hq; exact bytes_eq hq
   exact ⟨i, by simp [hv (by rw [ht, e2])]⟩
  | false =>
   refine ih (i + 1) (fun x hx => hs x (List.mem_cons_of_mem _ hx)) ?_
   obtain ⟨x, hx, hk⟩ := h
   rcases List.mem_cons.1 hx with e2 | e2
   ·subst e2
    rw [ht] at hk
    cases hk
    rw [beq_toListBytes] at hq
    simp at hq
   ·exact ⟨x, e2, hk⟩
theorem mkey_val (s : ByteArray) (e : MapEntry) (he : e ∈ (mwE 35).toList) : (∃ t, e.key = .string t) ∧ (e.key = .string s → e.val = .int .i64 (mtype s.data.toList)) := by
 obtain ⟨i, _, rfl⟩ := (mwE_mem 35 e).1 he
 refine ⟨⟨_, rfl⟩, fun h => ?_⟩
 simp only [Value.string.injEq] at h
 subst h; simp [mwS]
theorem mlookup2 (W : World) (r : Nat) (hb : W.heap[r]? = some (.map (mwE 35) 35)) (s : ByteArray) :
  (Instr.lookup 175 (.map (some r)) (.string s) true).run Tryz.prog W = .ok (.tuple #[.int .i64 (mtype s.data.toList), .bool (decide (s.data.toList ∈ mws))]) W := by
 have hc : ∀ b W, (Instr.checkKey b 10000 9 (.string s)).run Tryz.prog W = .ok () W := fun b W => MapKept.run_checkKey (k := .string s) Tryz.underlying9 (by simp [MapKept.IsKey]) b 9999
 by_cases hm : s.data.toList ∈ mws
 ·obtain ⟨j, hf⟩ := mfind_some s _ (mwE 35).toList 0 (mkey_val s) (by
    obtain ⟨i, hi, e⟩ := (mwS_mem s.data.toList).2 hm
    exact ⟨_, (mwE_mem 35 _).2 ⟨i, hi, rfl⟩, by simp [e]⟩)
  simp only [Instr.lookup, Sem.run_bind, run_underlying Tryz.underlying175, MapKept.run_getObj_map hb, hc, MapKept.run_findKey Tryz.underlying9 hf, Result.andThen, Sem.run_pure]
  simp [hm]
 ·have hf : Instr.findNow .string (.string s) (mwE 35).toList 0 = some none := by
   refine find_none _ _ _ fun e he => ?_
   obtain ⟨j, hj, rfl⟩ := (mwE_mem 35 e).1 he
   refine ⟨_, rfl, ?_⟩
   rw [beq_toListBytes, beq_eq_false_iff_ne]
   intro e2
   exact hm ((mwS_mem s.data.toList).1 ⟨j, hj, by rw [Lib.toList_data, Lib.toList_data] at e2; rw [e2]⟩)
  have h0 : mtype s.data.toList = 0 := by
   unfold mtype; rw [if_neg]; intro h; exact hm ((mem_mws _).2 (.inl h))
  simp only [Instr.lookup, Sem.run_bind, run_underlying Tryz.underlying175, MapKept.run_getObj_map hb, hc, MapKept.run_findKey Tryz.underlying9 hf, Result.andThen, Sem.run_pure, Tryz.zeroValue3]
  simp [hm, h0]
end Go.Proofs.YtcjgcipacfcjnaaGreatDoor.Q
namespace Go.Proofs.YtcjgcipacfcjnaaGreatDoor.Q
open Go.RowKit Go.Shelf
set_option maxRecDepth 20000
set_option maxHeartbeats 400000 in
theorem l10Letter_any (c : Int) (w : World) :
  Calls Tryz.prog 134 #[.int .u8 c] w fun e w' => e = .returned (.bool (mlt c)) ∧ w' = w := by
 go_enter Tryz.func134, Tryz.ntmps134
 go_wp2
 all_goals go_ret
 all_goals exact ⟨ret_bool (by unfold mlt; rw [Bool.eq_iff_iff]; simp; try omega), rfl⟩
set_option maxHeartbeats 400000 in
theorem l10Digit_any (c : Int) (w : World) :
  Calls Tryz.prog 152 #[.int .u8 c] w fun e w' => e = .returned (.bool (dig c)) ∧ w' = w := by
 go_enter Tryz.func152, Tryz.ntmps152
 go_wp2
 all_goals go_ret
 all_goals exact ⟨ret_bool (by unfold dig; rw [Bool.eq_iff_iff]; simp; try omega), rfl⟩
set_option maxHeartbeats 400000 in
theorem l10Tail_any (c : Int) (w : World) :
  Calls Tryz.prog 136 #[.int .u8 c] w fun e w' => e = .returned (.bool (let_ c)) ∧ w' = w := by
 rw [let_mlt]
 cases hb : mlt c <;> cases hd : dig c
 all_goals go_enter Tryz.func136, Tryz.ntmps136
 all_goals go_wp2_with (first
  | (go_at_call 134; refine (l10Letter_any _ _).mono ?_; rintro e w' ⟨rfl, rfl⟩)
  | (go_at_call 152; refine (l10Digit_any _ _).mono ?_; rintro e w' ⟨rfl, rfl⟩))
 all_goals go_ret
 all_goals exact ⟨ret_bool (by simp), rfl⟩
def twS (i : Nat) : ByteArray := ⟨(tw i).toArray⟩
def bwS (i : Nat) : ByteArray := ⟨(bws.getD i []).toArray⟩
def pwS (i : Nat) : ByteArray := ⟨(pws.getD i []).toArray⟩
set_option maxHeartbeats 400000 in
theorem l10TypeWord_any (t : Nat) (h1 : 1 ≤ t) (h2 : t ≤ 10) (w : World) :
  Calls Tryz.prog 164 #[.int .i64 t] w fun e w' => e = .returned (.string (twS (t - 1))) ∧ w' = w := by
 obtain rfl | rfl | rfl | rfl | rfl | rfl | rfl | rfl | rfl | rfl : t = 1 ∨ t = 2 ∨ t = 3 ∨ t = 4 ∨ t = 5 ∨ t = 6 ∨ t = 7 ∨ t = 8 ∨ t = 9 ∨ t = 10 := by omega
 all_goals go_enter Tryz.func164, Tryz.ntmps164
 all_goals go_wp2
 all_goals go_ret
 all_goals exact ⟨rfl, rfl⟩
set_option maxHeartbeats 400000 in
theorem l10Type_any (s : ByteArray) (w : World) :
  Calls Tryz.prog 150 #[.string s] w fun e w' => e = .returned (.int .i64 (mtype s.data.toList)) ∧ w' = w := by
 go_enter Tryz.func150, Tryz.ntmps150
 go_wp2
 go_loop [3] (fun i => ∃ k : Nat, 1 ≤ k ∧ k ≤ 11 ∧ i = .int .i64 k ∧ ∀ j, j + 1 < k → tw j ≠ s.data.toList) (fun i => 11 - (intOf i).toNat)
 case atStart => exact ⟨1, by omega, by omega, rfl, fun j h => by omega⟩
 case round =>
  obtain ⟨k, hk1, hk, rfl, hr⟩ := hrel
  have HR := hid hr
  clear hr
  by_cases hlt : k ≤ 10
  ·have HQ := hid (str_eq (tw (k - 1)) s)
   by_cases he : tw (k - 1) = s.data.toList
   ·have hq : ((twS (k - 1)).toList == s.toList) = true := by unfold twS; rw [HQ.out]; simpa using he
    have HE : Hid (mtype s.data.toList = k) := by
     show _ = _; rw [← he, mtype_tw (k - 1) (by omega)]; omega
    clear HQ he
    go_wp2_with (go_at_call 164; refine (l10TypeWord_any k hk1 hlt _).mono ?_; rintro e w' ⟨rfl, hw⟩; have hw2 := hw.symm; clear hw; subst hw2)
    go_ret
    exact ⟨ret_int (by rw [HE.out]), rfl⟩
   ·have hq : ((twS (k - 1)).toList == s.toList) = false := by unfold twS; rw [HQ.out]; simpa using he
    have HN := hid he
    clear HQ he
    go_wp2_with (go_at_call 164; refine (l10TypeWord_any k hk1 hlt _).mono ?_; rintro e w' ⟨rfl, hw⟩; have hw2 := hw.symm; clear hw; subst hw2)
    go_round
    case rel => exact ⟨k + 1, by omega, by omega, by go_num, fun j h => by
     rcases Nat.lt_or_eq_of_le (show j + 1 ≤ k by omega) with h | h
     ·exact HR.out j h
     ·have e : j = k - 1 := by omega
      subst e; exact HN.out⟩
    case measure => simp [intOf]; omega
  ·have HE : Hid (mtype s.data.toList = 0) := mtype_none _ fun i hi => HR.out i (by omega)
   go_wp2
   go_ret
   exact ⟨ret_int (by rw [HE.out]; rfl), rfl⟩
set_option maxHeartbeats 400000 in
theorem l10Signed_any (t : Nat) (h2 : t ≤ 10) (w : World) :
  Calls Tryz.prog 154 #[.int .i64 t] w fun e w' => e = .returned (.bool (decide (7 ≤ t))) ∧ w' = w := by
 go_enter Tryz.func154, Tryz.ntmps154
 go_wp2
 all_goals go_ret
 all_goals exact ⟨ret_bool (by rw [Bool.eq_iff_iff]; simp; try omega), rfl⟩
def bitsOf : Nat → Nat
 | 3 => 8 | 7 => 8 | 4 => 16 | 8 => 16 | 5 => 32 | 9 => 32 | _ => 64
set_option maxHeartbeats 400000 in
theorem l10Bits_any (t : Nat) (h1 : 3 ≤ t) (h2 : t ≤ 10) (w : World) :
  Calls Tryz.prog 153 #[.int .i64 t] w fun e w' => e = .returned (.int .i64 (bitsOf t)) ∧ w' = w := by
 obtain rfl | rfl | rfl | rfl | rfl | rfl | rfl | rfl : t = 3 ∨ t = 4 ∨ t = 5 ∨ t = 6 ∨ t = 7 ∨ t = 8 ∨ t = 9 ∨ t = 10 := by omega
 all_goals go_enter Tryz.func153, Tryz.ntmps153
 all_goals go_wp2
 all_goals go_ret
 all_goals exact ⟨rfl, rfl⟩
set_option maxHeartbeats 400000 in
theorem l10BuiltWord_any (t : Nat) (h1 : 1 ≤ t) (h2 : t ≤ 12) (w : World) :
  Calls Tryz.prog 113 #[.int .i64 t] w fun e w' => (∃ n, e = .returned (.tuple #[.string (bwS (t - 1)), .int .i64 n])) ∧ w' = w := by
 obtain rfl | rfl | rfl | rfl | rfl | rfl | rfl | rfl | rfl | rfl | rfl | rfl : t = 1 ∨ t = 2 ∨ t = 3 ∨ t = 4 ∨ t = 5 ∨ t = 6 ∨ t = 7 ∨ t = 8 ∨ t = 9 ∨ t = 10 ∨ t = 11 ∨ t = 12 := by omega
 all_goals go_enter Tryz.func113, Tryz.ntmps113
 all_goals go_wp2
 all_goals go_ret2
 all_goals exact ⟨⟨_, rfl⟩, rfl⟩
set_option maxHeartbeats 400000 in
theorem l10Plain_any (w : World) :
  Calls Tryz.prog 151 #[] w fun e w' => e = .returned (.slice (some ⟨w.heap.size, 0, none⟩) 13 13) ∧ w' = w.alloc (.cells (pws.map fun x => Value.string ⟨x.toArray⟩).toArray 9) := by
 go_enter Tryz.func151, Tryz.ntmps151
 go_wp2
 go_ret
 exact ⟨rfl, rfl⟩
theorem pwS_cell (w : World) (i : Nat) (h : i < 13) : (w.alloc (.cells (pws.map fun x => Value.string ⟨x.toArray⟩).toArray 9)).cell? ⟨w.heap.size, i, none⟩ = some (.string (pwS i)) := by
 rw [cell_new_row]
 have hl : i < pws.length := h
 simp [pwS, hl]
set_option maxHeartbeats 1000000 in
theorem l10Taken_any (s : ByteArray) (w : World) :
  Calls Tryz.prog 135 #[.string s] w fun e w' => e = .returned (.bool (decide (s.data.toList ∈ mws))) ∧ Below w.heap.size w w' := by
 have HM := hid (mem_mws s.data.toList)
 by_cases h0 : mtype s.data.toList = 0
 ·have HT0 : Hid (¬ s.data.toList ∈ tws) := fun h => (mtype_pos _).2 h h0
  have HZ := hid h0
  clear h0
  go_enter Tryz.func135, Tryz.ntmps135
  go_wp2_with (go_at_call 150; refine (l10Type_any s _).mono ?_; rintro e w' ⟨rfl, hw⟩; have hw2 := hw.symm; clear hw; subst hw2; rw [HZ.out])
  go_loop [3] (fun i => ∃ k : Nat, 1 ≤ k ∧ k ≤ 13 ∧ i = .int .i64 k ∧ ∀ j, j + 1 < k → bws.getD j [] ≠ s.data.toList) (fun i => 13 - (intOf i).toNat)
  case atStart => exact ⟨1, by omega, by omega, rfl, fun j h => by omega⟩
  case round =>
   obtain ⟨k, hk1, hk, rfl, hr⟩ := hrel
   have HR := hid hr
   clear hr
   by_cases hlt : k ≤ 12
   ·have HQ := hid (str_eq (bws.getD (k - 1) []) s)
    by_cases he : bws.getD (k - 1) [] = s.data.toList
    ·have hq : ((bwS (k - 1)).toList == s.toList) = true := by unfold bwS; rw [HQ.out]; simpa using he
     have HE : Hid (decide (s.data.toList ∈ mws) = true) := decide_eq_true (HM.out.2 (.inr (.inr ((mem_get _ _).2 ⟨k - 1, by (show k - 1 < 12); omega, he⟩))))
     clear HQ he HM
     go_wp2_with (go_at_call 113; refine (l10BuiltWord_any k hk1 hlt _).mono ?_; rintro e w' ⟨⟨nb, rfl⟩, hw⟩; have hw2 := hw.symm; clear hw; subst hw2)
     go_ret
     exact ⟨ret_bool (by rw [HE.out]), Below.refl _ _⟩
    ·have hq : ((bwS (k - 1)).toList == s.toList) = false := by unfold bwS; rw [HQ.out]; simpa using he
     have HN := hid he
     clear HQ he
     go_wp2_with (go_at_call 113; refine (l10BuiltWord_any k hk1 hlt _).mono ?_; rintro e w' ⟨⟨nb, rfl⟩, hw⟩; have hw2 := hw.symm; clear hw; subst hw2)
     go_round
     case rel => exact ⟨k + 1, by omega, by omega, by go_num, fun j h => by
      rcases Nat.lt_or_eq_of_le (show j + 1 ≤ k by omega) with h | h
      ·exact HR.out j h
      ·have e : j = k - 1 := by omega
       subst e; exact HN.out⟩
     case measure => simp [intOf]; omega
   ·have HB0 : Hid (¬ s.data.toList ∈ bws) := not_mem_get _ _ fun i hi => HR.out i (by have : bws.length = 12 := rfl; omega)
    clear HR
    go_wp2_with (go_at_call 151; refine (l10Plain_any _).mono ?_; rintro e w' ⟨rfl, rfl⟩)
    go_loop [7] (fun i => ∃ k : Nat, k ≤ 13 ∧ i = .int .i64 k ∧ ∀ j, j < k → pws.getD j [] ≠ s.data.toList) (fun i => 13 - (intOf i).toNat)
    case atStart => exact ⟨0, by omega, rfl, fun j h => by omega⟩
    case round =>
     obtain ⟨m, hm, rfl, hr⟩ := hrel
     have HR := hid hr
     clear hr
     by_cases hlt2 : m < 13
     ·have hcell := pwS_cell w m hlt2
      have HQ := hid (str_eq (pws.getD m []) s)
      by_cases he : pws.getD m [] = s.data.toList
      ·have hq : ((pwS m).toList == s.toList) = true := by unfold pwS; rw [HQ.out]; simpa using he
       have HE : Hid (decide (s.data.toList ∈ mws) = true) := decide_eq_true (HM.out.2 (.inr (.inl ((mem_get _ _).2 ⟨m, hlt2, he⟩))))
       clear HQ he HM
       go_wp2
       go_ret
       exact ⟨ret_bool (by rw [HE.out]), (Below.refl _ _).alloc (Nat.le_refl _) _⟩
      ·have hq : ((pwS m).toList == s.toList) = false := by unfold pwS; rw [HQ.out]; simpa using he
       have HN := hid he
       clear HQ he
       go_wp2
       go_round
       case rel => exact ⟨m + 1, by omega, by go_num, fun j h => by
        rcases Nat.lt_or_eq_of_le (show j ≤ m by omega) with h | h
        ·exact HR.out j h
        ·subst h; exact HN.out⟩
       case measure => simp [intOf]; omega
     ·have HE : Hid (decide (s.data.toList ∈ mws) = false) := decide_eq_false fun h => by
       rcases HM.out.1 h with h | h | h
       ·exact HT0.out h
       ·exact not_mem_get _ _ (fun i hi => HR.out i (by have : pws.length = 13 := rfl; omega)) h
       ·exact HB0.out h
      clear HM HT0 HB0 HR
      go_wp2
      go_ret
      exact ⟨ret_bool (by rw [HE.out]), (Below.refl _ _).alloc (Nat.le_refl _) _⟩
 ·have HE : Hid (decide (s.data.toList ∈ mws) = true) := decide_eq_true (HM.out.2 (.inl ((mtype_pos _).1 h0)))
  have h0' : ((mtype s.data.toList : Int) != 0) = true := by simp; omega
  clear h0 HM
  go_enter Tryz.func135, Tryz.ntmps135
  go_wp2_with (go_at_call 150; refine (l10Type_any s _).mono ?_; rintro e w' ⟨rfl, hw⟩; have hw2 := hw.symm; clear hw; subst hw2)
  go_ret
  exact ⟨ret_bool (by rw [HE.out]), Below.refl _ _⟩
end Go.Proofs.YtcjgcipacfcjnaaGreatDoor.Q
