import Derived.Test.YtfndbnbnimhnaaaGreatDoorProg
import Derived.Test.YtfndbnbnimhnaaaGreatDoorChecked
import Derived.WalkKit
import Derived.WalkSpells
import Derived.WalkLawsBesides
import Derived.OwnWalk
import Derived.Deep.QuietTactic
import Derived.BigQuiet
import Derived.Lib.Bytealg
import Derived.Lib.Strings
import Derived.BigCall
import Derived.Shelf.Abstract
import Derived.Test.YtfndbnbnimhnaaaGreatDoorJ01
/-! Shapes of places: the order in which they go up, joins, and that the least assignment is one alone. Plain mathematics. -/
namespace Go.Proofs.YtfndbnbnimhnaaaGreatDoor.C
/-- What lies at a place: the state (0: no way leads there, 1: known, 2: they do not go together), the slots' types, the stack's. -/
structure Sh where
  st : Nat
  sl : List Int
  sk : List Int
deriving DecidableEq
def bot : Sh := ⟨0, [], []⟩
def top : Sh := ⟨2, [], []⟩
/-- A shape is as it can be, with S slots. -/
def OkSh (S : Nat) (s : Sh) : Prop := s = bot ∨ s = top ∨ (s.st = 1 ∧ s.sl.length = S ∧ (∀ x ∈ s.sl, 0 ≤ x ∧ x ≤ 10) ∧ (∀ x ∈ s.sk, 1 ≤ x ∧ x ≤ 10) ∧ s.sk.length ≤ 600)
def slLe (a b : List Int) : Prop := a.length = b.length ∧ ∀ i, i < a.length → b.getD i 0 = a.getD i 0 ∨ b.getD i 0 = 0
/-- a lies below b. -/
def le (a b : Sh) : Prop := a.st = 0 ∨ b.st = 2 ∨ (a.st = 1 ∧ b.st = 1 ∧ a.sk = b.sk ∧ slLe a.sl b.sl)
def slJoin (a b : List Int) : List Int := List.zipWith (fun x y => if x = y then x else 0) a b
def join (a b : Sh) : Sh := if a.st = 0 then b else if a.st = 2 ∨ b.st = 2 ∨ ¬ a.sk = b.sk then top else ⟨1, slJoin a.sl b.sl, a.sk⟩
theorem slJoin_length (a b : List Int) (h : a.length = b.length) : (slJoin a b).length = a.length := by simp [slJoin, h]
theorem slJoin_get (a b : List Int) (h : a.length = b.length) (i : Nat) (hi : i < a.length) : (slJoin a b).getD i 0 = if a.getD i 0 = b.getD i 0 then a.getD i 0 else 0 := by
  have hb : i < b.length := by omega
  unfold slJoin
  rw [List.getD_eq_getElem?_getD, List.getElem?_zipWith, List.getD_eq_getElem?_getD, List.getD_eq_getElem?_getD, List.getElem?_eq_getElem hi, List.getElem?_eq_getElem hb]
  rfl
theorem slLe_refl (a : List Int) : slLe a a := ⟨rfl, fun _ _ => .inl rfl⟩
theorem slLe_trans {a b c : List Int} (h : slLe a b) (k : slLe b c) : slLe a c := by
  refine ⟨h.1.trans k.1, fun i hi => ?_⟩
  rcases k.2 i (by rw [← h.1]; exact hi) with e | e
  · rw [e]; exact h.2 i hi
  · exact .inr e
theorem slLe_antisymm {a b : List Int} (h : slLe a b) (k : slLe b a) : a = b := by
  apply List.ext_getElem h.1
  intro i h1 h2
  have x := h.2 i h1
  have y := k.2 i h2
  simp only [List.getD_eq_getElem?_getD, List.getElem?_eq_getElem h1, List.getElem?_eq_getElem h2, Option.getD_some] at x y
  rcases x with e | e
  · exact e.symm
  · rcases y with f | f
    · exact f
    · rw [e, f]
theorem le_refl {S : Nat} {a : Sh} (h : OkSh S a) : le a a := by
  rcases h with rfl | rfl | ⟨h, _⟩
  · exact .inl rfl
  · exact .inr (.inl rfl)
  · exact .inr (.inr ⟨h, h, rfl, slLe_refl _⟩)
theorem le_trans {a b c : Sh} (h : le a b) (k : le b c) : le a c := by
  rcases h with h | h | ⟨h1, h2, h3, h4⟩
  · exact .inl h
  · rcases k with k | k | ⟨k1, _⟩
    · omega
    · exact .inr (.inl k)
    · omega
  · rcases k with k | k | ⟨k1, k2, k3, k4⟩
    · omega
    · exact .inr (.inl k)
    · exact .inr (.inr ⟨h1, k2, h3.trans k3, slLe_trans h4 k4⟩)
theorem le_antisymm {S : Nat} {a b : Sh} (ha : OkSh S a) (hb : OkSh S b) (h : le a b) (k : le b a) : a = b := by
  rcases ha with rfl | rfl | ⟨a1, _⟩
  · rcases hb with rfl | rfl | ⟨b1, _⟩
    · rfl
    · rcases k with k | k | ⟨k, _⟩ <;> simp [bot, top] at k
    · rcases k with k | k | ⟨_, k, _⟩
      · omega
      · simp [bot] at k
      · simp [bot] at k
  · rcases hb with rfl | rfl | ⟨b1, _⟩
    · rcases h with k | k | ⟨k, _⟩ <;> simp [bot, top] at k
    · rfl
    · rcases h with h | h | ⟨h, _⟩
      · simp [top] at h
      · omega
      · simp [top] at h
  · rcases hb with rfl | rfl | ⟨b1, _⟩
    · rcases h with h | h | ⟨_, h, _⟩
      · omega
      · simp [bot] at h
      · simp [bot] at h
    · rcases k with k | k | ⟨k, _⟩
      · simp [top] at k
      · omega
      · simp [top] at k
    · rcases h with h | h | ⟨_, _, h3, h4⟩
      · omega
      · omega
      · rcases k with k | k | ⟨_, _, _, k4⟩
        · omega
        · omega
        · obtain ⟨s1, l1, k1⟩ := a
          obtain ⟨s2, l2, k2⟩ := b
          simp only at a1 b1 h3 h4 k4
          rw [a1, b1, h3, slLe_antisymm h4 k4]
theorem join_ok {S : Nat} {a b : Sh} (ha : OkSh S a) (hb : OkSh S b) (hb0 : b.st ≠ 0) : OkSh S (join a b) := by
  unfold join
  split
  · exact hb
  · split
    · exact .inr (.inl rfl)
    · rename_i h1 h2
      rcases ha with rfl | rfl | ⟨_, a2, a3, a4, a5⟩
      · exact absurd rfl h1
      · exact absurd (.inl rfl) h2
      · rcases hb with rfl | rfl | ⟨_, b2, b3, _⟩
        · exact absurd rfl hb0
        · exact absurd (.inr (.inl rfl)) h2
        · refine .inr (.inr ⟨rfl, by rw [slJoin_length _ _ (by omega)]; exact a2, fun x hx => ?_, a4, a5⟩)
          obtain ⟨i, hi, rfl⟩ := List.getElem_of_mem hx
          have hi2 : i < a.sl.length := by rw [← slJoin_length a.sl b.sl (by omega)]; exact hi
          have e := slJoin_get a.sl b.sl (by omega) i hi2
          rw [List.getD_eq_getElem?_getD, List.getElem?_eq_getElem hi, Option.getD_some] at e
          rw [e]
          split
          · have : a.sl.getD i 0 ∈ a.sl := by rw [List.getD_eq_getElem?_getD, List.getElem?_eq_getElem hi2]; exact List.getElem_mem hi2
            exact a3 _ this
          · omega
theorem le_join_left {S : Nat} {a b : Sh} (ha : OkSh S a) (hb : OkSh S b) (hb0 : b.st ≠ 0) : le a (join a b) := by
  unfold join
  split
  · rename_i h; exact .inl h
  · split
    · exact .inr (.inl rfl)
    · rename_i h1 h2
      rcases ha with rfl | rfl | ⟨a1, a2, _⟩
      · exact absurd rfl h1
      · exact absurd (.inl rfl) h2
      · rcases hb with rfl | rfl | ⟨_, b2, _⟩
        · exact absurd rfl hb0
        · exact absurd (.inr (.inl rfl)) h2
        · refine .inr (.inr ⟨a1, rfl, rfl, by rw [slJoin_length _ _ (by omega)], fun i hi => ?_⟩)
          rw [slJoin_get _ _ (by omega) i hi]
          split
          · exact .inl rfl
          · exact .inr rfl
theorem le_join_right {S : Nat} {a b : Sh} (ha : OkSh S a) (hb : OkSh S b) (hb0 : b.st ≠ 0) : le b (join a b) := by
  unfold join
  split
  · exact le_refl hb
  · split
    · exact .inr (.inl rfl)
    · rename_i h1 h2
      rcases ha with rfl | rfl | ⟨a1, a2, _⟩
      · exact absurd rfl h1
      · exact absurd (.inl rfl) h2
      · rcases hb with rfl | rfl | ⟨b1, b2, _⟩
        · exact absurd rfl hb0
        · exact absurd (.inr (.inl rfl)) h2
        · have hsk : a.sk = b.sk := Decidable.byContradiction fun h => h2 (.inr (.inr h))
          refine .inr (.inr ⟨b1, rfl, hsk.symm, by rw [slJoin_length _ _ (by omega)]; omega, fun i hi => ?_⟩)
          rw [slJoin_get _ _ (by omega) i (by omega)]
          split
          · rename_i h; exact .inl h
          · exact .inr rfl
theorem join_le {S : Nat} {a b c : Sh} (_ha : OkSh S a) (_hb : OkSh S b) (hb0 : b.st ≠ 0) (h : le a c) (k : le b c) : le (join a b) c := by
  unfold join
  split
  · exact k
  · rename_i h1
    rcases h with h | h | ⟨h2, h3, h4, h5⟩
    · exact absurd h h1
    · exact .inr (.inl h)
    · rcases k with k | k | ⟨k2, _, k4, k5⟩
      · exact absurd k hb0
      · exact .inr (.inl k)
      · rw [if_neg (by rintro (x | x | x); omega; omega; exact x (h4.trans k4.symm))]
        have hl : a.sl.length = b.sl.length := h5.1.trans k5.1.symm
        refine .inr (.inr ⟨rfl, h3, h4, by rw [slJoin_length _ _ hl]; exact h5.1, fun i hi => ?_⟩)
        rw [slJoin_length _ _ hl] at hi
        rw [slJoin_get _ _ hl i hi]
        have x := h5.2 i hi
        have y := k5.2 i (by omega)
        split
        · exact x
        · rename_i hne
          rcases x with x | x
          · rcases y with y | y
            · exact absurd (x.symm.trans y) hne
            · exact .inr y
          · exact .inr x
/-- As many are told. -/
def nz : List Int → Nat
  | [] => 0
  | x :: r => (if x = 0 then 0 else 1) + nz r
theorem nz_le : ∀ l : List Int, nz l ≤ l.length
  | [] => Nat.le_refl _
  | x :: r => by
    have := nz_le r
    simp only [nz, List.length_cons]
    split <;> omega
/-- How far a shape can still go up. -/
def hgt (S : Nat) (s : Sh) : Nat := if s.st = 0 then S + 2 else if s.st = 1 then 1 + nz s.sl else 0
theorem hgt_0 {S : Nat} {s : Sh} (h : s.st = 0) : hgt S s = S + 2 := if_pos h
theorem hgt_1 {S : Nat} {s : Sh} (h : s.st = 1) : hgt S s = 1 + nz s.sl := by unfold hgt; rw [if_neg (by omega), if_pos h]
theorem hgt_2 {S : Nat} {s : Sh} (h : s.st = 2) : hgt S s = 0 := by unfold hgt; rw [if_neg (by omega), if_neg (by omega)]
theorem nz_down : ∀ (a b : List Int), slLe a b → nz b ≤ nz a ∧ (¬ a = b → nz b < nz a) := by
  intro a
  induction a with
  | nil =>
    intro b h
    have : b = [] := List.eq_nil_of_length_eq_zero h.1.symm
    subst this
    exact ⟨Nat.le_refl _, fun h => absurd rfl h⟩
  | cons x a ih =>
    intro b h
    cases b with
    | nil => exact absurd h.1 (by simp)
    | cons y b =>
      have hs : slLe a b := ⟨by simpa using h.1, fun i hi => by simpa using h.2 (i + 1) (by simpa using hi)⟩
      have h0 := h.2 0 (by simp)
      simp only [List.getD_cons_zero] at h0
      obtain ⟨i1, i2⟩ := ih b hs
      simp only [nz]
      rcases h0 with rfl | rfl
      · refine ⟨by split <;> omega, fun hne => ?_⟩
        have := i2 (fun e => hne (by rw [e]))
        split <;> omega
      · by_cases hx : x = 0
        · subst hx
          refine ⟨by rw [if_pos rfl]; omega, fun hne => ?_⟩
          have := i2 (fun e => hne (by rw [e]))
          rw [if_pos rfl]; omega
        · rw [if_neg hx, if_pos rfl]
          exact ⟨by omega, fun _ => by omega⟩
theorem hgt_lt {S : Nat} {a b : Sh} (ha : OkSh S a) (hb : OkSh S b) (h : le a b) (hne : ¬ a = b) : hgt S b < hgt S a := by
  rcases h with h | h | ⟨h1, h2, h3, h4⟩
  · have e : a = bot := by
      rcases ha with h2 | h2 | ⟨h2, _⟩
      · exact h2
      · rw [h2] at h; simp [top] at h
      · omega
    rw [hgt_0 (s := a) (by rw [e]; rfl)]
    rcases hb with rfl | rfl | ⟨b1, b2, _⟩
    · exact absurd e hne
    · rw [hgt_2 rfl]; omega
    · have := nz_le b.sl
      rw [hgt_1 b1]
      omega
  · have e : b = top := by
      rcases hb with k | k | ⟨k, _⟩
      · rw [k] at h; simp [bot] at h
      · exact k
      · omega
    rw [hgt_2 (s := b) h]
    rcases ha with rfl | rfl | ⟨a1, _⟩
    · rw [hgt_0 rfl]; omega
    · exact absurd e.symm hne
    · rw [hgt_1 a1]; omega
  · have := (nz_down _ _ h4).2 (fun e => hne (by
      obtain ⟨s1, l1, k1⟩ := a
      obtain ⟨s2, l2, k2⟩ := b
      simp only at h1 h2 h3 e
      rw [h1, h2, h3, e]))
    rw [hgt_1 h1, hgt_1 h2]
    omega
end Go.Proofs.YtfndbnbnimhnaaaGreatDoor.C
/-! Boxes, rows, worlds: what the texts on sizes, copies and sameness have in common. -/
namespace Go.Proofs.YtfndbnbnimhnaaaGreatDoor.R
open Go.RowKit
set_option maxRecDepth 20000
theorem hid {p : Prop} (h : p) : Hid p := h
theorem ret_int {k : IntKind} {a b : Int} (h : a = b) : Ending.returned (.int k a) = .returned (.int k b) := by rw [h]
theorem add_block (a : Addr) (n : Nat) : (a.add n).block = a.block := by unfold Addr.add; split <;> rfl
theorem add_one (a : Addr) (n : Nat) (h : n ≠ 0) : a.add n = ⟨a.block, a.off + n, none⟩ := by unfold Addr.add; rw [if_neg h]
theorem small {n : Nat} (h : n ≤ maxLen) : n ≤ 9223372036854775807 := by unfold maxLen at h; simpa using h
theorem lt_hp {W : World} {k : Nat} {o : Obj} (h : W.heap[k]? = some o) : k < W.heap.size := (Array.getElem?_eq_some_iff.1 h).1
theorem hp_next {W V : World} {g : Nat} {o : Obj} (h : W.heap[g]? = some o) (hb : Below W.heap.size W V) : V.heap[g]? = some o := (hb.block g (lt_hp h)).trans h
theorem row_room {W : World} {g i : Nat} {cur : Array Value} {t : TypeId} (h : W.heap[g]? = some (.cells cur t (0, 0))) (hi : i < cur.size) :
    (∃ v, W.cell? ⟨g, i, none⟩ = some v) ∧ W.frozen? ⟨g, i, none⟩ = false :=
  ⟨⟨cur[i], by unfold World.cell?; rw [h]; simp [hi]⟩, by unfold World.frozen?; rw [h]; simp⟩
theorem row_cell {W : World} {g : Nat} {cur : Array Value} {t : TypeId} (h : W.heap[g]? = some (.cells cur t (0, 0))) (i : Nat) : W.cell? ⟨g, i, none⟩ = cur[i]? := by
  unfold World.cell?
  rw [h]; rfl
theorem set_at {W : World} {g i : Nat} {cur : Array Value} {t : TypeId} (v : Value) (h : W.heap[g]? = some (.cells cur t (0, 0))) : (W.setCell ⟨g, i, none⟩ v).heap[g]? = some (.cells (cur.setIfInBounds i v) t (0, 0)) := by
  unfold World.setCell
  simp only [Array.getElem?_modify, h]
  simp
theorem set_other (W : World) (g j i : Nat) (v : Value) (h : ¬ i = g) : (W.setCell ⟨g, j, none⟩ v).heap[i]? = W.heap[i]? := by
  unfold World.setCell
  simp only [Array.getElem?_modify]
  rw [if_neg (fun e => h e.symm)]
theorem below_set {B : Nat} {w w' : World} (h : Below B w w') (g i : Nat) (hg : B ≤ g) (v : Value) : Below B w (w'.setCell ⟨g, i, none⟩ v) := h.setCell hg v
theorem below_two' (w : World) (a b : Obj) : Below w.heap.size w ((w.alloc a).alloc b) := ((Below.refl _ _).alloc (Nat.le_refl _) a).alloc (by simp) b
theorem below_drewN {B : Nat} {w w' : World} (h : Below B w w') (n : Nat) : Below B w (w'.drewN n) := by
  induction n with
  | zero => exact h
  | succ n ih => exact ih.drew
/-- A box that lies where w ended. -/
structure B1 (w : World) (o : Obj) (W : World) : Prop where
  lo : Below w.heap.size w W
  e : W.heap[w.heap.size]? = some o
theorem B1.start (w : World) (o : Obj) : B1 w o (w.alloc o) := ⟨(Below.refl _ _).alloc (Nat.le_refl _) _, heap_alloc_new _ _⟩
theorem B1.next {w W V : World} {o : Obj} (h : B1 w o W) (hb : Below W.heap.size W V) : B1 w o V := ⟨h.lo.trans (hb.mono h.lo.size), hp_next h.e hb⟩
structure B2 (w : World) (o p : Obj) (W : World) : Prop where
  lo : Below w.heap.size w W
  e : W.heap[w.heap.size]? = some o
  f : W.heap[w.heap.size + 1]? = some p
theorem B2.start (w : World) (o p : Obj) : B2 w o p ((w.alloc o).alloc p) := by
  refine ⟨below_two' _ _ _, ?_, ?_⟩
  · rw [Below.heap_alloc _ _ _ (by simp)]
    exact heap_alloc_new w o
  · have := heap_alloc_new (w.alloc o) p
    rwa [World.size_alloc] at this
theorem B2.next {w W V : World} {o p : Obj} (h : B2 w o p W) (hb : Below W.heap.size W V) : B2 w o p V := ⟨h.lo.trans (hb.mono h.lo.size), hp_next h.e hb, hp_next h.f hb⟩
/-- What came in, what is answered, and what is made: three boxes. -/
structure B3 (w : World) (o : Obj) (R O : Array Value) (t : TypeId) (W : World) : Prop where
  lo : Below w.heap.size w W
  e : W.heap[w.heap.size]? = some o
  r : W.heap[w.heap.size + 1]? = some (.cells R t (0, 0))
  o : W.heap[w.heap.size + 1 + 1]? = some (.cells O t (0, 0))
theorem B3.start (w : World) (o : Obj) (R O : Array Value) (t : TypeId) : B3 w o R O t (((w.alloc o).alloc (.cells R t)).alloc (.cells O t)) := by
  have h := B2.start w o (.cells R t)
  refine ⟨h.lo.alloc (by simp; omega) _, ?_, ?_, ?_⟩
  · rw [Below.heap_alloc _ _ _ (by simp; omega)]; exact h.e
  · rw [Below.heap_alloc _ _ _ (by simp)]; exact h.f
  · have := heap_alloc_new ((w.alloc o).alloc (.cells R t)) (.cells O t)
    rwa [World.size_alloc, World.size_alloc] at this
theorem B3.next {w W V : World} {o : Obj} {R O : Array Value} {t : TypeId} (h : B3 w o R O t W) (hb : Below W.heap.size W V) : B3 w o R O t V := ⟨h.lo.trans (hb.mono h.lo.size), hp_next h.e hb, hp_next h.r hb, hp_next h.o hb⟩
theorem B3.set {w W : World} {o : Obj} {R O : Array Value} {t : TypeId} (h : B3 w o R O t W) (i : Nat) (v : Value) : B3 w o R (O.setIfInBounds i v) t (W.setCell ⟨w.heap.size + 1 + 1, i, none⟩ v) :=
  ⟨below_set h.lo _ _ (by omega) _, (set_other _ _ _ _ _ (by omega)).trans h.e, (set_other _ _ _ _ _ (by omega)).trans h.r, set_at v h.o⟩
theorem B3.sz {w W : World} {o : Obj} {R O : Array Value} {t : TypeId} (h : B3 w o R O t W) : w.heap.size + 3 ≤ W.heap.size := lt_hp h.o
/-- A world behind w in which all that lay in w is as it was. -/
structure Gr (w : World) where
  W : World
  h : Below w.heap.size w W
theorem wp_region_gr {P : Program} {id : Nat} {Q : Exit → Act → World → Prop} {a : Act} {w : World} {l : List Oper} (hm : P.follows .mixedOrders = true) (hB : Region.lexB .any l.toArray = true)
    (h : wpQuiet P l.toArray (fun w' => ∃ p : Gr w, w' = p.W) (fun a' => ∀ w', (∃ p : Gr w, w' = p.W) → Q .normal a' w') l a) : (Code.region id l.toArray true).wp P Q a w :=
  wp_region_quiet (C := fun w' => ∃ p : Gr w, w' = p.W) hm hB ⟨⟨w.drew, (Below.refl _ _).drew⟩, rfl⟩ (by simpa using h)
theorem Calls.gr_of {P : Program} {f : FuncId} {args : Array Value} {w : World} {p : Gr w} {v : Value} (h : Below w.heap.size w p.W → Calls P f args p.W fun e w' => e = .returned v ∧ Below p.W.heap.size p.W w') :
    Calls P f args p.W fun e w'' => e = .returned v ∧ ∃ p : Gr w, w'' = p.W :=
  (h p.h).mono fun _ w' ⟨he, hb⟩ => ⟨he, ⟨w', p.h.trans (hb.mono p.h.size)⟩, rfl⟩
theorem info_parts {i : Option TypeInfo} {z : Value} {s b : Nat} (h : i.map (fun i => (i.zero, i.size, i.bytes)) = some (some z, s, b)) : ∃ j, i = some j ∧ j.zero = some z ∧ j.size = s ∧ j.bytes = b := by
  cases i with
  | none => cases h
  | some j => simp at h; exact ⟨j, rfl, h.1, h.2.1, h.2.2⟩
/-- A contract of a size: what is left. -/
def SzEnd (l : Int) (k : Nat) (w : World) (e : Ending) (w' : World) : Prop := (∃ r, e = .returned (.int .i64 r) ∧ -1 ≤ r ∧ r ≤ l ∧ (0 ≤ r → r + (k : Int) = l)) ∧ Below w.heap.size w w'
end Go.Proofs.YtfndbnbnimhnaaaGreatDoor.R
/-! What an instruction takes and leaves; the least assignment of shapes. Plain mathematics. -/
namespace Go.Proofs.YtfndbnbnimhnaaaGreatDoor.C
structure In where
  op : Int
  a : Int
  n : Int
  text : ByteArray
structure Fn where
  name : ByteArray
  params : List Int
  result : Int
  slots : Int
  ins : List In
/-- So many slots. -/
def Fn.S (f : Fn) : Nat := f.slots.toNat
def in0 : In := ⟨0, 0, 0, ⟨#[]⟩⟩
def fn0 : Fn := ⟨⟨#[]⟩, [], 0, 0, []⟩
def isI (t : Int) : Bool := decide (3 ≤ t) && decide (t ≤ 10)
def unG (op k : Int) : Int := if (op = 2 ∧ k = 1) ∨ (¬ op = 2 ∧ isI k = true) then k else 0
def binG (op a b : Int) : Int :=
  if ¬ a = b ∨ a = 0 then 0 else if op = 3 ∨ op = 4 then 1 else if 5 ≤ op ∧ op ≤ 8 then (if a = 1 then 0 else 1) else if op = 9 then (if a = 1 then 0 else a) else if isI a = true then a else 0
/-- What a built word asks for, and gives. -/
def sig (op : Int) : List Int × Int :=
  if op = 1 ∨ op = 3 then ([2], 2) else if op = 2 then ([2], 1) else if op = 4 then ([2, 2], 2) else if op = 5 then ([], 2) else if op = 6 ∨ op = 12 then ([2], 10) else if op = 7 then ([2, 10], 3) else if op = 8 then ([2, 10, 10], 2) else if op = 9 then ([2, 2], 10) else if op = 10 then ([3], 2) else ([-1], 2)
def fitK (ask k : Int) : Bool := decide (ask = k) || (decide (ask = -1) && isI k)
def fitL : List Int → List Int → Bool
  | [], [] => true
  | a :: r, k :: s => fitK a k && fitL r s
  | _, _ => false
def takesN (fns : List Fn) (i : In) : Nat :=
  if i.op = 3 ∨ i.op = 4 ∨ i.op = 5 ∨ i.op = 7 ∨ i.op = 11 ∨ i.op = 13 ∨ i.op = 15 then 1 else if i.op = 6 ∨ i.op = 14 then 2 else if i.op = 8 then (sig i.a).1.length else if i.op = 9 then (fns.getD i.a.toNat fn0).params.length else if i.op = 12 then i.a.toNat else 0
def opt (t : Int) : Option (List Int) := if t = 0 then none else some [t]
def whn (p : Prop) [Decidable p] (l : List Int) : Option (List Int) := if p then some l else none
/-- What an instruction puts, if what it takes fits. -/
def eff (fns : List Fn) (f : Fn) (i : In) (sl tk : List Int) : Option (List Int) :=
  if i.op = 1 then some [i.a]
  else if i.op = 2 then opt (sl.getD i.a.toNat 0)
  else if i.op = 5 then opt (unG i.a (tk.getD 0 0))
  else if i.op = 6 then opt (binG i.a (tk.getD 0 0) (tk.getD 1 0))
  else if i.op = 7 then whn (isI (tk.getD 0 0) = true) [i.a]
  else if i.op = 8 then whn (fitL (sig i.a).1 tk = true) [(sig i.a).2]
  else if i.op = 9 then whn (tk = (fns.getD i.a.toNat fn0).params) (if (fns.getD i.a.toNat fn0).result = 0 then [] else [(fns.getD i.a.toNat fn0).result])
  else if i.op = 11 then whn (tk.getD 0 0 = 1) []
  else if i.op = 12 then whn (i.a = 0 ∨ tk.getD 0 0 = f.result) []
  else if i.op = 13 ∨ i.op = 15 then whn (tk.getD 0 0 = 2) []
  else if i.op = 14 then whn (tk.getD 0 0 = 2 ∧ tk.getD 1 0 = 2) []
  else some []
def goes (i : In) (p : Nat) : List Nat := if i.op = 12 ∨ i.op = 13 then [] else if i.op = 10 then [i.a.toNat] else if i.op = 11 then [i.a.toNat, p + 1] else [p + 1]
/-- What a place leaves. -/
def behind (fns : List Fn) (f : Fn) (p : Nat) (s : Sh) : Sh :=
  if s.st = 1 ∧ takesN fns (f.ins.getD p in0) ≤ s.sk.length ∧ ∀ g ∈ goes (f.ins.getD p in0) p, g < f.ins.length then
    match eff fns f (f.ins.getD p in0) s.sl (s.sk.drop (s.sk.length - takesN fns (f.ins.getD p in0))) with
    | none => top
    | some l => if s.sk.length - takesN fns (f.ins.getD p in0) + l.length ≤ 600 then ⟨1, if (f.ins.getD p in0).op = 3 then s.sl.set (f.ins.getD p in0).a.toNat (s.sk.getLastD 0) else s.sl, s.sk.take (s.sk.length - takesN fns (f.ins.getD p in0)) ++ l⟩ else top
  else top
/-- An instruction is right. -/
structure InsR (fns : List Fn) (f : Fn) (i : In) : Prop where
  op : 1 ≤ i.op ∧ i.op ≤ 16
  push : i.op = 1 → 1 ≤ i.a ∧ i.a ≤ 10
  slot : i.op = 2 ∨ i.op = 3 → 0 ≤ i.a ∧ i.a < f.slots
  un : i.op = 5 → 1 ≤ i.a ∧ i.a ≤ 3
  bin : i.op = 6 → 3 ≤ i.a ∧ i.a ≤ 18
  conv : i.op = 7 → 3 ≤ i.a ∧ i.a ≤ 10
  built : i.op = 8 → 1 ≤ i.a ∧ i.a ≤ 12
  call : i.op = 9 → 0 ≤ i.a ∧ i.a < fns.length
  place : i.op = 10 ∨ i.op = 11 → 0 ≤ i.a ∧ i.a ≤ f.ins.length
  ret : i.op = 12 → (i.a = 1 ∧ ¬ f.result = 0) ∨ (i.a = 0 ∧ f.result = 0)
/-- A function is right, but for its name. -/
structure FnR (fns : List Fn) (f : Fn) : Prop where
  params : ∀ x ∈ f.params, 1 ≤ x ∧ x ≤ 10
  few : f.params.length ≤ 8
  result : 0 ≤ f.result ∧ f.result ≤ 10
  slots : (f.params.length : Int) ≤ f.slots ∧ f.slots ≤ 200
  some_ : 1 ≤ f.ins.length ∧ f.ins.length ≤ 50000
  ins : ∀ i ∈ f.ins, InsR fns f i
theorem unG_range {op k : Int} (hk : 0 ≤ k ∧ k ≤ 10) : 0 ≤ unG op k ∧ unG op k ≤ 10 := by
  unfold unG; split <;> omega
theorem binG_range {op a b : Int} (ha : 0 ≤ a ∧ a ≤ 10) : 0 ≤ binG op a b ∧ binG op a b ≤ 10 := by
  unfold binG; (repeat' split) <;> omega
theorem sig_range (op : Int) : 1 ≤ (sig op).2 ∧ (sig op).2 ≤ 10 := by
  unfold sig; (repeat' split) <;> simp
theorem opt_some {t : Int} {l : List Int} (h : opt t = some l) : ¬ t = 0 ∧ l = [t] := by
  unfold opt at h
  split at h
  · cases h
  · rename_i hne
    exact ⟨hne, by simpa using h.symm⟩
theorem whn_some {p : Prop} [Decidable p] {l m : List Int} (h : whn p l = some m) : p ∧ m = l := by
  unfold whn at h
  split at h
  · rename_i hp
    exact ⟨hp, by simpa using h.symm⟩
  · cases h
theorem getD_range {l : List Int} (h : ∀ x ∈ l, 1 ≤ x ∧ x ≤ 10) (i : Nat) : 0 ≤ l.getD i 0 ∧ l.getD i 0 ≤ 10 := by
  by_cases hi : i < l.length
  · rw [List.getD_eq_getElem?_getD, List.getElem?_eq_getElem hi]
    have := h _ (List.getElem_mem hi)
    simp; omega
  · rw [List.getD_eq_getElem?_getD, List.getElem?_eq_none (by omega)]; simp
theorem getD_range0 {l : List Int} (h : ∀ x ∈ l, 0 ≤ x ∧ x ≤ 10) (i : Nat) : 0 ≤ l.getD i 0 ∧ l.getD i 0 ≤ 10 := by
  by_cases hi : i < l.length
  · rw [List.getD_eq_getElem?_getD, List.getElem?_eq_getElem hi]
    exact h _ (List.getElem_mem hi)
  · rw [List.getD_eq_getElem?_getD, List.getElem?_eq_none (by omega)]; simp
/-- What is put are types, one at most. -/
theorem eff_range {fns : List Fn} {f : Fn} {i : In} {sl tk l : List Int} (_hf : FnR fns f) (hF : ∀ g ∈ fns, FnR fns g) (hi : InsR fns f i) (hs : ∀ x ∈ sl, 0 ≤ x ∧ x ≤ 10) (ht : ∀ x ∈ tk, 1 ≤ x ∧ x ≤ 10) (h : eff fns f i sl tk = some l) : (∀ x ∈ l, 1 ≤ x ∧ x ≤ 10) ∧ l.length ≤ 1 := by
  have one : ∀ t : Int, 1 ≤ t ∧ t ≤ 10 → (∀ x ∈ [t], 1 ≤ x ∧ x ≤ 10) ∧ [t].length ≤ 1 := fun t h => ⟨fun x hx => by simp at hx; subst hx; exact h, by simp⟩
  have none : (∀ x ∈ ([] : List Int), 1 ≤ x ∧ x ≤ 10) ∧ ([] : List Int).length ≤ 1 := ⟨fun x hx => (nomatch hx), by simp⟩
  have h0 := getD_range0 hs i.a.toNat
  have t0 := getD_range ht 0
  obtain ⟨op, a, n, t⟩ := i
  have hop := hi.op
  dsimp only at hop h0
  obtain rfl | rfl | rfl | rfl | rfl | rfl | rfl | rfl | rfl | rfl | rfl | rfl | rfl | rfl | rfl | rfl : op = 1 ∨ op = 2 ∨ op = 3 ∨ op = 4 ∨ op = 5 ∨ op = 6 ∨ op = 7 ∨ op = 8 ∨ op = 9 ∨ op = 10 ∨ op = 11 ∨ op = 12 ∨ op = 13 ∨ op = 14 ∨ op = 15 ∨ op = 16 := by omega
  all_goals simp [eff] at h
  · rw [← h]; exact one _ (hi.push rfl)
  · obtain ⟨h1, rfl⟩ := opt_some h
    exact one _ (by simp at h0 h1 ⊢; omega)
  · rw [h]; exact none
  · rw [h]; exact none
  · obtain ⟨h1, rfl⟩ := opt_some h
    have := unG_range (op := a) t0
    exact one _ (by simp at this h1 ⊢; omega)
  · obtain ⟨h1, rfl⟩ := opt_some h
    have := binG_range (op := a) (b := tk.getD 1 0) t0
    exact one _ (by simp at this h1 ⊢; omega)
  · obtain ⟨_, rfl⟩ := whn_some h
    have := hi.conv rfl
    exact one _ (by dsimp only at this; omega)
  · obtain ⟨_, rfl⟩ := whn_some h
    exact one _ (sig_range _)
  · obtain ⟨_, rfl⟩ := whn_some h
    split
    · exact none
    · rename_i hne
      have hc := hi.call rfl
      dsimp only at hc
      have hm : fns.getD a.toNat fn0 ∈ fns := by
        have : a.toNat < fns.length := by omega
        rw [List.getD_eq_getElem?_getD, List.getElem?_eq_getElem this]
        exact List.getElem_mem this
      have := (hF _ hm).result
      simp only [List.getD_eq_getElem?_getD] at this hne ⊢
      exact one _ (by omega)
  · rw [h]; exact none
  · obtain ⟨_, rfl⟩ := whn_some h; exact none
  · obtain ⟨_, rfl⟩ := whn_some h; exact none
  · obtain ⟨_, rfl⟩ := whn_some h; exact none
  · obtain ⟨_, rfl⟩ := whn_some h; exact none
  · obtain ⟨_, rfl⟩ := whn_some h; exact none
  · rw [h]; exact none
theorem behind_st (fns : List Fn) (f : Fn) (p : Nat) (s : Sh) : (behind fns f p s).st ≠ 0 := by
  unfold behind
  split
  · split
    · simp [top]
    · split
      · simp
      · simp [top]
  · simp [top]
theorem behind_ok {fns : List Fn} {f : Fn} {p : Nat} {s : Sh} (hf : FnR fns f) (hF : ∀ g ∈ fns, FnR fns g) (hp : p < f.ins.length) (hs : OkSh f.S s) : OkSh f.S (behind fns f p s) := by
  have hm : f.ins.getD p in0 ∈ f.ins := by rw [List.getD_eq_getElem?_getD, List.getElem?_eq_getElem hp]; exact List.getElem_mem hp
  unfold behind
  generalize f.ins.getD p in0 = i at *
  have hi := hf.ins i hm
  split
  · rename_i hc
    rcases hs with rfl | rfl | ⟨s1, s2, s3, s4, s5⟩
    · exact absurd hc.1 (by simp [bot])
    · exact absurd hc.1 (by simp [top])
    · split
      · exact .inr (.inl rfl)
      · rename_i l hl
        split
        · rename_i h6
          have hr := eff_range hf hF hi s3 (fun x hx => s4 x (List.mem_of_mem_drop hx)) hl
          refine .inr (.inr ⟨rfl, ?_, ?_, ?_, ?_⟩)
          · dsimp only
            split
            · rw [List.length_set]; exact s2
            · exact s2
          · dsimp only
            split
            · rename_i h3
              intro x hx
              rcases List.mem_or_eq_of_mem_set hx with hx | rfl
              · exact s3 x hx
              · have hne : s.sk ≠ [] := fun e => by
                  have := hc.2.1
                  rw [e] at this
                  simp [takesN, h3] at this
                have := s4 (s.sk.getLastD 0) (by
                  cases hk : s.sk with
                  | nil => exact absurd hk hne
                  | cons a r => rw [List.getLastD_cons]; exact List.getLastD_mem_cons ..)
                omega
            · exact s3
          · intro x hx
            rcases List.mem_append.1 hx with hx | hx
            · exact s4 x (List.mem_of_mem_take hx)
            · exact hr.1 x hx
          · dsimp only
            rw [List.length_append, List.length_take]
            omega
        · exact .inr (.inl rfl)
  · exact .inr (.inl rfl)
theorem set_le {a b : List Int} (h : slLe a b) (k : Nat) (t : Int) : slLe (a.set k t) (b.set k t) := by
  refine ⟨by simp [h.1], fun i hi => ?_⟩
  rw [List.length_set] at hi
  simp only [List.getD_eq_getElem?_getD, List.getElem?_set]
  by_cases e : k = i
  · subst e
    have := h.1
    rw [if_pos rfl, if_pos rfl, if_pos hi, if_pos (by omega)]
    exact .inl rfl
  · rw [if_neg e, if_neg e, ← List.getD_eq_getElem?_getD, ← List.getD_eq_getElem?_getD]
    exact h.2 i hi
theorem eff_mono {fns : List Fn} {f : Fn} {i : In} {a b tk l : List Int} (h : slLe a b) (hi : InsR fns f i) (ha : a.length = f.S) (he : eff fns f i b tk = some l) : eff fns f i a tk = some l := by
  by_cases h2 : i.op = 2
  · have hs := hi.slot (.inl h2)
    unfold eff at he ⊢
    rw [if_neg (by omega), if_pos h2] at he ⊢
    obtain ⟨h3, rfl⟩ := opt_some he
    rcases h.2 i.a.toNat (by rw [ha]; unfold Fn.S; omega) with e | e
    · rw [← e]; exact he
    · exact absurd e h3
  · unfold eff at he ⊢
    rw [if_neg h2] at he ⊢
    exact he
theorem behind_mono {fns : List Fn} {f : Fn} {p : Nat} {a b : Sh} (hf : FnR fns f) (hp : p < f.ins.length) (ha : OkSh f.S a) (h : le a b) (h0 : a.st ≠ 0) : le (behind fns f p a) (behind fns f p b) := by
  have hm : f.ins.getD p in0 ∈ f.ins := by rw [List.getD_eq_getElem?_getD, List.getElem?_eq_getElem hp]; exact List.getElem_mem hp
  have hi := hf.ins _ hm
  rcases h with h | h | ⟨h1, h2, h3, h4⟩
  · exact absurd h h0
  · refine .inr (.inl ?_)
    unfold behind
    rw [if_neg (by omega)]
    rfl
  · have hal : a.sl.length = f.S := by
      rcases ha with rfl | rfl | ⟨_, h, _⟩
      · simp [bot] at h1
      · simp [top] at h1
      · exact h
    unfold behind
    generalize f.ins.getD p in0 = i at *
    rw [← h3]
    by_cases hc : takesN fns i ≤ a.sk.length ∧ ∀ g ∈ goes i p, g < f.ins.length
    · have c1 : a.st = 1 ∧ takesN fns i ≤ a.sk.length ∧ ∀ g ∈ goes i p, g < f.ins.length := ⟨h1, hc⟩
      have c2 : b.st = 1 ∧ takesN fns i ≤ a.sk.length ∧ ∀ g ∈ goes i p, g < f.ins.length := ⟨h2, hc⟩
      rw [if_pos c1, if_pos c2]
      cases hb : eff fns f i b.sl (a.sk.drop (a.sk.length - takesN fns i)) with
      | none => exact .inr (.inl rfl)
      | some l =>
        rw [eff_mono h4 hi hal hb]
        dsimp only
        split
        · refine .inr (.inr ⟨rfl, rfl, rfl, ?_⟩)
          dsimp only
          split
          · exact set_le h4 _ _
          · exact h4
        · exact .inr (.inl rfl)
    · have c2 : ¬ (b.st = 1 ∧ takesN fns i ≤ a.sk.length ∧ ∀ g ∈ goes i p, g < f.ins.length) := fun h => hc h.2
      rw [if_neg c2]
      exact .inr (.inl rfl)
/-- The shape with which a function begins. -/
def first (f : Fn) : Sh := ⟨1, f.params ++ List.replicate (f.S - f.params.length) 0, []⟩
theorem first_ok {fns : List Fn} {f : Fn} (hf : FnR fns f) : OkSh f.S (first f) := by
  refine .inr (.inr ⟨rfl, ?_, ?_, fun x hx => (nomatch hx), by simp [first]⟩)
  · have := hf.slots; simp [first, Fn.S]; omega
  · intro x hx
    rcases List.mem_append.1 hx with hx | hx
    · have := hf.params x hx; omega
    · have := List.eq_of_mem_replicate hx; omega
/-- Nothing goes on from place p that does not lie where it comes to. -/
def ClosedAt (fns : List Fn) (f : Fn) (A : Nat → Sh) (p : Nat) : Prop := (A p).st ≠ 0 → ∀ g ∈ goes (f.ins.getD p in0) p, g < f.ins.length → le (behind fns f p (A p)) (A g)
structure Closed (fns : List Fn) (f : Fn) (A : Nat → Sh) : Prop where
  ok : ∀ p, p < f.ins.length → OkSh f.S (A p)
  fst : le (first f) (A 0)
  go : ∀ p, p < f.ins.length → ClosedAt fns f A p
/-- It lies below all that are closed. -/
structure Low (fns : List Fn) (f : Fn) (A : Nat → Sh) : Prop where
  ok : ∀ p, p < f.ins.length → OkSh f.S (A p)
  low : ∀ F, Closed fns f F → ∀ p, p < f.ins.length → le (A p) (F p)
theorem least_unique {fns : List Fn} {f : Fn} {A B : Nat → Sh} (a : Closed fns f A) (la : Low fns f A) (b : Closed fns f B) (lb : Low fns f B) (p : Nat) (hp : p < f.ins.length) : A p = B p :=
  le_antisymm (a.ok p hp) (b.ok p hp) (la.low B b p hp) (lb.low A a p hp)
def upd (A : Nat → Sh) (g : Nat) (s : Sh) : Nat → Sh := fun q => if q = g then s else A q
/-- What comes to a place from another: it still lies below. -/
theorem Low.come {fns : List Fn} {f : Fn} {A : Nat → Sh} (h : Low fns f A) (hf : FnR fns f) (hF : ∀ g ∈ fns, FnR fns g) {p g : Nat} (hp : p < f.ins.length) (h0 : (A p).st ≠ 0) (hg : g ∈ goes (f.ins.getD p in0) p) (hgn : g < f.ins.length) : Low fns f (upd A g (join (A g) (behind fns f p (A p)))) := by
  have bo := behind_ok hf hF hp (h.ok p hp)
  have b0 := behind_st fns f p (A p)
  refine ⟨fun q hq => ?_, fun F hFc q hq => ?_⟩
  · unfold upd
    split
    · exact join_ok (h.ok g hgn) bo b0
    · exact h.ok q hq
  · unfold upd
    split
    · rename_i e
      subst e
      refine join_le (h.ok q hq) bo b0 (h.low F hFc q hq) ?_
      have hpF := h.low F hFc p hp
      have hF0 : (F p).st ≠ 0 := fun e => by
        rcases hpF with x | x | ⟨_, x, _⟩
        · exact h0 x
        · omega
        · omega
      exact le_trans (behind_mono hf hp (h.ok p hp) hpF h0) (hFc.go p hp hF0 q hg hq)
    · exact h.low F hFc q hq
/-- All that can still go up. -/
def tot (S : Nat) (A : Nat → Sh) : Nat → Nat
  | 0 => 0
  | n + 1 => tot S A n + hgt S (A n)
theorem tot_same {S : Nat} {A B : Nat → Sh} : ∀ n, (∀ q, q < n → A q = B q) → tot S A n = tot S B n
  | 0, _ => rfl
  | n + 1, h => by simp only [tot]; rw [tot_same n (fun q hq => h q (by omega)), h n (by omega)]
theorem tot_upd {S : Nat} {A : Nat → Sh} {g : Nat} {s : Sh} : ∀ n, g < n → hgt S s < hgt S (A g) → tot S (upd A g s) n < tot S A n
  | 0, h, _ => by omega
  | n + 1, h, hl => by
    simp only [tot]
    by_cases e : g = n
    · subst e
      rw [tot_same (B := A) g (fun q hq => by unfold upd; rw [if_neg (by omega)])]
      have : upd A g s g = s := by unfold upd; rw [if_pos rfl]
      rw [this]; omega
    · have := tot_upd (S := S) (A := A) (s := s) n (by omega) hl
      have e2 : upd A g s n = A n := by unfold upd; rw [if_neg (by omega)]
      rw [e2]; omega
/-- Where a join changes something the whole comes nearer to its end. -/
theorem tot_join {f : Fn} {A : Nat → Sh} (h : ∀ p, p < f.ins.length → OkSh f.S (A p)) {g : Nat} {b : Sh} (hg : g < f.ins.length) (hb : OkSh f.S b) (hb0 : b.st ≠ 0) (hne : ¬ join (A g) b = A g) : tot f.S (upd A g (join (A g) b)) f.ins.length < tot f.S A f.ins.length :=
  tot_upd _ hg (hgt_lt (h g hg) (join_ok (h g hg) hb hb0) (le_join_left (h g hg) hb hb0) (fun e => hne e.symm))
end Go.Proofs.YtfndbnbnimhnaaaGreatDoor.C
/-! What both sides have of types, and taking a number into one. -/
namespace Go.Proofs.YtfndbnbnimhnaaaGreatDoor.V
open Go.RowKit Go.Shelf
set_option maxRecDepth 20000
theorem ret_bool {a b : Bool} (h : a = b) : Ending.returned (.bool a) = .returned (.bool b) := by rw [h]
theorem ret_int {k : IntKind} {a b : Int} (h : a = b) : Ending.returned (.int k a) = .returned (.int k b) := by rw [h]
theorem hid {p : Prop} (h : p) : Hid p := h
set_option maxHeartbeats 400000 in
theorem l10Integer_any (t : Int) (w : World) :
    Calls Tryz.prog 109 #[.int .i64 t] w fun e w' => e = .returned (.bool (decide (3 ≤ t) && decide (t ≤ 10))) ∧ w' = w := by
  go_enter Tryz.func109, Tryz.ntmps109
  go_wp2
  all_goals go_ret
  all_goals exact ⟨ret_bool (by rw [Bool.eq_iff_iff]; simp; try omega), rfl⟩
set_option maxHeartbeats 400000 in
theorem millIsInteger_any (t : Int) (w : World) :
    Calls Tryz.prog 141 #[.int .i64 t] w fun e w' => e = .returned (.bool (decide (3 ≤ t) && decide (t ≤ 10))) ∧ w' = w := by
  go_enter Tryz.func141, Tryz.ntmps141
  go_wp2
  all_goals go_ret
  all_goals exact ⟨ret_bool (by rw [Bool.eq_iff_iff]; simp; try omega), rfl⟩
set_option maxHeartbeats 400000 in
theorem l10Signed_any (t : Int) (w : World) :
    Calls Tryz.prog 154 #[.int .i64 t] w fun e w' => e = .returned (.bool (decide (7 ≤ t) && decide (t ≤ 10))) ∧ w' = w := by
  go_enter Tryz.func154, Tryz.ntmps154
  go_wp2
  all_goals go_ret
  all_goals exact ⟨ret_bool (by rw [Bool.eq_iff_iff]; simp; try omega), rfl⟩
theorem typ8 {t : Int} (h1 : 3 ≤ t) (h2 : t ≤ 10) : t = 3 ∨ t = 4 ∨ t = 5 ∨ t = 6 ∨ t = 7 ∨ t = 8 ∨ t = 9 ∨ t = 10 := by omega
set_option maxHeartbeats 400000 in
theorem l10Bits_any (t : Int) (h1 : 3 ≤ t) (h2 : t ≤ 10) (w : World) :
    Calls Tryz.prog 153 #[.int .i64 t] w fun e w' => e = .returned (.int .i64 ((kT t).bits : Nat)) ∧ w' = w := by
  obtain rfl | rfl | rfl | rfl | rfl | rfl | rfl | rfl := typ8 h1 h2
  all_goals go_enter Tryz.func153, Tryz.ntmps153
  all_goals go_wp2
  all_goals go_ret
  all_goals exact ⟨rfl, rfl⟩
set_option maxHeartbeats 1000000 in
theorem l13Into_any (t x : Int) (h1 : 3 ≤ t) (h2 : t ≤ 10) (hx0 : 0 ≤ x) (hx : x ≤ 18446744073709551615) (w : World) :
    Calls Tryz.prog 137 #[.int .i64 t, .int .u64 x] w fun e w' => e = .returned (.int .i64 (into t x)) ∧ w' = w := by
  obtain rfl | rfl | rfl | rfl | rfl | rfl | rfl | rfl := typ8 h1 h2
  all_goals clear h1 h2
  all_goals go_enter Tryz.func137, Tryz.ntmps137
  all_goals go_wp2_with (first
    | (go_at_call 153; refine (l10Bits_any _ (by decide) (by decide) _).mono ?_; rintro e w' ⟨rfl, rfl⟩; simp only [kT3, kT4, kT5, kT6, kT7, kT8, kT9, kT10, IntKind.bits])
    | (go_at_call 154; refine (l10Signed_any _ _).mono ?_; rintro e w' ⟨rfl, rfl⟩; simp)
    | fail)
  all_goals go_ret
  all_goals exact ⟨ret_int (by simp [into, intoK, kT3, kT4, kT5, kT6, kT7, kT8, kT9, kT10, IntKind.wrap, IntKind.bits, IntKind.signed, wrap64]; try omega), rfl⟩
end Go.Proofs.YtfndbnbnimhnaaaGreatDoor.V
