import Derived.Test.YtcjgcipacfcjnaaGreatDoorChecked
import Derived.WalkKit
import Derived.WalkSpells
import Derived.WalkLawsBesides
import Derived.OwnWalk
import Derived.Deep.QuietTactic
import Derived.BigQuiet
import Derived.Lib.Bytealg
import Derived.Lib.Strings
import Derived.BigCall
import Derived.Lib.AppendStr
import Derived.Test.YtcjgcipacfcjnaaGreatDoorJ01
import Derived.Test.YtcjgcipacfcjnaaGreatDoorJ03
import Derived.Test.YtcjgcipacfcjnaaGreatDoorJ04
import Derived.Test.YtcjgcipacfcjnaaGreatDoorJ12
namespace Go.Proofs.YtcjgcipacfcjnaaGreatDoor.R
open Go.RowKit
set_option maxRecDepth 20000
theorem hid {p : Prop} (h : p) : Hid p := h
theorem ret_int {k : IntKind} {a b : Int} (h : a = b) : Ending.returned (.int k a) = .returned (.int k b) := by rw [h]
theorem add_block (a : Addr) (n : Nat) : (a.add n).block = a.block := by unfold Addr.add; split <;> rfl
theorem small {n : Nat} (h : n ≤ maxLen) : n ≤ 9223372036854775807 := by unfold maxLen at h; simpa using h
theorem lt_hp {W : World} {k : Nat} {o : Obj} (h : W.heap[k]? = some o) : k < W.heap.size := (Array.getElem?_eq_some_iff.1 h).1
theorem hp_next {W V : World} {g : Nat} {o : Obj} (h : W.heap[g]? = some o) (hb : Below W.heap.size W V) : V.heap[g]? = some o := (hb.block g (lt_hp h)).trans h
theorem row_room {W : World} {g i : Nat} {cur : Array Value} {t : TypeId} (h : W.heap[g]? = some (.cells cur t (0, 0))) (hi : i < cur.size) :
  (∃ v, W.cell? ⟨g, i, none⟩ = some v) ∧ W.frozen? ⟨g, i, none⟩ = false :=
 ⟨⟨cur[i], by unfold World.cell?; rw [h]; simp [hi]⟩, by unfold World.frozen?; rw [h]; simp⟩
theorem row_cell {W : World} {g : Nat} {cur : Array Value} {t : TypeId} (h : W.heap[g]? = some (.cells cur t (0, 0))) (i : Nat) : W.cell? ⟨g, i, none⟩ = cur[i]? := by
 unfold World.cell?
 rw [h]; rfl
theorem set_at {W : World} {g i : Nat} {cur : Array Value} {t : TypeId} (v : Value) (h : W.heap[g]? = some (.cells cur t (0, 0))) : (W.setCell ⟨g, i, none⟩ v).heap[g]? = some (.cells (cur.setIfInBounds i v) t (0, 0)) := by
 unfold World.setCell
 simp only [Array.getElem?_modify, h]
 simp
theorem set_other (W : World) (g j i : Nat) (v : Value) (h : ¬ i = g) : (W.setCell ⟨g, j, none⟩ v).heap[i]? = W.heap[i]? := by
 unfold World.setCell
 simp only [Array.getElem?_modify]
 rw [if_neg (fun e => h e.symm)]
theorem below_set {B : Nat} {w w' : World} (h : Below B w w') (g i : Nat) (hg : B ≤ g) (v : Value) : Below B w (w'.setCell ⟨g, i, none⟩ v) := h.setCell hg v
theorem below_two' (w : World) (a b : Obj) : Below w.heap.size w ((w.alloc a).alloc b) := ((Below.refl _ _).alloc (Nat.le_refl _) a).alloc (by simp) b
theorem below_drewN {B : Nat} {w w' : World} (h : Below B w w') (n : Nat) : Below B w (w'.drewN n) := by
 induction n with
 | zero => exact h
 | succ n ih => exact ih.drew
structure B1 (w : World) (o : Obj) (W : World) : Prop where
 lo : Below w.heap.size w W
 e : W.heap[w.heap.size]? = some o
theorem B1.start (w : World) (o : Obj) : B1 w o (w.alloc o) := ⟨(Below.refl _ _).alloc (Nat.le_refl _) _, heap_alloc_new _ _⟩
theorem B1.next {w W V : World} {o : Obj} (h : B1 w o W) (hb : Below W.heap.size W V) : B1 w o V := ⟨h.lo.trans (hb.mono h.lo.size), hp_next h.e hb⟩
structure B2 (w : World) (o p : Obj) (W : World) : Prop where
 lo : Below w.heap.size w W
 e : W.heap[w.heap.size]? = some o
 f : W.heap[w.heap.size + 1]? = some p
theorem B2.start (w : World) (o p : Obj) : B2 w o p ((w.alloc o).alloc p) := by
 refine ⟨below_two' _ _ _, ?_, ?_⟩
 ·rw [Below.heap_alloc _ _ _ (by simp)]
  exact heap_alloc_new w o
 ·have := heap_alloc_new (w.alloc o) p
  rwa [World.size_alloc] at this
theorem B2.next {w W V : World} {o p : Obj} (h : B2 w o p W) (hb : Below W.heap.size W V) : B2 w o p V := ⟨h.lo.trans (hb.mono h.lo.size), hp_next h.e hb, hp_next h.f hb⟩
structure B3 (w : World) (o : Obj) (R O : Array Value) (t : TypeId) (W : World) : Prop where
 lo : Below w.heap.size w W
 e : W.heap[w.heap.size]? = some o
 r : W.heap[w.heap.size + 1]? = some (.cells R t (0, 0))
 o : W.heap[w.heap.size + 1 + 1]? = some (.cells O t (0, 0))
theorem B3.start (w : World) (o : Obj) (R O : Array Value) (t : TypeId) : B3 w o R O t (((w.alloc o).alloc (.cells R t)).alloc (.cells O t)) := by
 have h := B2.start w o (.cells R t)
 refine ⟨h.lo.alloc (by simp; omega) _, ?_, ?_, ?_⟩
 ·rw [Below.heap_alloc _ _ _ (by simp; omega)]; exact h.e
 ·rw [Below.heap_alloc _ _ _ (by simp)]; exact h.f
 ·have := heap_alloc_new ((w.alloc o).alloc (.cells R t)) (.cells O t)
  rwa [World.size_alloc, World.size_alloc] at this
theorem B3.next {w W V : World} {o : Obj} {R O : Array Value} {t : TypeId} (h : B3 w o R O t W) (hb : Below W.heap.size W V) : B3 w o R O t V := ⟨h.lo.trans (hb.mono h.lo.size), hp_next h.e hb, hp_next h.r hb, hp_next h.o hb⟩
theorem B3.set {w W : World} {o : Obj} {R O : Array Value} {t : TypeId} (h : B3 w o R O t W) (i : Nat) (v : Value) : B3 w o R (O.setIfInBounds i v) t (W.setCell ⟨w.heap.size + 1 + 1, i, none⟩ v) :=
 ⟨below_set h.lo _ _ (by omega) _, (set_other _ _ _ _ _ (by omega)).trans h.e, (set_other _ _ _ _ _ (by omega)).trans h.r, set_at v h.o⟩
theorem B3.sz {w W : World} {o : Obj} {R O : Array Value} {t : TypeId} (h : B3 w o R O t W) : w.heap.size + 3 ≤ W.heap.size := lt_hp h.o
structure Gr (w : World) where
 W : World
 h : Below w.heap.size w W
theorem wp_region_gr {P : Program} {id : Nat} {Q : Exit → Act → World → Prop} {a : Act} {w : World} {l : List Oper} (hm : P.follows .mixedOrders = true) (hB : Region.lexB .any l.toArray = true)
  (h : wpQuiet P l.toArray (fun w' => ∃ p : Gr w, w' = p.W) (fun a' => ∀ w', (∃ p : Gr w, w' = p.W) → Q .normal a' w') l a) : (Code.region id l.toArray true).wp P Q a w :=
 wp_region_quiet (C := fun w' => ∃ p : Gr w, w' = p.W) hm hB ⟨⟨w.drew, (Below.refl _ _).drew⟩, rfl⟩ (by simpa using h)
theorem Calls.gr_of {P : Program} {f : FuncId} {args : Array Value} {w : World} {p : Gr w} {v : Value} (h : Below w.heap.size w p.W → Calls P f args p.W fun e w' => e = .returned v ∧ Below p.W.heap.size p.W w') :
  Calls P f args p.W fun e w'' => e = .returned v ∧ ∃ p : Gr w, w'' = p.W :=
 (h p.h).mono fun _ w' ⟨he, hb⟩ => ⟨he, ⟨w', p.h.trans (hb.mono p.h.size)⟩, rfl⟩
theorem info_parts {i : Option TypeInfo} {z : Value} {s b : Nat} (h : i.map (fun i => (i.zero, i.size, i.bytes)) = some (some z, s, b)) : ∃ j, i = some j ∧ j.zero = some z ∧ j.size = s ∧ j.bytes = b := by
 cases i with
 | none => cases h
 | some j => simp at h; exact ⟨j, rfl, h.1, h.2.1, h.2.2⟩
def IntA (W : World) (a : Addr) (x : Int) : Prop := W.cell? a = some (.int .i64 x)
theorem IntA.of {W V : World} {a : Addr} {x : Int} (h : IntA W a x) (hk : ∀ p : Addr, p.block = a.block → V.cell? p = W.cell? p) : IntA V a x := by
 exact (hk _ rfl).trans h
def SIntA (W : World) (v : Value) (l : List Int) : Prop := ∃ (ad : Option Addr) (c : Nat), v = .slice ad l.length c ∧ (l = [] ∨ ∃ a : Addr, ad = some a ∧ a.block < W.heap.size ∧ ∀ i, i < l.length → IntA W (a.add i) (l.getD i 0))
theorem SIntA.next {W V : World} {v : Value} {l : List Int} (h : SIntA W v l) (hb : Below W.heap.size W V) : SIntA V v l := by
 obtain ⟨ad, c, e, h1⟩ := h
 refine ⟨ad, c, e, ?_⟩
 rcases h1 with h1 | ⟨a, e1, e2, e3⟩
 ·exact .inl h1
 ·refine .inr ⟨a, e1, Nat.lt_of_lt_of_le e2 hb.size, fun i hi => ?_⟩
  exact (e3 i hi).of fun p hp => hb.cell (by rw [hp, add_block]; exact e2)
theorem SIntA.sl {W : World} {v : Value} {l : List Int} (h : SIntA W v l) : ∃ ad c, v = .slice ad l.length c := by
 obtain ⟨ad, c, e, _⟩ := h
 exact ⟨ad, c, e⟩
theorem SIntA.at {W : World} {v : Value} {l : List Int} (h : SIntA W v l) {i : Nat} (hi : i < l.length) : ∃ (a : Addr) (c : Nat), v = .slice (some a) l.length c ∧ a.block < W.heap.size ∧ IntA W (a.add i) (l.getD i 0) := by
 obtain ⟨ad, c, e, h1⟩ := h
 rcases h1 with h1 | ⟨a, e1, e2, e3⟩
 ·rw [h1] at hi; exact absurd hi (Nat.not_lt_zero _)
 ·subst e1
  exact ⟨a, c, e, e2, e3 i hi⟩
def SIntF (g : Nat) (W : World) (l : List Int) (j : Nat) : Prop := ∃ cur, W.heap[g]? = some (.cells cur 3 (0, 0)) ∧ cur.size = l.length * 1 ∧ ∀ i, i < j → cur[i]? = some (.int .i64 (l.getD i 0))
def SIntR (B : Nat) (W : World) (v : Value) (l : List Int) : Prop := ∃ g, v = .slice (some ⟨g, 0, none⟩) l.length l.length ∧ B ≤ g ∧ SIntF g W l l.length
theorem SIntF.keep {g : Nat} {W V : World} {l : List Int} {j : Nat} (h : SIntF g W l j) (hk : ∀ i, g ≤ i → i < W.heap.size → V.heap[i]? = W.heap[i]?) : SIntF g V l j := by
 obtain ⟨cur, h1, h2, h3⟩ := h
 exact ⟨cur, (hk g (Nat.le_refl _) (lt_hp h1)).trans h1, h2, h3⟩
theorem SIntR.keep {B : Nat} {W V : World} {v : Value} {l : List Int} (h : SIntR B W v l) (hk : ∀ i, B ≤ i → i < W.heap.size → V.heap[i]? = W.heap[i]?) : SIntR B V v l := by
 obtain ⟨g, e, hg, h1⟩ := h
 exact ⟨g, e, hg, h1.keep fun i hi hj => hk i (by omega) hj⟩
theorem SIntR.next {B : Nat} {W V : World} {v : Value} {l : List Int} (h : SIntR B W v l) (hb : Below W.heap.size W V) : SIntR B V v l := h.keep fun i _ hj => hb.block i hj
theorem SIntR.set {B : Nat} {W : World} {v : Value} {l : List Int} (h : SIntR B W v l) {b : Nat} (hb : b < B) (i : Nat) (u : Value) : SIntR B (W.setCell ⟨b, i, none⟩ u) v l := h.keep fun x hx _ => set_other _ _ _ _ _ (by omega)
theorem SIntR.mono {B B' : Nat} {W : World} {v : Value} {l : List Int} (h : SIntR B W v l) (hb : B' ≤ B) : SIntR B' W v l := by
 obtain ⟨g, e, hg, h1⟩ := h
 exact ⟨g, e, Nat.le_trans hb hg, h1⟩
theorem SIntR.sl {B : Nat} {W : World} {v : Value} {l : List Int} (h : SIntR B W v l) : ∃ g, v = .slice (some ⟨g, 0, none⟩) l.length l.length := by
 obtain ⟨g, e, _⟩ := h
 exact ⟨g, e⟩
theorem SIntR.at {B : Nat} {W : World} {v : Value} {l : List Int} (h : SIntR B W v l) {i : Nat} (hi : i < l.length) : ∃ g, v = .slice (some ⟨g, 0, none⟩) l.length l.length ∧ B ≤ g ∧ g < W.heap.size ∧ W.cell? ⟨g, i, none⟩ = some (.int .i64 (l.getD i 0)) := by
 obtain ⟨g, e, hg, cur, h1, h2, h3⟩ := h
 exact ⟨g, e, hg, lt_hp h1, (row_cell h1 _).trans (h3 i hi)⟩
theorem SIntF.step {g : Nat} {W : World} {l : List Int} {j : Nat} (h : SIntF g W l j) (hj : j < l.length) : SIntF g (W.setCell ⟨g, j, none⟩ (.int .i64 (l.getD j 0))) l (j + 1) := by
 obtain ⟨cur, h1, h2, h3⟩ := h
 refine ⟨_, (set_at (i := j) (.int .i64 (l.getD j 0)) h1), by simp [h2], fun i hi => ?_⟩
 by_cases hij : i = j
 ·subst hij
  exact (by rw [Array.getElem?_setIfInBounds_self_of_lt (by first | omega | (simp; omega))])
 ·exact (by rw [Array.getElem?_setIfInBounds_ne (by omega)]; exact h3 i (by omega))
theorem SIntF.lt {g : Nat} {W : World} {l : List Int} {j : Nat} (h : SIntF g W l j) : g < W.heap.size := by
 obtain ⟨cur, h1, _⟩ := h
 exact lt_hp h1
theorem SIntF.room {g : Nat} {W : World} {l : List Int} {j : Nat} (h : SIntF g W l j) {i : Nat} (hi : i < l.length * 1) : (∃ v, W.cell? ⟨g, i, none⟩ = some v) ∧ W.frozen? ⟨g, i, none⟩ = false := by
 obtain ⟨cur, h1, h2, _⟩ := h
 exact row_room h1 (by omega)
def InA (W : World) (a : Addr) (x : C.In) : Prop := W.cell? a = some (.int .i64 x.op) ∧ W.cell? ⟨a.block, a.off + 1, none⟩ = some (.int .i64 x.a) ∧ W.cell? ⟨a.block, a.off + 2, none⟩ = some (.int .i64 x.n) ∧ W.cell? ⟨a.block, a.off + 3, none⟩ = some (.string x.text)
theorem InA.of {W V : World} {a : Addr} {x : C.In} (h : InA W a x) (hk : ∀ p : Addr, p.block = a.block → V.cell? p = W.cell? p) : InA V a x := by
 obtain ⟨h0, h1, h2, h3⟩ := h
 exact ⟨(hk _ rfl).trans h0, (hk ⟨_, _, none⟩ rfl).trans h1, (hk ⟨_, _, none⟩ rfl).trans h2, (hk ⟨_, _, none⟩ rfl).trans h3⟩
def SInA (W : World) (v : Value) (l : List C.In) : Prop := ∃ (ad : Option Addr) (c : Nat), v = .slice ad l.length c ∧ (l = [] ∨ ∃ a : Addr, ad = some a ∧ a.block < W.heap.size ∧ ∀ i, i < l.length → InA W (a.add (i * 4)) (l.getD i C.in0))
theorem SInA.next {W V : World} {v : Value} {l : List C.In} (h : SInA W v l) (hb : Below W.heap.size W V) : SInA V v l := by
 obtain ⟨ad, c, e, h1⟩ := h
 refine ⟨ad, c, e, ?_⟩
 rcases h1 with h1 | ⟨a, e1, e2, e3⟩
 ·exact .inl h1
 ·refine .inr ⟨a, e1, Nat.lt_of_lt_of_le e2 hb.size, fun i hi => ?_⟩
  exact (e3 i hi).of fun p hp => hb.cell (by rw [hp, add_block]; exact e2)
theorem SInA.sl {W : World} {v : Value} {l : List C.In} (h : SInA W v l) : ∃ ad c, v = .slice ad l.length c := by
 obtain ⟨ad, c, e, _⟩ := h
 exact ⟨ad, c, e⟩
theorem SInA.at {W : World} {v : Value} {l : List C.In} (h : SInA W v l) {i : Nat} (hi : i < l.length) : ∃ (a : Addr) (c : Nat), v = .slice (some a) l.length c ∧ a.block < W.heap.size ∧ InA W (a.add (i * 4)) (l.getD i C.in0) := by
 obtain ⟨ad, c, e, h1⟩ := h
 rcases h1 with h1 | ⟨a, e1, e2, e3⟩
 ·rw [h1] at hi; exact absurd hi (Nat.not_lt_zero _)
 ·subst e1
  exact ⟨a, c, e, e2, e3 i hi⟩
def SInF (g : Nat) (W : World) (l : List C.In) (j : Nat) : Prop := ∃ cur, W.heap[g]? = some (.cells cur 84 (0, 0)) ∧ cur.size = l.length * 4 ∧ ∀ i, i < j → cur[i * 4]? = some (.int .i64 (l.getD i C.in0).op) ∧ cur[i * 4 + 1]? = some (.int .i64 (l.getD i C.in0).a) ∧ cur[i * 4 + 2]? = some (.int .i64 (l.getD i C.in0).n) ∧ cur[i * 4 + 3]? = some (.string (l.getD i C.in0).text)
def SInR (B : Nat) (W : World) (v : Value) (l : List C.In) : Prop := ∃ g, v = .slice (some ⟨g, 0, none⟩) l.length l.length ∧ B ≤ g ∧ SInF g W l l.length
theorem SInF.keep {g : Nat} {W V : World} {l : List C.In} {j : Nat} (h : SInF g W l j) (hk : ∀ i, g ≤ i → i < W.heap.size → V.heap[i]? = W.heap[i]?) : SInF g V l j := by
 obtain ⟨cur, h1, h2, h3⟩ := h
 exact ⟨cur, (hk g (Nat.le_refl _) (lt_hp h1)).trans h1, h2, h3⟩
theorem SInR.keep {B : Nat} {W V : World} {v : Value} {l : List C.In} (h : SInR B W v l) (hk : ∀ i, B ≤ i → i < W.heap.size → V.heap[i]? = W.heap[i]?) : SInR B V v l := by
 obtain ⟨g, e, hg, h1⟩ := h
 exact ⟨g, e, hg, h1.keep fun i hi hj => hk i (by omega) hj⟩
theorem SInR.next {B : Nat} {W V : World} {v : Value} {l : List C.In} (h : SInR B W v l) (hb : Below W.heap.size W V) : SInR B V v l := h.keep fun i _ hj => hb.block i hj
theorem SInR.set {B : Nat} {W : World} {v : Value} {l : List C.In} (h : SInR B W v l) {b : Nat} (hb : b < B) (i : Nat) (u : Value) : SInR B (W.setCell ⟨b, i, none⟩ u) v l := h.keep fun x hx _ => set_other _ _ _ _ _ (by omega)
theorem SInR.mono {B B' : Nat} {W : World} {v : Value} {l : List C.In} (h : SInR B W v l) (hb : B' ≤ B) : SInR B' W v l := by
 obtain ⟨g, e, hg, h1⟩ := h
 exact ⟨g, e, Nat.le_trans hb hg, h1⟩
theorem SInR.sl {B : Nat} {W : World} {v : Value} {l : List C.In} (h : SInR B W v l) : ∃ g, v = .slice (some ⟨g, 0, none⟩) l.length l.length := by
 obtain ⟨g, e, _⟩ := h
 exact ⟨g, e⟩
theorem SInR.at {B : Nat} {W : World} {v : Value} {l : List C.In} (h : SInR B W v l) {i : Nat} (hi : i < l.length) : ∃ g, v = .slice (some ⟨g, 0, none⟩) l.length l.length ∧ B ≤ g ∧ g < W.heap.size ∧ W.cell? ⟨g, i * 4, none⟩ = some (.int .i64 (l.getD i C.in0).op) ∧ W.cell? ⟨g, i * 4 + 1, none⟩ = some (.int .i64 (l.getD i C.in0).a) ∧ W.cell? ⟨g, i * 4 + 2, none⟩ = some (.int .i64 (l.getD i C.in0).n) ∧ W.cell? ⟨g, i * 4 + 3, none⟩ = some (.string (l.getD i C.in0).text) := by
 obtain ⟨g, e, hg, cur, h1, h2, h3⟩ := h
 obtain ⟨d0, d1, d2, d3⟩ := h3 i hi
 exact ⟨g, e, hg, lt_hp h1, (row_cell h1 _).trans d0, (row_cell h1 _).trans d1, (row_cell h1 _).trans d2, (row_cell h1 _).trans d3⟩
theorem SInF.step {g : Nat} {W : World} {l : List C.In} {j : Nat} (h : SInF g W l j) (hj : j < l.length) : SInF g ((((W.setCell ⟨g, j * 4, none⟩ (.int .i64 (l.getD j C.in0).op)).setCell ⟨g, j * 4 + 1, none⟩ (.int .i64 (l.getD j C.in0).a)).setCell ⟨g, j * 4 + 2, none⟩ (.int .i64 (l.getD j C.in0).n)).setCell ⟨g, j * 4 + 3, none⟩ (.string (l.getD j C.in0).text)) l (j + 1) := by
 obtain ⟨cur, h1, h2, h3⟩ := h
 refine ⟨_, (set_at (i := j * 4 + 3) (.string (l.getD j C.in0).text) (set_at (i := j * 4 + 2) (.int .i64 (l.getD j C.in0).n) (set_at (i := j * 4 + 1) (.int .i64 (l.getD j C.in0).a) (set_at (i := j * 4) (.int .i64 (l.getD j C.in0).op) h1)))), by simp [h2], fun i hi => ?_⟩
 by_cases hij : i = j
 ·subst hij
  exact ⟨(by rw [Array.getElem?_setIfInBounds_ne (by omega), Array.getElem?_setIfInBounds_ne (by omega), Array.getElem?_setIfInBounds_ne (by omega), Array.getElem?_setIfInBounds_self_of_lt (by first | omega | (simp; omega))]), (by rw [Array.getElem?_setIfInBounds_ne (by omega), Array.getElem?_setIfInBounds_ne (by omega), Array.getElem?_setIfInBounds_self_of_lt (by first | omega | (simp; omega))]), (by rw [Array.getElem?_setIfInBounds_ne (by omega), Array.getElem?_setIfInBounds_self_of_lt (by first | omega | (simp; omega))]), (by rw [Array.getElem?_setIfInBounds_self_of_lt (by first | omega | (simp; omega))])⟩
 ·obtain ⟨d0, d1, d2, d3⟩ := h3 i (by omega)
  exact ⟨(by rw [Array.getElem?_setIfInBounds_ne (by omega), Array.getElem?_setIfInBounds_ne (by omega), Array.getElem?_setIfInBounds_ne (by omega), Array.getElem?_setIfInBounds_ne (by omega)]; exact d0), (by rw [Array.getElem?_setIfInBounds_ne (by omega), Array.getElem?_setIfInBounds_ne (by omega), Array.getElem?_setIfInBounds_ne (by omega), Array.getElem?_setIfInBounds_ne (by omega)]; exact d1), (by rw [Array.getElem?_setIfInBounds_ne (by omega), Array.getElem?_setIfInBounds_ne (by omega), Array.getElem?_setIfInBounds_ne (by omega), Array.getElem?_setIfInBounds_ne (by omega)]; exact d2), (by rw [Array.getElem?_setIfInBounds_ne (by omega), Array.getElem?_setIfInBounds_ne (by omega), Array.getElem?_setIfInBounds_ne (by omega), Array.getElem?_setIfInBounds_ne (by omega)]; exact d3)⟩
theorem SInF.lt {g : Nat} {W : World} {l : List C.In} {j : Nat} (h : SInF g W l j) : g < W.heap.size := by
 obtain ⟨cur, h1, _⟩ := h
 exact lt_hp h1
theorem SInF.room {g : Nat} {W : World} {l : List C.In} {j : Nat} (h : SInF g W l j) {i : Nat} (hi : i < l.length * 4) : (∃ v, W.cell? ⟨g, i, none⟩ = some v) ∧ W.frozen? ⟨g, i, none⟩ = false := by
 obtain ⟨cur, h1, h2, _⟩ := h
 exact row_room h1 (by omega)
def wIn (x : C.In) : Nat := x.text.size
def LoIn (x : C.In) : Prop := x = x
def wSIn (l : List C.In) : Nat → Nat
 | 0 => 0
 | n + 1 => wSIn l n + 1 + wIn (l.getD n C.in0)
theorem wSIn_ge (l : List C.In) (n : Nat) : n ≤ wSIn l n := by
 induction n with
 | zero => exact Nat.le_refl _
 | succ n ih => simp only [wSIn]; omega
theorem wSIn_mono (l : List C.In) {j n : Nat} (h : j ≤ n) : wSIn l j ≤ wSIn l n := by
 induction h with
 | refl => exact Nat.le_refl _
 | step _ ih => simp only [wSIn]; omega
theorem wSIn_at (l : List C.In) {n m : Nat} (h : n < m) : wSIn l n + 1 + wIn (l.getD n C.in0) ≤ wSIn l m := wSIn_mono l (Nat.succ_le_of_lt h)
def LoInS (l : List C.In) : Prop := l.length ≤ 1048576 ∧ ∀ i, i < l.length → LoIn (l.getD i C.in0)
theorem loIn_of {x : C.In} (_h : wIn x ≤ 1048576) : LoIn x := rfl
theorem loInS_of {l : List C.In} (h : wSIn l l.length ≤ 1048576) : LoInS l := ⟨Nat.le_trans (wSIn_ge l _) h, fun i hi => loIn_of (by have := wSIn_at l hi; omega)⟩
def FnA (W : World) (a : Addr) (x : C.Fn) (v0 v1 : Value) : Prop := W.cell? a = some (.string x.name) ∧ W.cell? ⟨a.block, a.off + 1, none⟩ = some (v0) ∧ W.cell? ⟨a.block, a.off + 2, none⟩ = some (.int .i64 x.result) ∧ W.cell? ⟨a.block, a.off + 3, none⟩ = some (.int .i64 x.slots) ∧ W.cell? ⟨a.block, a.off + 4, none⟩ = some (v1)
theorem FnA.of {W V : World} {a : Addr} {x : C.Fn} {v0 v1 : Value} (h : FnA W a x v0 v1) (hk : ∀ p : Addr, p.block = a.block → V.cell? p = W.cell? p) : FnA V a x v0 v1 := by
 obtain ⟨h0, h1, h2, h3, h4⟩ := h
 exact ⟨(hk _ rfl).trans h0, (hk ⟨_, _, none⟩ rfl).trans h1, (hk ⟨_, _, none⟩ rfl).trans h2, (hk ⟨_, _, none⟩ rfl).trans h3, (hk ⟨_, _, none⟩ rfl).trans h4⟩
def SFnA (W : World) (v : Value) (l : List C.Fn) : Prop := ∃ (ad : Option Addr) (c : Nat), v = .slice ad l.length c ∧ (l = [] ∨ ∃ a : Addr, ad = some a ∧ a.block < W.heap.size ∧ ∀ i, i < l.length → ∃ v0 v1, FnA W (a.add (i * 5)) (l.getD i C.fn0) v0 v1 ∧ SIntA W v0 (l.getD i C.fn0).params ∧ SInA W v1 (l.getD i C.fn0).ins)
theorem SFnA.next {W V : World} {v : Value} {l : List C.Fn} (h : SFnA W v l) (hb : Below W.heap.size W V) : SFnA V v l := by
 obtain ⟨ad, c, e, h1⟩ := h
 refine ⟨ad, c, e, ?_⟩
 rcases h1 with h1 | ⟨a, e1, e2, e3⟩
 ·exact .inl h1
 ·refine .inr ⟨a, e1, Nat.lt_of_lt_of_le e2 hb.size, fun i hi => ?_⟩
  obtain ⟨v0, v1, c0, r0, r1⟩ := e3 i hi
  exact ⟨v0, v1, c0.of fun p hp => hb.cell (by rw [hp, add_block]; exact e2), r0.next hb, r1.next hb⟩
theorem SFnA.sl {W : World} {v : Value} {l : List C.Fn} (h : SFnA W v l) : ∃ ad c, v = .slice ad l.length c := by
 obtain ⟨ad, c, e, _⟩ := h
 exact ⟨ad, c, e⟩
theorem SFnA.at {W : World} {v : Value} {l : List C.Fn} (h : SFnA W v l) {i : Nat} (hi : i < l.length) : ∃ (a : Addr) (c : Nat), v = .slice (some a) l.length c ∧ a.block < W.heap.size ∧ ∃ v0 v1, FnA W (a.add (i * 5)) (l.getD i C.fn0) v0 v1 ∧ SIntA W v0 (l.getD i C.fn0).params ∧ SInA W v1 (l.getD i C.fn0).ins := by
 obtain ⟨ad, c, e, h1⟩ := h
 rcases h1 with h1 | ⟨a, e1, e2, e3⟩
 ·rw [h1] at hi; exact absurd hi (Nat.not_lt_zero _)
 ·subst e1
  exact ⟨a, c, e, e2, e3 i hi⟩
def SFnF (g : Nat) (W : World) (l : List C.Fn) (j : Nat) : Prop := ∃ cur, W.heap[g]? = some (.cells cur 57 (0, 0)) ∧ cur.size = l.length * 5 ∧ ∀ i, i < j → ∃ v0 v1, cur[i * 5]? = some (.string (l.getD i C.fn0).name) ∧ cur[i * 5 + 1]? = some (v0) ∧ cur[i * 5 + 2]? = some (.int .i64 (l.getD i C.fn0).result) ∧ cur[i * 5 + 3]? = some (.int .i64 (l.getD i C.fn0).slots) ∧ cur[i * 5 + 4]? = some (v1) ∧ SIntR (g + 1) W v0 (l.getD i C.fn0).params ∧ SInR (g + 1) W v1 (l.getD i C.fn0).ins
def SFnR (B : Nat) (W : World) (v : Value) (l : List C.Fn) : Prop := ∃ g, v = .slice (some ⟨g, 0, none⟩) l.length l.length ∧ B ≤ g ∧ SFnF g W l l.length
theorem SFnF.keep {g : Nat} {W V : World} {l : List C.Fn} {j : Nat} (h : SFnF g W l j) (hk : ∀ i, g ≤ i → i < W.heap.size → V.heap[i]? = W.heap[i]?) : SFnF g V l j := by
 obtain ⟨cur, h1, h2, h3⟩ := h
 refine ⟨cur, (hk g (Nat.le_refl _) (lt_hp h1)).trans h1, h2, fun i hi => ?_⟩
 obtain ⟨v0, v1, d0, d1, d2, d3, d4, r0, r1⟩ := h3 i hi
 exact ⟨v0, v1, d0, d1, d2, d3, d4, r0.keep fun x hx hy => hk x (by omega) hy, r1.keep fun x hx hy => hk x (by omega) hy⟩
theorem SFnR.keep {B : Nat} {W V : World} {v : Value} {l : List C.Fn} (h : SFnR B W v l) (hk : ∀ i, B ≤ i → i < W.heap.size → V.heap[i]? = W.heap[i]?) : SFnR B V v l := by
 obtain ⟨g, e, hg, h1⟩ := h
 exact ⟨g, e, hg, h1.keep fun i hi hj => hk i (by omega) hj⟩
theorem SFnR.next {B : Nat} {W V : World} {v : Value} {l : List C.Fn} (h : SFnR B W v l) (hb : Below W.heap.size W V) : SFnR B V v l := h.keep fun i _ hj => hb.block i hj
theorem SFnR.set {B : Nat} {W : World} {v : Value} {l : List C.Fn} (h : SFnR B W v l) {b : Nat} (hb : b < B) (i : Nat) (u : Value) : SFnR B (W.setCell ⟨b, i, none⟩ u) v l := h.keep fun x hx _ => set_other _ _ _ _ _ (by omega)
theorem SFnR.mono {B B' : Nat} {W : World} {v : Value} {l : List C.Fn} (h : SFnR B W v l) (hb : B' ≤ B) : SFnR B' W v l := by
 obtain ⟨g, e, hg, h1⟩ := h
 exact ⟨g, e, Nat.le_trans hb hg, h1⟩
theorem SFnR.sl {B : Nat} {W : World} {v : Value} {l : List C.Fn} (h : SFnR B W v l) : ∃ g, v = .slice (some ⟨g, 0, none⟩) l.length l.length := by
 obtain ⟨g, e, _⟩ := h
 exact ⟨g, e⟩
theorem SFnR.at {B : Nat} {W : World} {v : Value} {l : List C.Fn} (h : SFnR B W v l) {i : Nat} (hi : i < l.length) : ∃ g, v = .slice (some ⟨g, 0, none⟩) l.length l.length ∧ B ≤ g ∧ g < W.heap.size ∧ ∃ v0 v1, W.cell? ⟨g, i * 5, none⟩ = some (.string (l.getD i C.fn0).name) ∧ W.cell? ⟨g, i * 5 + 1, none⟩ = some (v0) ∧ W.cell? ⟨g, i * 5 + 2, none⟩ = some (.int .i64 (l.getD i C.fn0).result) ∧ W.cell? ⟨g, i * 5 + 3, none⟩ = some (.int .i64 (l.getD i C.fn0).slots) ∧ W.cell? ⟨g, i * 5 + 4, none⟩ = some (v1) ∧ SIntR (g + 1) W v0 (l.getD i C.fn0).params ∧ SInR (g + 1) W v1 (l.getD i C.fn0).ins := by
 obtain ⟨g, e, hg, cur, h1, h2, h3⟩ := h
 obtain ⟨v0, v1, d0, d1, d2, d3, d4, r0, r1⟩ := h3 i hi
 exact ⟨g, e, hg, lt_hp h1, v0, v1, (row_cell h1 _).trans d0, (row_cell h1 _).trans d1, (row_cell h1 _).trans d2, (row_cell h1 _).trans d3, (row_cell h1 _).trans d4, r0, r1⟩
theorem SFnF.step {g : Nat} {W : World} {l : List C.Fn} {j : Nat} (h : SFnF g W l j) (hj : j < l.length) {u0 : Value} {u1 : Value} (k0 : SIntR (g + 1) W u0 (l.getD j C.fn0).params) (k1 : SInR (g + 1) W u1 (l.getD j C.fn0).ins) : SFnF g (((((W.setCell ⟨g, j * 5, none⟩ (.string (l.getD j C.fn0).name)).setCell ⟨g, j * 5 + 1, none⟩ u0).setCell ⟨g, j * 5 + 2, none⟩ (.int .i64 (l.getD j C.fn0).result)).setCell ⟨g, j * 5 + 3, none⟩ (.int .i64 (l.getD j C.fn0).slots)).setCell ⟨g, j * 5 + 4, none⟩ u1) l (j + 1) := by
 obtain ⟨cur, h1, h2, h3⟩ := h
 refine ⟨_, (set_at (i := j * 5 + 4) u1 (set_at (i := j * 5 + 3) (.int .i64 (l.getD j C.fn0).slots) (set_at (i := j * 5 + 2) (.int .i64 (l.getD j C.fn0).result) (set_at (i := j * 5 + 1) u0 (set_at (i := j * 5) (.string (l.getD j C.fn0).name) h1))))), by simp [h2], fun i hi => ?_⟩
 by_cases hij : i = j
 ·subst hij
  exact ⟨u0, u1, (by rw [Array.getElem?_setIfInBounds_ne (by omega), Array.getElem?_setIfInBounds_ne (by omega), Array.getElem?_setIfInBounds_ne (by omega), Array.getElem?_setIfInBounds_ne (by omega), Array.getElem?_setIfInBounds_self_of_lt (by first | omega | (simp; omega))]), (by rw [Array.getElem?_setIfInBounds_ne (by omega), Array.getElem?_setIfInBounds_ne (by omega), Array.getElem?_setIfInBounds_ne (by omega), Array.getElem?_setIfInBounds_self_of_lt (by first | omega | (simp; omega))]), (by rw [Array.getElem?_setIfInBounds_ne (by omega), Array.getElem?_setIfInBounds_ne (by omega), Array.getElem?_setIfInBounds_self_of_lt (by first | omega | (simp; omega))]), (by rw [Array.getElem?_setIfInBounds_ne (by omega), Array.getElem?_setIfInBounds_self_of_lt (by first | omega | (simp; omega))]), (by rw [Array.getElem?_setIfInBounds_self_of_lt (by first | omega | (simp; omega))]), (((((k0.set (by omega) _ _).set (by omega) _ _).set (by omega) _ _).set (by omega) _ _).set (by omega) _ _), (((((k1.set (by omega) _ _).set (by omega) _ _).set (by omega) _ _).set (by omega) _ _).set (by omega) _ _)⟩
 ·obtain ⟨v0, v1, d0, d1, d2, d3, d4, r0, r1⟩ := h3 i (by omega)
  exact ⟨v0, v1, (by rw [Array.getElem?_setIfInBounds_ne (by omega), Array.getElem?_setIfInBounds_ne (by omega), Array.getElem?_setIfInBounds_ne (by omega), Array.getElem?_setIfInBounds_ne (by omega), Array.getElem?_setIfInBounds_ne (by omega)]; exact d0), (by rw [Array.getElem?_setIfInBounds_ne (by omega), Array.getElem?_setIfInBounds_ne (by omega), Array.getElem?_setIfInBounds_ne (by omega), Array.getElem?_setIfInBounds_ne (by omega), Array.getElem?_setIfInBounds_ne (by omega)]; exact d1), (by rw [Array.getElem?_setIfInBounds_ne (by omega), Array.getElem?_setIfInBounds_ne (by omega), Array.getElem?_setIfInBounds_ne (by omega), Array.getElem?_setIfInBounds_ne (by omega), Array.getElem?_setIfInBounds_ne (by omega)]; exact d2), (by rw [Array.getElem?_setIfInBounds_ne (by omega), Array.getElem?_setIfInBounds_ne (by omega), Array.getElem?_setIfInBounds_ne (by omega), Array.getElem?_setIfInBounds_ne (by omega), Array.getElem?_setIfInBounds_ne (by omega)]; exact d3), (by rw [Array.getElem?_setIfInBounds_ne (by omega), Array.getElem?_setIfInBounds_ne (by omega), Array.getElem?_setIfInBounds_ne (by omega), Array.getElem?_setIfInBounds_ne (by omega), Array.getElem?_setIfInBounds_ne (by omega)]; exact d4), (((((r0.set (by omega) _ _).set (by omega) _ _).set (by omega) _ _).set (by omega) _ _).set (by omega) _ _), (((((r1.set (by omega) _ _).set (by omega) _ _).set (by omega) _ _).set (by omega) _ _).set (by omega) _ _)⟩
theorem SFnF.lt {g : Nat} {W : World} {l : List C.Fn} {j : Nat} (h : SFnF g W l j) : g < W.heap.size := by
 obtain ⟨cur, h1, _⟩ := h
 exact lt_hp h1
theorem SFnF.room {g : Nat} {W : World} {l : List C.Fn} {j : Nat} (h : SFnF g W l j) {i : Nat} (hi : i < l.length * 5) : (∃ v, W.cell? ⟨g, i, none⟩ = some v) ∧ W.frozen? ⟨g, i, none⟩ = false := by
 obtain ⟨cur, h1, h2, _⟩ := h
 exact row_room h1 (by omega)
def wFn (x : C.Fn) : Nat := x.name.size + x.params.length + wSIn x.ins x.ins.length
def LoFn (x : C.Fn) : Prop := x.params.length ≤ 1048576 ∧ LoInS x.ins
def wSFn (l : List C.Fn) : Nat → Nat
 | 0 => 0
 | n + 1 => wSFn l n + 1 + wFn (l.getD n C.fn0)
theorem wSFn_ge (l : List C.Fn) (n : Nat) : n ≤ wSFn l n := by
 induction n with
 | zero => exact Nat.le_refl _
 | succ n ih => simp only [wSFn]; omega
theorem wSFn_mono (l : List C.Fn) {j n : Nat} (h : j ≤ n) : wSFn l j ≤ wSFn l n := by
 induction h with
 | refl => exact Nat.le_refl _
 | step _ ih => simp only [wSFn]; omega
theorem wSFn_at (l : List C.Fn) {n m : Nat} (h : n < m) : wSFn l n + 1 + wFn (l.getD n C.fn0) ≤ wSFn l m := wSFn_mono l (Nat.succ_le_of_lt h)
def LoFnS (l : List C.Fn) : Prop := l.length ≤ 1048576 ∧ ∀ i, i < l.length → LoFn (l.getD i C.fn0)
theorem loFn_of {x : C.Fn} (h : wFn x ≤ 1048576) : LoFn x := by
 simp only [wFn] at h
 exact ⟨by omega, loInS_of (by omega)⟩
theorem loFnS_of {l : List C.Fn} (h : wSFn l l.length ≤ 1048576) : LoFnS l := ⟨Nat.le_trans (wSFn_ge l _) h, fun i hi => loFn_of (by have := wSFn_at l hi; omega)⟩
structure Cd where
 fns : List C.Fn
def LoCd (x : Cd) : Prop := LoFnS x.fns
end Go.Proofs.YtcjgcipacfcjnaaGreatDoor.R
namespace Go.Proofs.YtcjgcipacfcjnaaGreatDoor.C
open Go.RowKit
set_option maxRecDepth 20000
def kb (x : Int) : UInt8 := UInt8.ofNat x.toNat
def kt (l : List Int) : ByteArray := ⟨(l.map kb).toArray⟩
def Ok10 (l : List Int) : Prop := ∀ x ∈ l, 0 ≤ x ∧ x ≤ 10
theorem kb_nat {x : Int} (h : 0 ≤ x ∧ x ≤ 10) : ((kb x).toNat : Int) = x := by
 unfold kb
 have : (UInt8.ofNat x.toNat).toNat = x.toNat := by simp; omega
 rw [this]; omega
theorem kt_size (l : List Int) : (kt l).size = l.length := by simp [kt, ByteArray.size]
theorem kt_nil : kt [] = ⟨#[]⟩ := rfl
theorem kt_data (l : List Int) : (kt l).data.toList = l.map kb := by simp [kt]
theorem kt_get {l : List Int} (h : Ok10 l) {i : Nat} (hi : i < (kt l).size) : (((kt l)[i]).toNat : Int) = l.getD i 0 := by
 have hi2 : i < l.length := by rw [← kt_size]; exact hi
 have e : (kt l)[i] = kb l[i] := by
  show (kt l).data[i]'_ = _
  simp [kt]
 rw [e, kb_nat (h _ (List.getElem_mem hi2)), List.getD_eq_getElem?_getD, List.getElem?_eq_getElem hi2]
 rfl
theorem kb_inj {x y : Int} (hx : 0 ≤ x ∧ x ≤ 10) (hy : 0 ≤ y ∧ y ≤ 10) (h : kb x = kb y) : x = y := by
 have := kb_nat hx
 rw [h, kb_nat hy] at this
 exact this.symm
theorem kt_inj : ∀ {a b : List Int}, Ok10 a → Ok10 b → kt a = kt b → a = b := by
 intro a b ha hb h
 have e : a.map kb = b.map kb := by rw [← kt_data, ← kt_data, h]
 clear h
 induction a generalizing b with
 | nil =>
  cases b with
  | nil => rfl
  | cons y b => simp at e
 | cons x a ih =>
  cases b with
  | nil => simp at e
  | cons y b =>
   simp only [List.map_cons, List.cons.injEq] at e
   rw [kb_inj (ha x (by simp)) (hb y (by simp)) e.1, ih (fun z hz => ha z (by simp [hz])) (fun z hz => hb z (by simp [hz])) e.2]
theorem ba_ext {a b : ByteArray} (h : a.data.toList = b.data.toList) : a = b := by
 apply ByteArray.ext
 exact Array.ext' h
theorem kt_append (a b : List Int) : kt (a ++ b) = kt a ++ kt b := by
 apply ba_ext
 rw [kt_data]
 simp [kt_data, ByteArray.data_append]
theorem kt_take (l : List Int) (j : Nat) : (kt l).extract 0 j = kt (l.take j) := by
 apply ba_ext
 rw [kt_data, ByteArray.data_extract]
 simp [kt_data, List.map_take]
theorem kt_drop (l : List Int) (i : Nat) : (kt l).extract i (kt l).size = kt (l.drop i) := by
 apply ba_ext
 rw [kt_data, ByteArray.data_extract, kt_size]
 simp [kt_data, List.map_drop]
 rw [List.take_of_length_le (by simp)]
def lv (s : Sh) : Value := .agg #[.int .i64 (s.st : Nat), .string (kt s.sl), .string (kt s.sk)]
theorem ok_sl {S : Nat} {s : Sh} (h : OkSh S s) : Ok10 s.sl ∧ Ok10 s.sk := by
 rcases h with rfl | rfl | ⟨_, _, h1, h2, _⟩
 ·exact ⟨fun x hx => (nomatch hx), fun x hx => (nomatch hx)⟩
 ·exact ⟨fun x hx => (nomatch hx), fun x hx => (nomatch hx)⟩
 ·exact ⟨h1, fun x hx => by have := h2 x hx; omega⟩
theorem ok_len {S : Nat} {s : Sh} (h : OkSh S s) : s.sl.length ≤ S ∧ s.sk.length ≤ 600 := by
 rcases h with rfl | rfl | ⟨_, h1, _, _, h2⟩
 ·exact ⟨Nat.zero_le _, Nat.zero_le _⟩
 ·exact ⟨Nat.zero_le _, Nat.zero_le _⟩
 ·exact ⟨by omega, h2⟩
theorem lv_inj {S : Nat} {a b : Sh} (ha : OkSh S a) (hb : OkSh S b) : (a.st = b.st ∧ kt a.sl = kt b.sl ∧ kt a.sk = kt b.sk) ↔ a = b := by
 constructor
 ·rintro ⟨h1, h2, h3⟩
  have e2 := kt_inj (ok_sl ha).1 (ok_sl hb).1 h2
  have e3 := kt_inj (ok_sl ha).2 (ok_sl hb).2 h3
  cases a; cases b
  simp_all
 ·intro h; rw [h]; exact ⟨rfl, rfl, rfl⟩
theorem slJoin_self (a : List Int) : slJoin a a = a := by
 unfold slJoin
 induction a with
 | nil => rfl
 | cons x a ih => simp at ih ⊢
def hasA (op : Int) : Bool := decide (op = 1) || decide (op = 2) || decide (op = 3) || inB op 5 12
set_option maxHeartbeats 1000000 in
theorem hasA_any (op : Int) (w : World) : Calls Tryz.prog 35 #[.int .i64 op] w fun e w' => e = .returned (.bool (hasA op)) ∧ w' = w := by
 obtain rfl | rfl | rfl | h : op = 1 ∨ op = 2 ∨ op = 3 ∨ ¬ (op = 1 ∨ op = 2 ∨ op = 3) := by omega
 iterate 3
  ·go_enter Tryz.func35, Tryz.ntmps35
   go_wp2
   go_ret
   exact ⟨rfl, rfl⟩
 ·have e1 : (op == 1) = false := by simp; omega
  have e2 : (op == 2) = false := by simp; omega
  have e3 : (op == 3) = false := by simp; omega
  have HH : Hid (hasA op = inB op 5 12) := hid (by unfold hasA; simp; omega)
  have HC := hid (fun W => l16In_any op 5 12 W)
  obtain ⟨B, hB⟩ : ∃ B, inB op 5 12 = B := ⟨_, rfl⟩
  rw [hB] at HC HH
  clear h hB
  go_enter Tryz.func35, Tryz.ntmps35
  go_wp2_with (go_at_call 66; refine (HC.out _).mono ?_; rintro e w' ⟨rfl, hw⟩; have hw2 := hw.symm; clear hw; subst hw2)
  go_ret
  exact ⟨ret_bool HH.out.symm, rfl⟩
def nb (n : Nat) : List UInt8 := if 127 < n then (n % 128 + 128).toUInt8 :: nb (n / 128) else [n.toUInt8]
 termination_by n
 decreasing_by omega
theorem nb_more {n : Nat} (h : 127 < n) : nb n = (n % 128 + 128).toUInt8 :: nb (n / 128) := by
 rw [nb, if_pos h]
theorem nb_last {n : Nat} (h : ¬ 127 < n) : nb n = [n.toUInt8] := by
 rw [nb, if_neg h]
theorem nb_len : ∀ (k n : Nat), n < 128 ^ (k + 1) → (nb n).length ≤ k + 1
 | 0, n, h => by rw [nb_last (by simp at h; omega)]; simp
 | k + 1, n, h => by
  by_cases h1 : 127 < n
  ·rw [nb_more h1, List.length_cons]
   have := nb_len k (n / 128) (by
    rw [Nat.pow_succ] at h
    exact Nat.div_lt_of_lt_mul (by rw [Nat.mul_comm]; exact h))
   omega
  ·rw [nb_last h1]; simp
theorem nb_10 {n : Nat} (h : n < 18446744073709551616) : (nb n).length ≤ 10 := nb_len 9 n (Nat.lt_of_lt_of_le h (by decide))
theorem nb_ne (n : Nat) : nb n ≠ [] := by
 by_cases h : 127 < n
 ·rw [nb_more h]; simp
 ·rw [nb_last h]; simp
def uOf (x : Int) : Nat := (x % 18446744073709551616).toNat
theorem u64_lt (x : Int) : uOf x < 18446744073709551616 := by unfold uOf; omega
theorem u64_cast (x : Int) : ((uOf x : Nat) : Int) = x % 18446744073709551616 := by unfold uOf; omega
theorem u64_nat (n : Nat) (h : n < 18446744073709551616) : uOf (n : Int) = n := by unfold uOf; omega
def tb (s : ByteArray) : List UInt8 := nb s.size ++ s.data.toList
def insF (x : In) : List UInt8 := nb (uOf x.op) ++ ((if hasA x.op then nb (uOf x.a) else []) ++ (if x.op = 1 then (if x.a = 2 then tb x.text else nb (uOf x.n)) else []))
def parF (l : List Int) : List UInt8 := l.flatMap fun k => nb (uOf k)
def inssF (l : List In) : List UInt8 := l.flatMap insF
def hdF (f : Fn) : List UInt8 := tb f.name ++ (nb f.params.length ++ (parF f.params ++ (nb (uOf f.result) ++ (nb (uOf f.slots) ++ nb f.ins.length))))
def fnF (f : Fn) : List UInt8 := hdF f ++ inssF f.ins
def fnsF (l : List Fn) : List UInt8 := l.flatMap fnF
def begF : List UInt8 := [109, 105, 108, 108, 49]
def formF (fns : List Fn) : List UInt8 := begF ++ (nb fns.length ++ fnsF fns)
theorem len_sizeF (s : ByteArray) : s.data.toList.length = s.size := by simp
theorem tb_len {s : ByteArray} (h : s.size ≤ 1048576) : (tb s).length ≤ 10 + s.size := by
 unfold tb
 rw [List.length_append, len_sizeF]
 have := nb_10 (n := s.size) (by omega)
 omega
theorem parF_len : ∀ l : List Int, (parF l).length ≤ l.length * 10
 | [] => Nat.le_refl _
 | x :: l => by
  have h1 := parF_len l
  have h2 := nb_10 (u64_lt x)
  show ((nb (uOf x)) ++ parF l).length ≤ _
  rw [List.length_append, List.length_cons]
  omega
theorem insF_len {x : In} (h : x.text.size ≤ 1048576) : (insF x).length ≤ 30 + x.text.size := by
 unfold insF
 have h1 := nb_10 (u64_lt x.op)
 have h2 := nb_10 (u64_lt x.a)
 have h3 := nb_10 (u64_lt x.n)
 have h4 := tb_len h
 rw [List.length_append, List.length_append]
 split <;> split <;> (try split) <;> (try simp only [List.length_nil]) <;> omega
theorem take_in {l : List In} {j : Nat} (h : j < l.length) : l.take (j + 1) = l.take j ++ [l.getD j in0] := by
 rw [List.take_succ_eq_append_getElem h, List.getD_eq_getElem?_getD, List.getElem?_eq_getElem h]
 rfl
theorem take_fn {l : List Fn} {j : Nat} (h : j < l.length) : l.take (j + 1) = l.take j ++ [l.getD j fn0] := by
 rw [List.take_succ_eq_append_getElem h, List.getD_eq_getElem?_getD, List.getElem?_eq_getElem h]
 rfl
theorem take_int {l : List Int} {j : Nat} (h : j < l.length) : l.take (j + 1) = l.take j ++ [l.getD j 0] := by
 rw [List.take_succ_eq_append_getElem h, List.getD_eq_getElem?_getD, List.getElem?_eq_getElem h]
 rfl
theorem inssF_next {l : List In} {j : Nat} (h : j < l.length) : inssF (l.take (j + 1)) = inssF (l.take j) ++ insF (l.getD j in0) := by
 unfold inssF
 rw [take_in h, List.flatMap_append]
 simp
theorem parF_next {l : List Int} {j : Nat} (h : j < l.length) : parF (l.take (j + 1)) = parF (l.take j) ++ nb (uOf (l.getD j 0)) := by
 unfold parF
 rw [take_int h, List.flatMap_append]
 simp
theorem fnsF_next {l : List Fn} {j : Nat} (h : j < l.length) : fnsF (l.take (j + 1)) = fnsF (l.take j) ++ fnF (l.getD j fn0) := by
 unfold fnsF
 rw [take_fn h, List.flatMap_append]
 simp
def Wrote (b add b' : List UInt8) : Prop := b'.length ≤ (b ++ add).length ∧ (b' = b ++ add ∨ (200000 < b'.length ∧ 200000 < (b ++ add).length))
theorem Wrote.all (b add : List UInt8) : Wrote b add (b ++ add) := ⟨Nat.le_refl _, .inl rfl⟩
theorem inssF_len {l : List In} (h : ∀ i, i < l.length → (l.getD i in0).text.size ≤ 1048576) : ∀ j, j ≤ l.length → (inssF (l.take j)).length ≤ 31 * R.wSIn l j
 | 0, _ => Nat.zero_le _
 | j + 1, hj => by
  have h1 := inssF_len h j (by omega)
  have h2 := insF_len (h j (by omega))
  rw [inssF_next (by omega), List.length_append]
  simp only [R.wSIn, R.wIn]
  omega
theorem parF_take (l : List Int) (j : Nat) : (parF (l.take j)).length ≤ l.length * 10 := by
 have h1 := parF_len (l.take j)
 rw [List.length_take] at h1
 have : min j l.length ≤ l.length := Nat.min_le_right _ _
 omega
theorem hdF_len {f : Fn} (h : f.name.size ≤ 1048576) (hp : f.params.length ≤ 1048576) (hi : f.ins.length ≤ 1048576) : (hdF f).length ≤ 50 + f.name.size + f.params.length * 10 := by
 unfold hdF
 have h1 := tb_len h
 have h2 := nb_10 (n := f.params.length) (by omega)
 have h3 := parF_len f.params
 have h4 := nb_10 (u64_lt f.result)
 have h5 := nb_10 (u64_lt f.slots)
 have h6 := nb_10 (n := f.ins.length) (by omega)
 simp only [List.length_append]
 omega
theorem wSIn_text {l : List In} (h : R.wSIn l l.length ≤ 1048576) : ∀ i, i < l.length → (l.getD i in0).text.size ≤ 1048576 := fun i hi => by
 have h1 := R.wSIn_at l hi
 simp only [R.wIn] at h1
 omega
theorem fnF_len {f : Fn} (h : R.wFn f ≤ 1048576) : (fnF f).length ≤ 50 + 31 * R.wFn f := by
 have h0 := R.wSIn_ge f.ins f.ins.length
 simp only [R.wFn] at h ⊢
 have h1 := hdF_len (f := f) (by omega) (by omega) (by omega)
 have h2 := inssF_len (wSIn_text (l := f.ins) (by omega)) f.ins.length (Nat.le_refl _)
 rw [List.take_length] at h2
 unfold fnF
 rw [List.length_append]
 omega
theorem fnsF_len {l : List Fn} (h : R.wSFn l l.length ≤ 1048576) : ∀ j, j ≤ l.length → (fnsF (l.take j)).length ≤ 81 * R.wSFn l j
 | 0, _ => Nat.zero_le _
 | j + 1, hj => by
  have h1 := fnsF_len h j (by omega)
  have h3 := R.wSFn_at l (show j < l.length by omega)
  have h2 := fnF_len (f := l.getD j fn0) (by omega)
  rw [fnsF_next (by omega), List.length_append]
  simp only [R.wSFn]
  omega
theorem Wrote.add {b x y b1 b2 : List UInt8} (h : Wrote b x b1) (k : Wrote b1 y b2) : Wrote b (x ++ y) b2 := by
 obtain ⟨h1, h2⟩ := h
 obtain ⟨k1, k2⟩ := k
 simp only [List.length_append] at h1 h2 k1 k2
 refine ⟨by simp only [List.length_append]; omega, ?_⟩
 rcases h2 with rfl | h2
 ·rcases k2 with rfl | k2
  ·exact .inl (by rw [List.append_assoc])
  ·simp only [List.length_append] at k2 ⊢
   exact .inr ⟨by omega, by omega⟩
 ·rcases k2 with rfl | k2
  ·simp only [List.length_append] at k1 ⊢
   exact .inr ⟨by omega, by omega⟩
  ·simp only [List.length_append] at k2 ⊢
   exact .inr ⟨by omega, by omega⟩
set_option maxHeartbeats 1000000 in
theorem gives_15 (fns : List Fn) (f : Fn) (a : Int) (n : Int) (tx : ByteArray) (sl sk : List Int) (w : World) (cv pv iv av bv : Value) (h1 : FnsRow w cv fns) (h2 : IntRow w pv f.params) (h3 : InsRow w iv f.ins) (h4 : IntRow w av sl) (h5 : IntRow w bv sk) (hn : sk.length ≤ 1000) :
  Calls Tryz.prog 91 #[.agg #[cv], .agg #[.string f.name, pv, .int .i64 f.result, .int .i64 f.slots, iv], .agg #[.int .i64 15, .int .i64 a, .int .i64 n, .string tx], .agg #[.int .i64 1, av, bv]] w (GvEnd fns f ⟨15, a, n, tx⟩ sl sk w) := by
 obtain ⟨adA, cA, rfl⟩ := h4.sl
 obtain ⟨adB, cB, rfl⟩ := h5.sl
 have HX := hid (boxes (i := ⟨15, a, n, tx⟩) h1 h2 h3 h4 h5)
 have HTK : Hid (takesN fns ⟨15, a, n, tx⟩ = 1) := hid (by simp [takesN])
 have HEF : Hid (∀ tk, eff fns f ⟨15, a, n, tx⟩ sl tk = whn (tk.getD 0 0 = 2) []) := hid (by intro tk; simp [eff, whn])
 clear h1 h2 h3 h4 h5
 go_enter Tryz.func91, Tryz.ntmps91
 go_upto_region 1 with fail
 obtain ⟨W, hW⟩ : ∃ W, ((((w.alloc (.cells #[cv] 29)).alloc (.cells #[.string f.name, pv, .int .i64 f.result, .int .i64 f.slots, iv] 57)).alloc (.cells #[.int .i64 15, .int .i64 a, .int .i64 n, .string tx] 84)).alloc (.cells #[.int .i64 1, .slice adA sl.length cA, .slice adB sk.length cB] 125)) = W := ⟨_, rfl⟩
 have HX2 : Hid _ := hid (hW ▸ HX.out)
 rw [hW]
 clear hW HX
 have x0 := HX2.out.i0
 have x1 := HX2.out.i1
 have y1 := HX2.out.s1
 have y2 := HX2.out.s2
 go_upto_if 26 with fail
 go_cut [12] (fun v wx => v = .int .i64 (tp sk) ∧ wx = W)
 case first =>
  by_cases hp : 0 < sk.length
  ·obtain ⟨g, c, e9, _, _, _, hc⟩ := HX2.out.sk_.at hp
   injection e9 with ea _ ec
   subst ea ec
   have hpi : (0 : Int) < (sk.length : Int) := by omega
   have hwr : IntKind.i64.wrap ((sk.length : Int) - 1) = ((sk.length - 1 : Nat) : Int) := by rw [IntKind.wrap_i64]; omega
   have hlt : ((sk.length - 1 : Nat) : Int) < (sk.length : Int) := by omega
   have hct := hc (sk.length - 1) (by omega)
   rw [tp_at hp] at hct
   clear hc
   go_wp2_with fail
   go_meet
   case rel => exact ⟨rfl, rfl⟩
  ·have hpi : ¬ (0 : Int) < (sk.length : Int) := by omega
   have HT := hid (tp_none hp)
   clear hp
   go_wp2_with fail
   go_meet
   case rel => exact ⟨by rw [HT.out], rfl⟩
 case rest =>
  obtain ⟨rfl, rfl⟩ := hcut
  go_upto_if 34 with fail
  go_cut [13] (fun v wx => v = .int .i64 (bw sk) ∧ wx = wc)
  case first =>
   by_cases hp : 1 < sk.length
   ·obtain ⟨g, c, e9, _, _, _, hc⟩ := HX2.out.sk_.at (i := 0) (by omega)
    injection e9 with ea _ ec
    subst ea ec
    have hpi : (1 : Int) < (sk.length : Int) := by omega
    have hwr : IntKind.i64.wrap ((sk.length : Int) - 2) = ((sk.length - 2 : Nat) : Int) := by rw [IntKind.wrap_i64]; omega
    have hlt : ((sk.length - 2 : Nat) : Int) < (sk.length : Int) := by omega
    have hct := hc (sk.length - 2) (by omega)
    rw [bw_at hp] at hct
    clear hc
    go_wp2_with fail
    go_meet
    case rel => exact ⟨rfl, rfl⟩
   ·have hpi : ¬ (1 : Int) < (sk.length : Int) := by omega
    have HT := hid (bw_none hp)
    clear hp
    go_wp2_with fail
    go_meet
    case rel => exact ⟨by rw [HT.out], rfl⟩
  case rest =>
   obtain ⟨rfl, hwc⟩ := hcut
   subst hwc
   by_cases ht : tp sk = 2
   ·have HT := hid ht
    have htf : (tp sk == 2) = true := by simpa using ht
    have HP : Hid (1 ≤ sk.length) := hid (Decidable.byContradiction fun h => by have := tp_none (sk := sk) (by omega); omega)
    clear ht
    go_wp2
    go_ret3
    exact gv_ok (k := 1) (by first | exact HX2.out.lo.alloc HX2.out.lo.size _ | exact (HX2.out.lo.alloc HX2.out.lo.size _).drew) (by decide) HTK.out.symm HP.out (by rw [HEF.out, HTK.out, drop1 HP.out, HT.out]; rfl) (by first | exact row0 _ | exact (row0 _).next (Below.refl _ _).drew)
   ·have HT := hid ht
    have htf : (tp sk == 2) = false := by simpa using ht
    clear ht
    go_wp2
    go_ret3
    exact gv_bad (k := 1) (by first | exact HX2.out.lo.alloc HX2.out.lo.size _ | exact (HX2.out.lo.alloc HX2.out.lo.size _).drew) (by decide) (.inl rfl) (fun h => by rw [HTK.out] at h; rw [HEF.out, HTK.out, drop1 h]; exact if_neg HT.out)
end Go.Proofs.YtcjgcipacfcjnaaGreatDoor.C
namespace Go.Proofs.YtcjgcipacfcjnaaGreatDoor.C
open Go.RowKit
theorem ok_known {S : Nat} {a : Sh} (h : OkSh S a) (h1 : a.st = 1) : a.sl.length = S ∧ (∀ x ∈ a.sl, 0 ≤ x ∧ x ≤ 10) ∧ (∀ x ∈ a.sk, 1 ≤ x ∧ x ≤ 10) ∧ a.sk.length ≤ 600 := by
 rcases h with rfl | rfl | ⟨_, h⟩
 ·simp [bot] at h1
 ·simp [top] at h1
 ·exact h
theorem ok_st {S : Nat} {a : Sh} (h : OkSh S a) : a.st = 0 ∨ a.st = 1 ∨ a.st = 2 := by
 rcases h with rfl | rfl | ⟨h, _⟩
 ·exact .inl rfl
 ·exact .inr (.inr rfl)
 ·exact .inr (.inl h)
theorem join_any {S : Nat} {a b : Sh} (ha : OkSh S a) (hb : OkSh S b) (h0 : ¬ b.st = 0) (hS : S ≤ 200) {w : World} {av bv : Value} (h4 : ShV w av a) (h5 : ShV w bv b) : Calls Tryz.prog 90 #[av, bv] w (JoinEnd a b w) := by
 obtain ⟨x, y, rfl, r1, r2⟩ := h4
 obtain ⟨x', y', rfl, r3, r4⟩ := h5
 rcases ok_st ha with h | h | h
 ·exact join_second0 h0 h w x y x' y' r1 r2 r3 r4
 ·rcases ok_st hb with k | k | k
  ·exact absurd k h0
  ·have p := ok_known ha h
   have q := ok_known hb k
   exact join_known h k (p.1.trans q.1.symm) (by omega) (by omega) w x y x' y' r1 r2 r3 r4
  ·exact join_second1 hb k h w x y x' y' r1 r2 r3 r4
 ·exact join_first ha h0 h w x y x' y' r1 r2 r3 r4
end Go.Proofs.YtcjgcipacfcjnaaGreatDoor.C
