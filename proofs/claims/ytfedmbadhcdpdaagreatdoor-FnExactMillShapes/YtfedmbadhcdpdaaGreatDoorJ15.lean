import Derived.Test.YtfedmbadhcdpdaaGreatDoorChecked
import Derived.WalkKit
import Derived.WalkSpells
import Derived.WalkLawsBesides
import Derived.OwnWalk
import Derived.Deep.QuietTactic
import Derived.BigQuiet
import Derived.Lib.Bytealg
import Derived.Lib.Strings
import Derived.BigCall
import Derived.ProofKit
import Derived.Deep.Slices
import Derived.Test.YtfedmbadhcdpdaaGreatDoorJ01
import Derived.Test.YtfedmbadhcdpdaaGreatDoorJ06
import Derived.Test.YtfedmbadhcdpdaaGreatDoorJ14
/-! Boxes, rows, worlds: what the texts on sizes, copies and sameness have in common. -/
namespace Go.Proofs.YtfedmbadhcdpdaaGreatDoor.R
open Go.RowKit
set_option maxRecDepth 20000
theorem hid {p : Prop} (h : p) : Hid p := h
theorem ret_int {k : IntKind} {a b : Int} (h : a = b) : Ending.returned (.int k a) = .returned (.int k b) := by rw [h]
theorem add_block (a : Addr) (n : Nat) : (a.add n).block = a.block := by unfold Addr.add; split <;> rfl
theorem add_one (a : Addr) (n : Nat) (h : n ≠ 0) : a.add n = ⟨a.block, a.off + n, none⟩ := by unfold Addr.add; rw [if_neg h]
theorem small {n : Nat} (h : n ≤ maxLen) : n ≤ 9223372036854775807 := by unfold maxLen at h; simpa using h
theorem lt_hp {W : World} {k : Nat} {o : Obj} (h : W.heap[k]? = some o) : k < W.heap.size := (Array.getElem?_eq_some_iff.1 h).1
theorem hp_next {W V : World} {g : Nat} {o : Obj} (h : W.heap[g]? = some o) (hb : Below W.heap.size W V) : V.heap[g]? = some o := (hb.block g (lt_hp h)).trans h
theorem row_room {W : World} {g i : Nat} {cur : Array Value} {t : TypeId} (h : W.heap[g]? = some (.cells cur t (0, 0))) (hi : i < cur.size) :
    (∃ v, W.cell? ⟨g, i, none⟩ = some v) ∧ W.frozen? ⟨g, i, none⟩ = false :=
  ⟨⟨cur[i], by unfold World.cell?; rw [h]; simp [hi]⟩, by unfold World.frozen?; rw [h]; simp⟩
theorem row_cell {W : World} {g : Nat} {cur : Array Value} {t : TypeId} (h : W.heap[g]? = some (.cells cur t (0, 0))) (i : Nat) : W.cell? ⟨g, i, none⟩ = cur[i]? := by
  unfold World.cell?
  rw [h]; rfl
theorem set_at {W : World} {g i : Nat} {cur : Array Value} {t : TypeId} (v : Value) (h : W.heap[g]? = some (.cells cur t (0, 0))) : (W.setCell ⟨g, i, none⟩ v).heap[g]? = some (.cells (cur.setIfInBounds i v) t (0, 0)) := by
  unfold World.setCell
  simp only [Array.getElem?_modify, h]
  simp
theorem set_other (W : World) (g j i : Nat) (v : Value) (h : ¬ i = g) : (W.setCell ⟨g, j, none⟩ v).heap[i]? = W.heap[i]? := by
  unfold World.setCell
  simp only [Array.getElem?_modify]
  rw [if_neg (fun e => h e.symm)]
theorem below_set {B : Nat} {w w' : World} (h : Below B w w') (g i : Nat) (hg : B ≤ g) (v : Value) : Below B w (w'.setCell ⟨g, i, none⟩ v) := h.setCell hg v
theorem below_two' (w : World) (a b : Obj) : Below w.heap.size w ((w.alloc a).alloc b) := ((Below.refl _ _).alloc (Nat.le_refl _) a).alloc (by simp) b
theorem below_drewN {B : Nat} {w w' : World} (h : Below B w w') (n : Nat) : Below B w (w'.drewN n) := by
  induction n with
  | zero => exact h
  | succ n ih => exact ih.drew
/-- A box that lies where w ended. -/
structure B1 (w : World) (o : Obj) (W : World) : Prop where
  lo : Below w.heap.size w W
  e : W.heap[w.heap.size]? = some o
theorem B1.start (w : World) (o : Obj) : B1 w o (w.alloc o) := ⟨(Below.refl _ _).alloc (Nat.le_refl _) _, heap_alloc_new _ _⟩
theorem B1.next {w W V : World} {o : Obj} (h : B1 w o W) (hb : Below W.heap.size W V) : B1 w o V := ⟨h.lo.trans (hb.mono h.lo.size), hp_next h.e hb⟩
structure B2 (w : World) (o p : Obj) (W : World) : Prop where
  lo : Below w.heap.size w W
  e : W.heap[w.heap.size]? = some o
  f : W.heap[w.heap.size + 1]? = some p
theorem B2.start (w : World) (o p : Obj) : B2 w o p ((w.alloc o).alloc p) := by
  refine ⟨below_two' _ _ _, ?_, ?_⟩
  · rw [Below.heap_alloc _ _ _ (by simp)]
    exact heap_alloc_new w o
  · have := heap_alloc_new (w.alloc o) p
    rwa [World.size_alloc] at this
theorem B2.next {w W V : World} {o p : Obj} (h : B2 w o p W) (hb : Below W.heap.size W V) : B2 w o p V := ⟨h.lo.trans (hb.mono h.lo.size), hp_next h.e hb, hp_next h.f hb⟩
/-- What came in, what is answered, and what is made: three boxes. -/
structure B3 (w : World) (o : Obj) (R O : Array Value) (t : TypeId) (W : World) : Prop where
  lo : Below w.heap.size w W
  e : W.heap[w.heap.size]? = some o
  r : W.heap[w.heap.size + 1]? = some (.cells R t (0, 0))
  o : W.heap[w.heap.size + 1 + 1]? = some (.cells O t (0, 0))
theorem B3.start (w : World) (o : Obj) (R O : Array Value) (t : TypeId) : B3 w o R O t (((w.alloc o).alloc (.cells R t)).alloc (.cells O t)) := by
  have h := B2.start w o (.cells R t)
  refine ⟨h.lo.alloc (by simp; omega) _, ?_, ?_, ?_⟩
  · rw [Below.heap_alloc _ _ _ (by simp; omega)]; exact h.e
  · rw [Below.heap_alloc _ _ _ (by simp)]; exact h.f
  · have := heap_alloc_new ((w.alloc o).alloc (.cells R t)) (.cells O t)
    rwa [World.size_alloc, World.size_alloc] at this
theorem B3.next {w W V : World} {o : Obj} {R O : Array Value} {t : TypeId} (h : B3 w o R O t W) (hb : Below W.heap.size W V) : B3 w o R O t V := ⟨h.lo.trans (hb.mono h.lo.size), hp_next h.e hb, hp_next h.r hb, hp_next h.o hb⟩
theorem B3.set {w W : World} {o : Obj} {R O : Array Value} {t : TypeId} (h : B3 w o R O t W) (i : Nat) (v : Value) : B3 w o R (O.setIfInBounds i v) t (W.setCell ⟨w.heap.size + 1 + 1, i, none⟩ v) :=
  ⟨below_set h.lo _ _ (by omega) _, (set_other _ _ _ _ _ (by omega)).trans h.e, (set_other _ _ _ _ _ (by omega)).trans h.r, set_at v h.o⟩
theorem B3.sz {w W : World} {o : Obj} {R O : Array Value} {t : TypeId} (h : B3 w o R O t W) : w.heap.size + 3 ≤ W.heap.size := lt_hp h.o
/-- A world behind w in which all that lay in w is as it was. -/
structure Gr (w : World) where
  W : World
  h : Below w.heap.size w W
theorem wp_region_gr {P : Program} {id : Nat} {Q : Exit → Act → World → Prop} {a : Act} {w : World} {l : List Oper} (hm : P.follows .mixedOrders = true) (hB : Region.lexB .any l.toArray = true)
    (h : wpQuiet P l.toArray (fun w' => ∃ p : Gr w, w' = p.W) (fun a' => ∀ w', (∃ p : Gr w, w' = p.W) → Q .normal a' w') l a) : (Code.region id l.toArray true).wp P Q a w :=
  wp_region_quiet (C := fun w' => ∃ p : Gr w, w' = p.W) hm hB ⟨⟨w.drew, (Below.refl _ _).drew⟩, rfl⟩ (by simpa using h)
theorem Calls.gr_of {P : Program} {f : FuncId} {args : Array Value} {w : World} {p : Gr w} {v : Value} (h : Below w.heap.size w p.W → Calls P f args p.W fun e w' => e = .returned v ∧ Below p.W.heap.size p.W w') :
    Calls P f args p.W fun e w'' => e = .returned v ∧ ∃ p : Gr w, w'' = p.W :=
  (h p.h).mono fun _ w' ⟨he, hb⟩ => ⟨he, ⟨w', p.h.trans (hb.mono p.h.size)⟩, rfl⟩
theorem info_parts {i : Option TypeInfo} {z : Value} {s b : Nat} (h : i.map (fun i => (i.zero, i.size, i.bytes)) = some (some z, s, b)) : ∃ j, i = some j ∧ j.zero = some z ∧ j.size = s ∧ j.bytes = b := by
  cases i with
  | none => cases h
  | some j => simp at h; exact ⟨j, rfl, h.1, h.2.1, h.2.2⟩
/-- A contract of a size: what is left. -/
def SzEnd (l : Int) (k : Nat) (w : World) (e : Ending) (w' : World) : Prop := (∃ r, e = .returned (.int .i64 r) ∧ -1 ≤ r ∧ r ≤ l ∧ (0 ≤ r → r + (k : Int) = l)) ∧ Below w.heap.size w w'
end Go.Proofs.YtfedmbadhcdpdaaGreatDoor.R
/-! The structs of the law's arguments in memory. -/
namespace Go.Proofs.YtfedmbadhcdpdaaGreatDoor.R
open Go.RowKit
set_option maxRecDepth 20000
/-- The cells of an element at an address. -/
def IntA (W : World) (a : Addr) (x : Int) : Prop := W.cell? a = some (.int .i64 x)
theorem IntA.of {W V : World} {a : Addr} {x : Int} (h : IntA W a x) (hk : ∀ p : Addr, p.block = a.block → V.cell? p = W.cell? p) : IntA V a x := by
  exact (hk _ rfl).trans h
/-- A row that came in. -/
def SIntA (W : World) (v : Value) (l : List Int) : Prop := ∃ (ad : Option Addr) (c : Nat), v = .slice ad l.length c ∧ (l = [] ∨ ∃ a : Addr, ad = some a ∧ a.block < W.heap.size ∧ ∀ i, i < l.length → IntA W (a.add i) (l.getD i 0))
theorem SIntA.next {W V : World} {v : Value} {l : List Int} (h : SIntA W v l) (hb : Below W.heap.size W V) : SIntA V v l := by
  obtain ⟨ad, c, e, h1⟩ := h
  refine ⟨ad, c, e, ?_⟩
  rcases h1 with h1 | ⟨a, e1, e2, e3⟩
  · exact .inl h1
  · refine .inr ⟨a, e1, Nat.lt_of_lt_of_le e2 hb.size, fun i hi => ?_⟩
    exact (e3 i hi).of fun p hp => hb.cell (by rw [hp, add_block]; exact e2)
theorem SIntA.sl {W : World} {v : Value} {l : List Int} (h : SIntA W v l) : ∃ ad c, v = .slice ad l.length c := by
  obtain ⟨ad, c, e, _⟩ := h
  exact ⟨ad, c, e⟩
theorem SIntA.at {W : World} {v : Value} {l : List Int} (h : SIntA W v l) {i : Nat} (hi : i < l.length) : ∃ (a : Addr) (c : Nat), v = .slice (some a) l.length c ∧ a.block < W.heap.size ∧ IntA W (a.add i) (l.getD i 0) := by
  obtain ⟨ad, c, e, h1⟩ := h
  rcases h1 with h1 | ⟨a, e1, e2, e3⟩
  · rw [h1] at hi; exact absurd hi (Nat.not_lt_zero _)
  · subst e1
    exact ⟨a, c, e, e2, e3 i hi⟩
/-- The first j elements of a row that is being made. -/
def SIntF (g : Nat) (W : World) (l : List Int) (j : Nat) : Prop := ∃ cur, W.heap[g]? = some (.cells cur 3 (0, 0)) ∧ cur.size = l.length * 1 ∧ ∀ i, i < j → cur[i]? = some (.int .i64 (l.getD i 0))
/-- A row that was made: it lies at B or above, what its elements hold above it. -/
def SIntR (B : Nat) (W : World) (v : Value) (l : List Int) : Prop := ∃ g, v = .slice (some ⟨g, 0, none⟩) l.length l.length ∧ B ≤ g ∧ SIntF g W l l.length
theorem SIntF.keep {g : Nat} {W V : World} {l : List Int} {j : Nat} (h : SIntF g W l j) (hk : ∀ i, g ≤ i → i < W.heap.size → V.heap[i]? = W.heap[i]?) : SIntF g V l j := by
  obtain ⟨cur, h1, h2, h3⟩ := h
  exact ⟨cur, (hk g (Nat.le_refl _) (lt_hp h1)).trans h1, h2, h3⟩
theorem SIntR.keep {B : Nat} {W V : World} {v : Value} {l : List Int} (h : SIntR B W v l) (hk : ∀ i, B ≤ i → i < W.heap.size → V.heap[i]? = W.heap[i]?) : SIntR B V v l := by
  obtain ⟨g, e, hg, h1⟩ := h
  exact ⟨g, e, hg, h1.keep fun i hi hj => hk i (by omega) hj⟩
theorem SIntR.next {B : Nat} {W V : World} {v : Value} {l : List Int} (h : SIntR B W v l) (hb : Below W.heap.size W V) : SIntR B V v l := h.keep fun i _ hj => hb.block i hj
theorem SIntR.set {B : Nat} {W : World} {v : Value} {l : List Int} (h : SIntR B W v l) {b : Nat} (hb : b < B) (i : Nat) (u : Value) : SIntR B (W.setCell ⟨b, i, none⟩ u) v l := h.keep fun x hx _ => set_other _ _ _ _ _ (by omega)
theorem SIntR.mono {B B' : Nat} {W : World} {v : Value} {l : List Int} (h : SIntR B W v l) (hb : B' ≤ B) : SIntR B' W v l := by
  obtain ⟨g, e, hg, h1⟩ := h
  exact ⟨g, e, Nat.le_trans hb hg, h1⟩
theorem SIntR.sl {B : Nat} {W : World} {v : Value} {l : List Int} (h : SIntR B W v l) : ∃ g, v = .slice (some ⟨g, 0, none⟩) l.length l.length := by
  obtain ⟨g, e, _⟩ := h
  exact ⟨g, e⟩
theorem SIntR.at {B : Nat} {W : World} {v : Value} {l : List Int} (h : SIntR B W v l) {i : Nat} (hi : i < l.length) : ∃ g, v = .slice (some ⟨g, 0, none⟩) l.length l.length ∧ B ≤ g ∧ g < W.heap.size ∧ W.cell? ⟨g, i, none⟩ = some (.int .i64 (l.getD i 0)) := by
  obtain ⟨g, e, hg, cur, h1, h2, h3⟩ := h
  exact ⟨g, e, hg, lt_hp h1, (row_cell h1 _).trans (h3 i hi)⟩
theorem SIntF.step {g : Nat} {W : World} {l : List Int} {j : Nat} (h : SIntF g W l j) (hj : j < l.length) : SIntF g (W.setCell ⟨g, j, none⟩ (.int .i64 (l.getD j 0))) l (j + 1) := by
  obtain ⟨cur, h1, h2, h3⟩ := h
  refine ⟨_, (set_at (i := j) (.int .i64 (l.getD j 0)) h1), by simp [h2], fun i hi => ?_⟩
  by_cases hij : i = j
  · subst hij
    exact (by rw [Array.getElem?_setIfInBounds_self_of_lt (by first | omega | (simp; omega))])
  · exact (by rw [Array.getElem?_setIfInBounds_ne (by omega)]; exact h3 i (by omega))
theorem SIntF.lt {g : Nat} {W : World} {l : List Int} {j : Nat} (h : SIntF g W l j) : g < W.heap.size := by
  obtain ⟨cur, h1, _⟩ := h
  exact lt_hp h1
theorem SIntF.room {g : Nat} {W : World} {l : List Int} {j : Nat} (h : SIntF g W l j) {i : Nat} (hi : i < l.length * 1) : (∃ v, W.cell? ⟨g, i, none⟩ = some v) ∧ W.frozen? ⟨g, i, none⟩ = false := by
  obtain ⟨cur, h1, h2, _⟩ := h
  exact row_room h1 (by omega)
/-- The cells of an element at an address. -/
def InA (W : World) (a : Addr) (x : C.In) : Prop := W.cell? a = some (.int .i64 x.op) ∧ W.cell? ⟨a.block, a.off + 1, none⟩ = some (.int .i64 x.a) ∧ W.cell? ⟨a.block, a.off + 2, none⟩ = some (.int .i64 x.n) ∧ W.cell? ⟨a.block, a.off + 3, none⟩ = some (.string x.text)
theorem InA.of {W V : World} {a : Addr} {x : C.In} (h : InA W a x) (hk : ∀ p : Addr, p.block = a.block → V.cell? p = W.cell? p) : InA V a x := by
  obtain ⟨h0, h1, h2, h3⟩ := h
  exact ⟨(hk _ rfl).trans h0, (hk ⟨_, _, none⟩ rfl).trans h1, (hk ⟨_, _, none⟩ rfl).trans h2, (hk ⟨_, _, none⟩ rfl).trans h3⟩
/-- A row that came in. -/
def SInA (W : World) (v : Value) (l : List C.In) : Prop := ∃ (ad : Option Addr) (c : Nat), v = .slice ad l.length c ∧ (l = [] ∨ ∃ a : Addr, ad = some a ∧ a.block < W.heap.size ∧ ∀ i, i < l.length → InA W (a.add (i * 4)) (l.getD i C.in0))
theorem SInA.next {W V : World} {v : Value} {l : List C.In} (h : SInA W v l) (hb : Below W.heap.size W V) : SInA V v l := by
  obtain ⟨ad, c, e, h1⟩ := h
  refine ⟨ad, c, e, ?_⟩
  rcases h1 with h1 | ⟨a, e1, e2, e3⟩
  · exact .inl h1
  · refine .inr ⟨a, e1, Nat.lt_of_lt_of_le e2 hb.size, fun i hi => ?_⟩
    exact (e3 i hi).of fun p hp => hb.cell (by rw [hp, add_block]; exact e2)
theorem SInA.sl {W : World} {v : Value} {l : List C.In} (h : SInA W v l) : ∃ ad c, v = .slice ad l.length c := by
  obtain ⟨ad, c, e, _⟩ := h
  exact ⟨ad, c, e⟩
theorem SInA.at {W : World} {v : Value} {l : List C.In} (h : SInA W v l) {i : Nat} (hi : i < l.length) : ∃ (a : Addr) (c : Nat), v = .slice (some a) l.length c ∧ a.block < W.heap.size ∧ InA W (a.add (i * 4)) (l.getD i C.in0) := by
  obtain ⟨ad, c, e, h1⟩ := h
  rcases h1 with h1 | ⟨a, e1, e2, e3⟩
  · rw [h1] at hi; exact absurd hi (Nat.not_lt_zero _)
  · subst e1
    exact ⟨a, c, e, e2, e3 i hi⟩
/-- The first j elements of a row that is being made. -/
def SInF (g : Nat) (W : World) (l : List C.In) (j : Nat) : Prop := ∃ cur, W.heap[g]? = some (.cells cur 76 (0, 0)) ∧ cur.size = l.length * 4 ∧ ∀ i, i < j → cur[i * 4]? = some (.int .i64 (l.getD i C.in0).op) ∧ cur[i * 4 + 1]? = some (.int .i64 (l.getD i C.in0).a) ∧ cur[i * 4 + 2]? = some (.int .i64 (l.getD i C.in0).n) ∧ cur[i * 4 + 3]? = some (.string (l.getD i C.in0).text)
/-- A row that was made: it lies at B or above, what its elements hold above it. -/
def SInR (B : Nat) (W : World) (v : Value) (l : List C.In) : Prop := ∃ g, v = .slice (some ⟨g, 0, none⟩) l.length l.length ∧ B ≤ g ∧ SInF g W l l.length
theorem SInF.keep {g : Nat} {W V : World} {l : List C.In} {j : Nat} (h : SInF g W l j) (hk : ∀ i, g ≤ i → i < W.heap.size → V.heap[i]? = W.heap[i]?) : SInF g V l j := by
  obtain ⟨cur, h1, h2, h3⟩ := h
  exact ⟨cur, (hk g (Nat.le_refl _) (lt_hp h1)).trans h1, h2, h3⟩
theorem SInR.keep {B : Nat} {W V : World} {v : Value} {l : List C.In} (h : SInR B W v l) (hk : ∀ i, B ≤ i → i < W.heap.size → V.heap[i]? = W.heap[i]?) : SInR B V v l := by
  obtain ⟨g, e, hg, h1⟩ := h
  exact ⟨g, e, hg, h1.keep fun i hi hj => hk i (by omega) hj⟩
theorem SInR.next {B : Nat} {W V : World} {v : Value} {l : List C.In} (h : SInR B W v l) (hb : Below W.heap.size W V) : SInR B V v l := h.keep fun i _ hj => hb.block i hj
theorem SInR.set {B : Nat} {W : World} {v : Value} {l : List C.In} (h : SInR B W v l) {b : Nat} (hb : b < B) (i : Nat) (u : Value) : SInR B (W.setCell ⟨b, i, none⟩ u) v l := h.keep fun x hx _ => set_other _ _ _ _ _ (by omega)
theorem SInR.mono {B B' : Nat} {W : World} {v : Value} {l : List C.In} (h : SInR B W v l) (hb : B' ≤ B) : SInR B' W v l := by
  obtain ⟨g, e, hg, h1⟩ := h
  exact ⟨g, e, Nat.le_trans hb hg, h1⟩
theorem SInR.sl {B : Nat} {W : World} {v : Value} {l : List C.In} (h : SInR B W v l) : ∃ g, v = .slice (some ⟨g, 0, none⟩) l.length l.length := by
  obtain ⟨g, e, _⟩ := h
  exact ⟨g, e⟩
theorem SInR.at {B : Nat} {W : World} {v : Value} {l : List C.In} (h : SInR B W v l) {i : Nat} (hi : i < l.length) : ∃ g, v = .slice (some ⟨g, 0, none⟩) l.length l.length ∧ B ≤ g ∧ g < W.heap.size ∧ W.cell? ⟨g, i * 4, none⟩ = some (.int .i64 (l.getD i C.in0).op) ∧ W.cell? ⟨g, i * 4 + 1, none⟩ = some (.int .i64 (l.getD i C.in0).a) ∧ W.cell? ⟨g, i * 4 + 2, none⟩ = some (.int .i64 (l.getD i C.in0).n) ∧ W.cell? ⟨g, i * 4 + 3, none⟩ = some (.string (l.getD i C.in0).text) := by
  obtain ⟨g, e, hg, cur, h1, h2, h3⟩ := h
  obtain ⟨d0, d1, d2, d3⟩ := h3 i hi
  exact ⟨g, e, hg, lt_hp h1, (row_cell h1 _).trans d0, (row_cell h1 _).trans d1, (row_cell h1 _).trans d2, (row_cell h1 _).trans d3⟩
theorem SInF.step {g : Nat} {W : World} {l : List C.In} {j : Nat} (h : SInF g W l j) (hj : j < l.length) : SInF g ((((W.setCell ⟨g, j * 4, none⟩ (.int .i64 (l.getD j C.in0).op)).setCell ⟨g, j * 4 + 1, none⟩ (.int .i64 (l.getD j C.in0).a)).setCell ⟨g, j * 4 + 2, none⟩ (.int .i64 (l.getD j C.in0).n)).setCell ⟨g, j * 4 + 3, none⟩ (.string (l.getD j C.in0).text)) l (j + 1) := by
  obtain ⟨cur, h1, h2, h3⟩ := h
  refine ⟨_, (set_at (i := j * 4 + 3) (.string (l.getD j C.in0).text) (set_at (i := j * 4 + 2) (.int .i64 (l.getD j C.in0).n) (set_at (i := j * 4 + 1) (.int .i64 (l.getD j C.in0).a) (set_at (i := j * 4) (.int .i64 (l.getD j C.in0).op) h1)))), by simp [h2], fun i hi => ?_⟩
  by_cases hij : i = j
  · subst hij
    exact ⟨(by rw [Array.getElem?_setIfInBounds_ne (by omega), Array.getElem?_setIfInBounds_ne (by omega), Array.getElem?_setIfInBounds_ne (by omega), Array.getElem?_setIfInBounds_self_of_lt (by first | omega | (simp; omega))]), (by rw [Array.getElem?_setIfInBounds_ne (by omega), Array.getElem?_setIfInBounds_ne (by omega), Array.getElem?_setIfInBounds_self_of_lt (by first | omega | (simp; omega))]), (by rw [Array.getElem?_setIfInBounds_ne (by omega), Array.getElem?_setIfInBounds_self_of_lt (by first | omega | (simp; omega))]), (by rw [Array.getElem?_setIfInBounds_self_of_lt (by first | omega | (simp; omega))])⟩
  · obtain ⟨d0, d1, d2, d3⟩ := h3 i (by omega)
    exact ⟨(by rw [Array.getElem?_setIfInBounds_ne (by omega), Array.getElem?_setIfInBounds_ne (by omega), Array.getElem?_setIfInBounds_ne (by omega), Array.getElem?_setIfInBounds_ne (by omega)]; exact d0), (by rw [Array.getElem?_setIfInBounds_ne (by omega), Array.getElem?_setIfInBounds_ne (by omega), Array.getElem?_setIfInBounds_ne (by omega), Array.getElem?_setIfInBounds_ne (by omega)]; exact d1), (by rw [Array.getElem?_setIfInBounds_ne (by omega), Array.getElem?_setIfInBounds_ne (by omega), Array.getElem?_setIfInBounds_ne (by omega), Array.getElem?_setIfInBounds_ne (by omega)]; exact d2), (by rw [Array.getElem?_setIfInBounds_ne (by omega), Array.getElem?_setIfInBounds_ne (by omega), Array.getElem?_setIfInBounds_ne (by omega), Array.getElem?_setIfInBounds_ne (by omega)]; exact d3)⟩
theorem SInF.lt {g : Nat} {W : World} {l : List C.In} {j : Nat} (h : SInF g W l j) : g < W.heap.size := by
  obtain ⟨cur, h1, _⟩ := h
  exact lt_hp h1
theorem SInF.room {g : Nat} {W : World} {l : List C.In} {j : Nat} (h : SInF g W l j) {i : Nat} (hi : i < l.length * 4) : (∃ v, W.cell? ⟨g, i, none⟩ = some v) ∧ W.frozen? ⟨g, i, none⟩ = false := by
  obtain ⟨cur, h1, h2, _⟩ := h
  exact row_room h1 (by omega)
def wIn (x : C.In) : Nat := x.text.size
def OkIn (x : C.In) : Prop := (-9223372036854775808 ≤ x.op ∧ x.op ≤ 9223372036854775807) ∧ (-9223372036854775808 ≤ x.a ∧ x.a ≤ 9223372036854775807) ∧ (-9223372036854775808 ≤ x.n ∧ x.n ≤ 9223372036854775807) ∧ x.text.size ≤ maxLen
def LoIn (x : C.In) : Prop := x = x
def wSIn (l : List C.In) : Nat → Nat
  | 0 => 0
  | n + 1 => wSIn l n + 1 + wIn (l.getD n C.in0)
theorem wSIn_ge (l : List C.In) (n : Nat) : n ≤ wSIn l n := by
  induction n with
  | zero => exact Nat.le_refl _
  | succ n ih => simp only [wSIn]; omega
theorem wSIn_mono (l : List C.In) {j n : Nat} (h : j ≤ n) : wSIn l j ≤ wSIn l n := by
  induction h with
  | refl => exact Nat.le_refl _
  | step _ ih => simp only [wSIn]; omega
theorem wSIn_at (l : List C.In) {n m : Nat} (h : n < m) : wSIn l n + 1 + wIn (l.getD n C.in0) ≤ wSIn l m := wSIn_mono l (Nat.succ_le_of_lt h)
def OkInS (l : List C.In) : Prop := l.length ≤ maxLen ∧ ∀ i, i < l.length → OkIn (l.getD i C.in0)
def LoInS (l : List C.In) : Prop := l.length ≤ 1048576 ∧ ∀ i, i < l.length → LoIn (l.getD i C.in0)
theorem loIn_of {x : C.In} (_h : wIn x ≤ 1048576) : LoIn x := rfl
theorem loInS_of {l : List C.In} (h : wSIn l l.length ≤ 1048576) : LoInS l := ⟨Nat.le_trans (wSIn_ge l _) h, fun i hi => loIn_of (by have := wSIn_at l hi; omega)⟩
/-- The cells of an element at an address. -/
def FnA (W : World) (a : Addr) (x : C.Fn) (v0 v1 : Value) : Prop := W.cell? a = some (.string x.name) ∧ W.cell? ⟨a.block, a.off + 1, none⟩ = some (v0) ∧ W.cell? ⟨a.block, a.off + 2, none⟩ = some (.int .i64 x.result) ∧ W.cell? ⟨a.block, a.off + 3, none⟩ = some (.int .i64 x.slots) ∧ W.cell? ⟨a.block, a.off + 4, none⟩ = some (v1)
theorem FnA.of {W V : World} {a : Addr} {x : C.Fn} {v0 v1 : Value} (h : FnA W a x v0 v1) (hk : ∀ p : Addr, p.block = a.block → V.cell? p = W.cell? p) : FnA V a x v0 v1 := by
  obtain ⟨h0, h1, h2, h3, h4⟩ := h
  exact ⟨(hk _ rfl).trans h0, (hk ⟨_, _, none⟩ rfl).trans h1, (hk ⟨_, _, none⟩ rfl).trans h2, (hk ⟨_, _, none⟩ rfl).trans h3, (hk ⟨_, _, none⟩ rfl).trans h4⟩
/-- A row that came in. -/
def SFnA (W : World) (v : Value) (l : List C.Fn) : Prop := ∃ (ad : Option Addr) (c : Nat), v = .slice ad l.length c ∧ (l = [] ∨ ∃ a : Addr, ad = some a ∧ a.block < W.heap.size ∧ ∀ i, i < l.length → ∃ v0 v1, FnA W (a.add (i * 5)) (l.getD i C.fn0) v0 v1 ∧ SIntA W v0 (l.getD i C.fn0).params ∧ SInA W v1 (l.getD i C.fn0).ins)
theorem SFnA.next {W V : World} {v : Value} {l : List C.Fn} (h : SFnA W v l) (hb : Below W.heap.size W V) : SFnA V v l := by
  obtain ⟨ad, c, e, h1⟩ := h
  refine ⟨ad, c, e, ?_⟩
  rcases h1 with h1 | ⟨a, e1, e2, e3⟩
  · exact .inl h1
  · refine .inr ⟨a, e1, Nat.lt_of_lt_of_le e2 hb.size, fun i hi => ?_⟩
    obtain ⟨v0, v1, c0, r0, r1⟩ := e3 i hi
    exact ⟨v0, v1, c0.of fun p hp => hb.cell (by rw [hp, add_block]; exact e2), r0.next hb, r1.next hb⟩
theorem SFnA.sl {W : World} {v : Value} {l : List C.Fn} (h : SFnA W v l) : ∃ ad c, v = .slice ad l.length c := by
  obtain ⟨ad, c, e, _⟩ := h
  exact ⟨ad, c, e⟩
theorem SFnA.at {W : World} {v : Value} {l : List C.Fn} (h : SFnA W v l) {i : Nat} (hi : i < l.length) : ∃ (a : Addr) (c : Nat), v = .slice (some a) l.length c ∧ a.block < W.heap.size ∧ ∃ v0 v1, FnA W (a.add (i * 5)) (l.getD i C.fn0) v0 v1 ∧ SIntA W v0 (l.getD i C.fn0).params ∧ SInA W v1 (l.getD i C.fn0).ins := by
  obtain ⟨ad, c, e, h1⟩ := h
  rcases h1 with h1 | ⟨a, e1, e2, e3⟩
  · rw [h1] at hi; exact absurd hi (Nat.not_lt_zero _)
  · subst e1
    exact ⟨a, c, e, e2, e3 i hi⟩
/-- The first j elements of a row that is being made. -/
def SFnF (g : Nat) (W : World) (l : List C.Fn) (j : Nat) : Prop := ∃ cur, W.heap[g]? = some (.cells cur 47 (0, 0)) ∧ cur.size = l.length * 5 ∧ ∀ i, i < j → ∃ v0 v1, cur[i * 5]? = some (.string (l.getD i C.fn0).name) ∧ cur[i * 5 + 1]? = some (v0) ∧ cur[i * 5 + 2]? = some (.int .i64 (l.getD i C.fn0).result) ∧ cur[i * 5 + 3]? = some (.int .i64 (l.getD i C.fn0).slots) ∧ cur[i * 5 + 4]? = some (v1) ∧ SIntR (g + 1) W v0 (l.getD i C.fn0).params ∧ SInR (g + 1) W v1 (l.getD i C.fn0).ins
/-- A row that was made: it lies at B or above, what its elements hold above it. -/
def SFnR (B : Nat) (W : World) (v : Value) (l : List C.Fn) : Prop := ∃ g, v = .slice (some ⟨g, 0, none⟩) l.length l.length ∧ B ≤ g ∧ SFnF g W l l.length
theorem SFnF.keep {g : Nat} {W V : World} {l : List C.Fn} {j : Nat} (h : SFnF g W l j) (hk : ∀ i, g ≤ i → i < W.heap.size → V.heap[i]? = W.heap[i]?) : SFnF g V l j := by
  obtain ⟨cur, h1, h2, h3⟩ := h
  refine ⟨cur, (hk g (Nat.le_refl _) (lt_hp h1)).trans h1, h2, fun i hi => ?_⟩
  obtain ⟨v0, v1, d0, d1, d2, d3, d4, r0, r1⟩ := h3 i hi
  exact ⟨v0, v1, d0, d1, d2, d3, d4, r0.keep fun x hx hy => hk x (by omega) hy, r1.keep fun x hx hy => hk x (by omega) hy⟩
theorem SFnR.keep {B : Nat} {W V : World} {v : Value} {l : List C.Fn} (h : SFnR B W v l) (hk : ∀ i, B ≤ i → i < W.heap.size → V.heap[i]? = W.heap[i]?) : SFnR B V v l := by
  obtain ⟨g, e, hg, h1⟩ := h
  exact ⟨g, e, hg, h1.keep fun i hi hj => hk i (by omega) hj⟩
theorem SFnR.next {B : Nat} {W V : World} {v : Value} {l : List C.Fn} (h : SFnR B W v l) (hb : Below W.heap.size W V) : SFnR B V v l := h.keep fun i _ hj => hb.block i hj
theorem SFnR.set {B : Nat} {W : World} {v : Value} {l : List C.Fn} (h : SFnR B W v l) {b : Nat} (hb : b < B) (i : Nat) (u : Value) : SFnR B (W.setCell ⟨b, i, none⟩ u) v l := h.keep fun x hx _ => set_other _ _ _ _ _ (by omega)
theorem SFnR.mono {B B' : Nat} {W : World} {v : Value} {l : List C.Fn} (h : SFnR B W v l) (hb : B' ≤ B) : SFnR B' W v l := by
  obtain ⟨g, e, hg, h1⟩ := h
  exact ⟨g, e, Nat.le_trans hb hg, h1⟩
theorem SFnR.sl {B : Nat} {W : World} {v : Value} {l : List C.Fn} (h : SFnR B W v l) : ∃ g, v = .slice (some ⟨g, 0, none⟩) l.length l.length := by
  obtain ⟨g, e, _⟩ := h
  exact ⟨g, e⟩
theorem SFnR.at {B : Nat} {W : World} {v : Value} {l : List C.Fn} (h : SFnR B W v l) {i : Nat} (hi : i < l.length) : ∃ g, v = .slice (some ⟨g, 0, none⟩) l.length l.length ∧ B ≤ g ∧ g < W.heap.size ∧ ∃ v0 v1, W.cell? ⟨g, i * 5, none⟩ = some (.string (l.getD i C.fn0).name) ∧ W.cell? ⟨g, i * 5 + 1, none⟩ = some (v0) ∧ W.cell? ⟨g, i * 5 + 2, none⟩ = some (.int .i64 (l.getD i C.fn0).result) ∧ W.cell? ⟨g, i * 5 + 3, none⟩ = some (.int .i64 (l.getD i C.fn0).slots) ∧ W.cell? ⟨g, i * 5 + 4, none⟩ = some (v1) ∧ SIntR (g + 1) W v0 (l.getD i C.fn0).params ∧ SInR (g + 1) W v1 (l.getD i C.fn0).ins := by
  obtain ⟨g, e, hg, cur, h1, h2, h3⟩ := h
  obtain ⟨v0, v1, d0, d1, d2, d3, d4, r0, r1⟩ := h3 i hi
  exact ⟨g, e, hg, lt_hp h1, v0, v1, (row_cell h1 _).trans d0, (row_cell h1 _).trans d1, (row_cell h1 _).trans d2, (row_cell h1 _).trans d3, (row_cell h1 _).trans d4, r0, r1⟩
theorem SFnF.step {g : Nat} {W : World} {l : List C.Fn} {j : Nat} (h : SFnF g W l j) (hj : j < l.length) {u0 : Value} {u1 : Value} (k0 : SIntR (g + 1) W u0 (l.getD j C.fn0).params) (k1 : SInR (g + 1) W u1 (l.getD j C.fn0).ins) : SFnF g (((((W.setCell ⟨g, j * 5, none⟩ (.string (l.getD j C.fn0).name)).setCell ⟨g, j * 5 + 1, none⟩ u0).setCell ⟨g, j * 5 + 2, none⟩ (.int .i64 (l.getD j C.fn0).result)).setCell ⟨g, j * 5 + 3, none⟩ (.int .i64 (l.getD j C.fn0).slots)).setCell ⟨g, j * 5 + 4, none⟩ u1) l (j + 1) := by
  obtain ⟨cur, h1, h2, h3⟩ := h
  refine ⟨_, (set_at (i := j * 5 + 4) u1 (set_at (i := j * 5 + 3) (.int .i64 (l.getD j C.fn0).slots) (set_at (i := j * 5 + 2) (.int .i64 (l.getD j C.fn0).result) (set_at (i := j * 5 + 1) u0 (set_at (i := j * 5) (.string (l.getD j C.fn0).name) h1))))), by simp [h2], fun i hi => ?_⟩
  by_cases hij : i = j
  · subst hij
    exact ⟨u0, u1, (by rw [Array.getElem?_setIfInBounds_ne (by omega), Array.getElem?_setIfInBounds_ne (by omega), Array.getElem?_setIfInBounds_ne (by omega), Array.getElem?_setIfInBounds_ne (by omega), Array.getElem?_setIfInBounds_self_of_lt (by first | omega | (simp; omega))]), (by rw [Array.getElem?_setIfInBounds_ne (by omega), Array.getElem?_setIfInBounds_ne (by omega), Array.getElem?_setIfInBounds_ne (by omega), Array.getElem?_setIfInBounds_self_of_lt (by first | omega | (simp; omega))]), (by rw [Array.getElem?_setIfInBounds_ne (by omega), Array.getElem?_setIfInBounds_ne (by omega), Array.getElem?_setIfInBounds_self_of_lt (by first | omega | (simp; omega))]), (by rw [Array.getElem?_setIfInBounds_ne (by omega), Array.getElem?_setIfInBounds_self_of_lt (by first | omega | (simp; omega))]), (by rw [Array.getElem?_setIfInBounds_self_of_lt (by first | omega | (simp; omega))]), (((((k0.set (by omega) _ _).set (by omega) _ _).set (by omega) _ _).set (by omega) _ _).set (by omega) _ _), (((((k1.set (by omega) _ _).set (by omega) _ _).set (by omega) _ _).set (by omega) _ _).set (by omega) _ _)⟩
  · obtain ⟨v0, v1, d0, d1, d2, d3, d4, r0, r1⟩ := h3 i (by omega)
    exact ⟨v0, v1, (by rw [Array.getElem?_setIfInBounds_ne (by omega), Array.getElem?_setIfInBounds_ne (by omega), Array.getElem?_setIfInBounds_ne (by omega), Array.getElem?_setIfInBounds_ne (by omega), Array.getElem?_setIfInBounds_ne (by omega)]; exact d0), (by rw [Array.getElem?_setIfInBounds_ne (by omega), Array.getElem?_setIfInBounds_ne (by omega), Array.getElem?_setIfInBounds_ne (by omega), Array.getElem?_setIfInBounds_ne (by omega), Array.getElem?_setIfInBounds_ne (by omega)]; exact d1), (by rw [Array.getElem?_setIfInBounds_ne (by omega), Array.getElem?_setIfInBounds_ne (by omega), Array.getElem?_setIfInBounds_ne (by omega), Array.getElem?_setIfInBounds_ne (by omega), Array.getElem?_setIfInBounds_ne (by omega)]; exact d2), (by rw [Array.getElem?_setIfInBounds_ne (by omega), Array.getElem?_setIfInBounds_ne (by omega), Array.getElem?_setIfInBounds_ne (by omega), Array.getElem?_setIfInBounds_ne (by omega), Array.getElem?_setIfInBounds_ne (by omega)]; exact d3), (by rw [Array.getElem?_setIfInBounds_ne (by omega), Array.getElem?_setIfInBounds_ne (by omega), Array.getElem?_setIfInBounds_ne (by omega), Array.getElem?_setIfInBounds_ne (by omega), Array.getElem?_setIfInBounds_ne (by omega)]; exact d4), (((((r0.set (by omega) _ _).set (by omega) _ _).set (by omega) _ _).set (by omega) _ _).set (by omega) _ _), (((((r1.set (by omega) _ _).set (by omega) _ _).set (by omega) _ _).set (by omega) _ _).set (by omega) _ _)⟩
theorem SFnF.lt {g : Nat} {W : World} {l : List C.Fn} {j : Nat} (h : SFnF g W l j) : g < W.heap.size := by
  obtain ⟨cur, h1, _⟩ := h
  exact lt_hp h1
theorem SFnF.room {g : Nat} {W : World} {l : List C.Fn} {j : Nat} (h : SFnF g W l j) {i : Nat} (hi : i < l.length * 5) : (∃ v, W.cell? ⟨g, i, none⟩ = some v) ∧ W.frozen? ⟨g, i, none⟩ = false := by
  obtain ⟨cur, h1, h2, _⟩ := h
  exact row_room h1 (by omega)
def wFn (x : C.Fn) : Nat := x.name.size + x.params.length + wSIn x.ins x.ins.length
def OkFn (x : C.Fn) : Prop := x.name.size ≤ maxLen ∧ x.params.length ≤ maxLen ∧ (-9223372036854775808 ≤ x.result ∧ x.result ≤ 9223372036854775807) ∧ (-9223372036854775808 ≤ x.slots ∧ x.slots ≤ 9223372036854775807) ∧ OkInS x.ins
def LoFn (x : C.Fn) : Prop := x.params.length ≤ 1048576 ∧ LoInS x.ins
def wSFn (l : List C.Fn) : Nat → Nat
  | 0 => 0
  | n + 1 => wSFn l n + 1 + wFn (l.getD n C.fn0)
theorem wSFn_ge (l : List C.Fn) (n : Nat) : n ≤ wSFn l n := by
  induction n with
  | zero => exact Nat.le_refl _
  | succ n ih => simp only [wSFn]; omega
theorem wSFn_mono (l : List C.Fn) {j n : Nat} (h : j ≤ n) : wSFn l j ≤ wSFn l n := by
  induction h with
  | refl => exact Nat.le_refl _
  | step _ ih => simp only [wSFn]; omega
theorem wSFn_at (l : List C.Fn) {n m : Nat} (h : n < m) : wSFn l n + 1 + wFn (l.getD n C.fn0) ≤ wSFn l m := wSFn_mono l (Nat.succ_le_of_lt h)
def OkFnS (l : List C.Fn) : Prop := l.length ≤ maxLen ∧ ∀ i, i < l.length → OkFn (l.getD i C.fn0)
def LoFnS (l : List C.Fn) : Prop := l.length ≤ 1048576 ∧ ∀ i, i < l.length → LoFn (l.getD i C.fn0)
theorem loFn_of {x : C.Fn} (h : wFn x ≤ 1048576) : LoFn x := by
  simp only [wFn] at h
  exact ⟨by omega, loInS_of (by omega)⟩
theorem loFnS_of {l : List C.Fn} (h : wSFn l l.length ≤ 1048576) : LoFnS l := ⟨Nat.le_trans (wSFn_ge l _) h, fun i hi => loFn_of (by have := wSFn_at l hi; omega)⟩
structure Cd where
  fns : List C.Fn
def wCd (x : Cd) : Nat := wSFn x.fns x.fns.length
def OkCd (x : Cd) : Prop := OkFnS x.fns
def LoCd (x : Cd) : Prop := LoFnS x.fns
end Go.Proofs.YtfedmbadhcdpdaaGreatDoor.R
/-! Sameness. -/
namespace Go.Proofs.YtfedmbadhcdpdaaGreatDoor.R
open Go.RowKit
set_option maxRecDepth 20000
set_option maxHeartbeats 4000000 in
theorem eqSInt_same (l : List Int) {u v : Value} {B : Nat} (w : World) (hx : l.length ≤ 1048576) (k0 : SIntR B w u l) (l0 : SIntR B w v l) :
    Calls Tryz.prog 56 #[u, v] w fun e w' => e = .returned (.bool true) ∧ Below w.heap.size w w' := by
  have H1 := hid k0
  have H2 := hid l0
  have HX := hid hx
  have hN : l.length ≤ 1048576 := hx
  obtain ⟨gu, rfl⟩ := k0.sl
  obtain ⟨gv, rfl⟩ := l0.sl
  clear k0 l0 hx
  have hne : ((l.length : Int) != (l.length : Int)) = false := by simp
  go_enter Tryz.func56, Tryz.ntmps56
  go_wp2
  go_loopw [5] (fun i wr => ∃ j : Nat, j ≤ l.length ∧ i = .int .i64 j ∧ Below w.heap.size w wr) (fun i _ => l.length - (intOf i).toNat)
  case atStart => exact ⟨0, Nat.zero_le _, rfl, Below.refl _ _⟩
  case round =>
    obtain ⟨j, hj, rfl, hbw⟩ := hrel
    have HBW := hid hbw
    clear hbw
    by_cases hlt : j < l.length
    · obtain ⟨g, e9, _, _, a0⟩ := (H1.out.next HBW.out).at hlt
      injection e9 with ea en ec
      injection ea with eb
      injection eb with ec2
      subst ec2
      obtain ⟨g2, e8, _, _, b0⟩ := (H2.out.next HBW.out).at hlt
      injection e8 with ea2 en2 ec3
      injection ea2 with eb2
      injection eb2 with ec4
      subst ec4
      clear en ec en2 ec3
      obtain ⟨x, hx⟩ : ∃ x, l.getD j 0 = x := ⟨_, rfl⟩
      rw [hx] at a0 b0
      clear hx
      have h5 : (x != x) = false := by simp
      go_wp2_with fail
      go_quiet (fail)
      go_wp2
      go_roundw
      case rel => exact ⟨j + 1, by omega, by go_num, below_drewN HBW.out nq⟩
      case measure => simp [intOf]; omega
    · obtain rfl : j = l.length := by omega
      go_wp2
      go_ret
      exact ⟨rfl, HBW.out⟩
end Go.Proofs.YtfedmbadhcdpdaaGreatDoor.R
/-! What came in. -/
namespace Go.Proofs.YtfedmbadhcdpdaaGreatDoor.R
open Go.RowKit
set_option maxRecDepth 20000
open Go.ChangeShapes Go.WideShapes Go.ChangeAt Go.Deep
theorem bounds {x : Int} (h : (Lit.int .i64 x).wf = true) : -9223372036854775808 ≤ x ∧ x ≤ 9223372036854775807 := by
  simpa [Lit.wf, IntKind.min, IntKind.max, IntKind.signed, IntKind.bits] using h
theorem cellsint : Tryz.prog.cellsOf 3 = 1 := by kernel_rfl
theorem cellsInt : Tryz.prog.cellsOf 3 = 1 := by kernel_rfl
theorem cellsStr : Tryz.prog.cellsOf 9 = 1 := by kernel_rfl
theorem cellsSInt : Tryz.prog.cellsOf 41 = 1 := by kernel_rfl
theorem SInt_open {H : Type} {enc : TypeId × Value → H} {W : World} {base : Nat} {spare : Nat → Bool} {held : Bool} {n : Nat} {v : Value} {z : DataW H × List MemPlace} (f0 : DataW.trod enc Tryz.prog W base spare held n 41 [v] = some z) :
    ∃ l : List Int, SIntA W v l ∧ l.length ≤ maxLen := by
  rcases open_slice Tryz.underlying41 f0 with ⟨e, _⟩ | ⟨a, len, cap, m, n2, D, Pl, e, hb, hlc, hcm, hm, _, hel⟩
  · exact ⟨[], ⟨none, 0, by simpa using e, .inl rfl⟩, Nat.zero_le _⟩
  · have hall : ∀ i, ∃ x : Int, i < len → (IntA W (a.add i) x) ∧ True ∧ a.block < W.heap.size := fun i => by
      by_cases hi : i < len
      · have hm2 : len ≤ m := by rw [hm]; split <;> omega
        obtain ⟨cs', hc, ht⟩ := hel i (by omega)
        rw [cellsint, Nat.mul_one] at hc
        obtain ⟨x, e0, _, _⟩ := DataW.trod_int Tryz.underlying3 ht
        subst e0
        refine ⟨x, fun _ => ?_⟩
        have hbl := World.cells?_block hc (by omega)
        rw [add_block] at hbl
        obtain ⟨_, _, hg⟩ := World.cells?_some hc
        exact ⟨(by have := hg 0 (by omega); simpa [Addr.add, IntA] using this), trivial, hbl⟩
      · exact ⟨0, fun h => absurd h hi⟩
    obtain ⟨f, hnd⟩ := Classical.skolem.1 hall
    have hget : ∀ i, i < len → ((List.range len).map f).getD i 0 = f i := fun i hi => by simp [List.getD_eq_getElem?_getD, hi]
    have hlen : ((List.range len).map f).length = len := by simp
    refine ⟨(List.range len).map f, ⟨some a, cap, by rw [hlen]; simpa using e, ?_⟩, ?_⟩
    · by_cases h0 : len = 0
      · subst h0; exact .inl rfl
      · refine .inr ⟨a, rfl, (hnd 0 (by omega)).2.2, fun i hi => ?_⟩
        rw [hlen] at hi
        rw [hget i hi]
        exact (hnd i hi).1
    · rw [hlen]; omega
theorem cellsIn : Tryz.prog.cellsOf 155 = 4 := by kernel_rfl
theorem In_open {H : Type} {enc : TypeId × Value → H} {W : World} {base : Nat} {spare : Nat → Bool} {held : Bool} {n : Nat} {cs : List Value} {z : DataW H × List MemPlace} (h : DataW.trod enc Tryz.prog W base spare held n 155 cs = some z) :
    ∃ (x : C.In), cs = [.int .i64 x.op, .int .i64 x.a, .int .i64 x.n, .string x.text] ∧ OkIn x := by
  obtain ⟨xs, m, _, _, hl, hlen, hf⟩ := DataW.trod_struct Tryz.underlying155 h
  rw [cellsIn] at hl
  match cs, hl with
  | [c0, c1, c2, c3], _ =>
    match xs, hlen with
    | [y0, y1, y2, y3], _ =>
      have f0 := hf 0 _ rfl
      simp [cellsInt] at f0
      obtain ⟨x0, e0, _, h0⟩ := DataW.trod_int Tryz.underlying3 f0
      cases e0
      have f1 := hf 1 _ rfl
      simp [cellsInt] at f1
      obtain ⟨x1, e1, _, h1⟩ := DataW.trod_int Tryz.underlying3 f1
      cases e1
      have f2 := hf 2 _ rfl
      simp at f2
      obtain ⟨x2, e2, _, h2⟩ := DataW.trod_int Tryz.underlying2 f2
      cases e2
      have f3 := hf 3 _ rfl
      simp [cellsStr] at f3
      obtain ⟨x3, e3, _, h3⟩ := DataW.trod_string Tryz.underlying9 f3
      cases e3
      exact ⟨⟨x0, x1, x2, x3⟩, rfl, ⟨(bounds h0), (bounds h1), (bounds h2), h3⟩⟩
theorem cellsSIn : Tryz.prog.cellsOf 70 = 1 := by kernel_rfl
theorem SIn_open {H : Type} {enc : TypeId × Value → H} {W : World} {base : Nat} {spare : Nat → Bool} {held : Bool} {n : Nat} {v : Value} {z : DataW H × List MemPlace} (f0 : DataW.trod enc Tryz.prog W base spare held n 70 [v] = some z) :
    ∃ l : List C.In, SInA W v l ∧ OkInS l := by
  rcases open_slice Tryz.underlying70 f0 with ⟨e, _⟩ | ⟨a, len, cap, m, n2, D, Pl, e, hb, hlc, hcm, hm, _, hel⟩
  · exact ⟨[], ⟨none, 0, by simpa using e, .inl rfl⟩, ⟨Nat.zero_le _, fun i h => absurd h (Nat.not_lt_zero _)⟩⟩
  · have hall : ∀ i, ∃ x : C.In, i < len → (InA W (a.add (i * 4)) x) ∧ OkIn x ∧ a.block < W.heap.size := fun i => by
      by_cases hi : i < len
      · have hm2 : len ≤ m := by rw [hm]; split <;> omega
        obtain ⟨cs', hc, ht⟩ := hel i (by omega)
        rw [cellsIn] at hc
        obtain ⟨x, rfl, hx⟩ := In_open ht
        refine ⟨x, fun _ => ?_⟩
        have hbl := World.cells?_block hc (by omega)
        rw [add_block] at hbl
        obtain ⟨_, _, hg⟩ := World.cells?_some hc
        exact ⟨⟨(by have := hg 0 (by omega); simpa [Addr.add] using this), (by have := hg 1 (by omega); rw [add_one _ 1 (by decide)] at this; simpa using this), (by have := hg 2 (by omega); rw [add_one _ 2 (by decide)] at this; simpa using this), (by have := hg 3 (by omega); rw [add_one _ 3 (by decide)] at this; simpa using this)⟩, hx, hbl⟩
      · exact ⟨C.in0, fun h => absurd h hi⟩
    obtain ⟨f, hnd⟩ := Classical.skolem.1 hall
    have hget : ∀ i, i < len → ((List.range len).map f).getD i C.in0 = f i := fun i hi => by simp [List.getD_eq_getElem?_getD, hi]
    have hlen : ((List.range len).map f).length = len := by simp
    refine ⟨(List.range len).map f, ⟨some a, cap, by rw [hlen]; simpa using e, ?_⟩, ?_⟩
    · by_cases h0 : len = 0
      · subst h0; exact .inl rfl
      · refine .inr ⟨a, rfl, (hnd 0 (by omega)).2.2, fun i hi => ?_⟩
        rw [hlen] at hi
        rw [hget i hi]
        exact (hnd i hi).1
    · refine ⟨by rw [hlen]; omega, fun i hi => ?_⟩
      rw [hlen] at hi
      rw [hget i hi]
      exact (hnd i hi).2.1
theorem cellsFn : Tryz.prog.cellsOf 72 = 5 := by kernel_rfl
theorem Fn_open {H : Type} {enc : TypeId × Value → H} {W : World} {base : Nat} {spare : Nat → Bool} {held : Bool} {n : Nat} {cs : List Value} {z : DataW H × List MemPlace} (h : DataW.trod enc Tryz.prog W base spare held n 72 cs = some z) :
    ∃ (x : C.Fn) (v0 : Value) (v1 : Value), cs = [.string x.name, v0, .int .i64 x.result, .int .i64 x.slots, v1] ∧ SIntA W v0 x.params ∧ SInA W v1 x.ins ∧ OkFn x := by
  obtain ⟨xs, m, _, _, hl, hlen, hf⟩ := DataW.trod_struct Tryz.underlying72 h
  rw [cellsFn] at hl
  match cs, hl with
  | [c0, c1, c2, c3, c4], _ =>
    match xs, hlen with
    | [y0, y1, y2, y3, y4], _ =>
      have f0 := hf 0 _ rfl
      simp [cellsStr] at f0
      obtain ⟨x0, e0, _, h0⟩ := DataW.trod_string Tryz.underlying9 f0
      cases e0
      have f1 := hf 1 _ rfl
      simp [cellsSInt] at f1
      obtain ⟨x1, r1, h1⟩ := SInt_open f1
      have f2 := hf 2 _ rfl
      simp [cellsInt] at f2
      obtain ⟨x2, e2, _, h2⟩ := DataW.trod_int Tryz.underlying3 f2
      cases e2
      have f3 := hf 3 _ rfl
      simp [cellsInt] at f3
      obtain ⟨x3, e3, _, h3⟩ := DataW.trod_int Tryz.underlying3 f3
      cases e3
      have f4 := hf 4 _ rfl
      simp [cellsSIn] at f4
      obtain ⟨x4, r4, h4⟩ := SIn_open f4
      exact ⟨⟨x0, x1, x2, x3, x4⟩, c1, c4, rfl, r1, r4, ⟨h0, h1, (bounds h2), (bounds h3), h4⟩⟩
theorem cellsSFn : Tryz.prog.cellsOf 22 = 1 := by kernel_rfl
theorem SFn_open {H : Type} {enc : TypeId × Value → H} {W : World} {base : Nat} {spare : Nat → Bool} {held : Bool} {n : Nat} {v : Value} {z : DataW H × List MemPlace} (f0 : DataW.trod enc Tryz.prog W base spare held n 22 [v] = some z) :
    ∃ l : List C.Fn, SFnA W v l ∧ OkFnS l := by
  rcases open_slice Tryz.underlying22 f0 with ⟨e, _⟩ | ⟨a, len, cap, m, n2, D, Pl, e, hb, hlc, hcm, hm, _, hel⟩
  · exact ⟨[], ⟨none, 0, by simpa using e, .inl rfl⟩, ⟨Nat.zero_le _, fun i h => absurd h (Nat.not_lt_zero _)⟩⟩
  · have hall : ∀ i, ∃ x : C.Fn, i < len → (∃ v0 v1, FnA W (a.add (i * 5)) x v0 v1 ∧ SIntA W v0 x.params ∧ SInA W v1 x.ins) ∧ OkFn x ∧ a.block < W.heap.size := fun i => by
      by_cases hi : i < len
      · have hm2 : len ≤ m := by rw [hm]; split <;> omega
        obtain ⟨cs', hc, ht⟩ := hel i (by omega)
        rw [cellsFn] at hc
        obtain ⟨x, v0, v1, rfl, t0, t1, hx⟩ := Fn_open ht
        refine ⟨x, fun _ => ?_⟩
        have hbl := World.cells?_block hc (by omega)
        rw [add_block] at hbl
        obtain ⟨_, _, hg⟩ := World.cells?_some hc
        exact ⟨⟨v0, v1, ⟨(by have := hg 0 (by omega); simpa [Addr.add] using this), (by have := hg 1 (by omega); rw [add_one _ 1 (by decide)] at this; simpa using this), (by have := hg 2 (by omega); rw [add_one _ 2 (by decide)] at this; simpa using this), (by have := hg 3 (by omega); rw [add_one _ 3 (by decide)] at this; simpa using this), (by have := hg 4 (by omega); rw [add_one _ 4 (by decide)] at this; simpa using this)⟩, t0, t1⟩, hx, hbl⟩
      · exact ⟨C.fn0, fun h => absurd h hi⟩
    obtain ⟨f, hnd⟩ := Classical.skolem.1 hall
    have hget : ∀ i, i < len → ((List.range len).map f).getD i C.fn0 = f i := fun i hi => by simp [List.getD_eq_getElem?_getD, hi]
    have hlen : ((List.range len).map f).length = len := by simp
    refine ⟨(List.range len).map f, ⟨some a, cap, by rw [hlen]; simpa using e, ?_⟩, ?_⟩
    · by_cases h0 : len = 0
      · subst h0; exact .inl rfl
      · refine .inr ⟨a, rfl, (hnd 0 (by omega)).2.2, fun i hi => ?_⟩
        rw [hlen] at hi
        rw [hget i hi]
        exact (hnd i hi).1
    · refine ⟨by rw [hlen]; omega, fun i hi => ?_⟩
      rw [hlen] at hi
      rw [hget i hi]
      exact (hnd i hi).2.1
theorem cellsCd : Tryz.prog.cellsOf 24 = 1 := by kernel_rfl
theorem Cd_open {H : Type} {enc : TypeId × Value → H} {W : World} {base : Nat} {spare : Nat → Bool} {held : Bool} {n : Nat} {cs : List Value} {z : DataW H × List MemPlace} (h : DataW.trod enc Tryz.prog W base spare held n 24 cs = some z) :
    ∃ (x : Cd) (v0 : Value), cs = [v0] ∧ SFnA W v0 x.fns ∧ OkCd x := by
  obtain ⟨xs, m, _, _, hl, hlen, hf⟩ := DataW.trod_struct Tryz.underlying24 h
  rw [cellsCd] at hl
  match cs, hl with
  | [c0], _ =>
    match xs, hlen with
    | [y0], _ =>
      have f0 := hf 0 _ rfl
      simp [cellsSFn] at f0
      obtain ⟨x0, r0, h0⟩ := SFn_open f0
      exact ⟨⟨x0⟩, c0, rfl, r0, h0⟩
end Go.Proofs.YtfedmbadhcdpdaaGreatDoor.R
/-! Sizes. -/
namespace Go.Proofs.YtfedmbadhcdpdaaGreatDoor.R
open Go.RowKit
set_option maxRecDepth 20000
set_option maxHeartbeats 1000000 in
theorem szInt_any (ad : Option Addr) (N c : Nat) (l : Int) (w : World) (hl : 0 ≤ l) (hl2 : l ≤ 1048576) (hN : N ≤ maxLen) :
    Calls Tryz.prog 59 #[.slice ad N c, .int .i64 l] w (SzEnd l N w) := by
  have hN' := small hN
  clear hN
  by_cases h1 : l - (N : Int) < 0
  · go_enter Tryz.func59, Tryz.ntmps59
    go_wp2
    go_ret
    exact ⟨⟨_, rfl, by omega, by omega, fun h => by omega⟩, Below.refl _ _⟩
  · go_enter Tryz.func59, Tryz.ntmps59
    go_wp2
    go_ret
    exact ⟨⟨_, rfl, by omega, by omega, fun h => by omega⟩, Below.refl _ _⟩
end Go.Proofs.YtfedmbadhcdpdaaGreatDoor.R
/-! Copies. -/
namespace Go.Proofs.YtfedmbadhcdpdaaGreatDoor.R
open Go.RowKit
set_option maxRecDepth 20000
theorem info_Int : (Tryz.prog.info? 3).map (fun i => (i.zero, i.size, i.bytes)) = some (some (.int .i64 0), 1, 8) := by kernel_rfl
set_option maxHeartbeats 4000000 in
theorem toSInt_any (l : List Int) {v : Value} (w : World) (hx : l.length ≤ 1048576) (k0 : SIntA w v l) :
    Calls Tryz.prog 70 #[v] w fun e w' => ∃ u, e = .returned u ∧ SIntR w.heap.size w' u l ∧ Below w.heap.size w w' := by
  have HK := hid k0
  have HX := hid hx
  have hN : l.length ≤ 1048576 := hx
  obtain ⟨ad, cap, rfl⟩ := k0.sl
  clear hx k0
  obtain ⟨i0, hi, hz0, hz1, hz2⟩ := info_parts info_Int
  have HHI := hid (And.intro hi (And.intro hz0 (And.intro hz1 hz2)))
  clear hi hz0 hz1
  go_enter Tryz.func70, Tryz.ntmps70
  go_wp2_with (at_make; refine wpList_make_full _ rfl _ _ 41 rfl w.heap.size 3 i0 (.int .i64 0) 1 Tryz.underlying41 HHI.out.1 HHI.out.2.1 HHI.out.2.2.1 _ _ _ _ l.length rfl rfl rfl rfl (by rw [hz2]; omega) (by unfold maxLen; omega) (Nat.le_refl _) ?_; intro w1 o1 g1)
  have HF0 : Hid (SIntF w.heap.size w1 l 0) := by
    obtain ⟨h1, ⟨h2, _⟩ | ⟨g, c, cur, e, _, h4, _, _, h7, _⟩⟩ := o1
    · cases h2
    · cases e
      exact ⟨cur, h4, h7, fun i h => absurd h (Nat.not_lt_zero _)⟩
  have HB0 := hid ((Below.refl w.heap.size w).grown g1 (Nat.le_refl _) (fun q e => by cases e))
  clear o1 g1
  go_loopw [4] (fun i wr => ∃ j : Nat, j ≤ l.length ∧ i = .int .i64 j ∧ SIntF w.heap.size wr l j ∧ Below w.heap.size w wr) (fun i _ => l.length - (intOf i).toNat)
  case atStart => exact ⟨0, Nat.zero_le _, rfl, HF0.out, HB0.out⟩
  case round =>
    obtain ⟨j, hj, rfl, hfi, hbw⟩ := hrel
    have HFI := hid hfi
    have HBW := hid hbw
    have hgl := hfi.lt
    clear hfi hbw
    by_cases hlt : j < l.length
    · obtain ⟨a, c, e9, hal, c0⟩ := (HK.out.next HBW.out).at hlt
      injection e9 with ea en ec
      clear en
      subst ea ec
      have HFX := hid (HFI.out.step hlt)
      obtain ⟨⟨v0, x0⟩, y0⟩ := HFI.out.room (i := j) (by omega)
      obtain ⟨x, hx⟩ : ∃ x, l.getD j 0 = x := ⟨_, rfl⟩
      rw [hx] at c0 HFX
      clear hx
      unfold IntA at c0
      go_wp2
      go_roundw
      case rel => exact ⟨j + 1, by omega, by go_num, HFX.out, below_set HBW.out _ _ (Nat.le_refl _) _⟩
      case measure => simp [intOf]; omega
    · obtain rfl : j = l.length := by omega
      go_wp2
      go_ret
      exact ⟨_, rfl, ⟨w.heap.size, rfl, Nat.le_refl _, HFI.out⟩, HBW.out⟩
end Go.Proofs.YtfedmbadhcdpdaaGreatDoor.R
/-! What an instruction gives, in the model: operation 3. -/
namespace Go.Proofs.YtfedmbadhcdpdaaGreatDoor.C
open Go.RowKit
set_option maxRecDepth 20000
set_option maxHeartbeats 1000000 in
theorem gives_3 (fns : List Fn) (f : Fn) (a : Int) (n : Int) (tx : ByteArray) (sl sk : List Int) (w : World) (cv pv iv av bv : Value) (h1 : FnsRow w cv fns) (h2 : IntRow w pv f.params) (h3 : InsRow w iv f.ins) (h4 : IntRow w av sl) (h5 : IntRow w bv sk) (hn : sk.length ≤ 1000) :
    Calls Tryz.prog 38 #[.agg #[cv], .agg #[.string f.name, pv, .int .i64 f.result, .int .i64 f.slots, iv], .agg #[.int .i64 3, .int .i64 a, .int .i64 n, .string tx], .agg #[.int .i64 1, av, bv]] w (GvEnd fns f ⟨3, a, n, tx⟩ sl sk w) := by
  obtain ⟨adA, cA, rfl⟩ := h4.sl
  obtain ⟨adB, cB, rfl⟩ := h5.sl
  have HX := hid (boxes (i := ⟨3, a, n, tx⟩) h1 h2 h3 h4 h5)
  have HTK : Hid (takesN fns ⟨3, a, n, tx⟩ = 1) := hid (by simp [takesN])
  have HEF : Hid (∀ tk, eff fns f ⟨3, a, n, tx⟩ sl tk = some []) := hid (by intro tk; simp [eff])
  clear h1 h2 h3 h4 h5
  go_enter Tryz.func38, Tryz.ntmps38
  go_upto_region 1 with fail
  obtain ⟨W, hW⟩ : ∃ W, ((((w.alloc (.cells #[cv] 30)).alloc (.cells #[.string f.name, pv, .int .i64 f.result, .int .i64 f.slots, iv] 47)).alloc (.cells #[.int .i64 3, .int .i64 a, .int .i64 n, .string tx] 76)).alloc (.cells #[.int .i64 1, .slice adA sl.length cA, .slice adB sk.length cB] 43)) = W := ⟨_, rfl⟩
  have HX2 : Hid _ := hid (hW ▸ HX.out)
  rw [hW]
  clear hW HX
  have x0 := HX2.out.i0
  have x1 := HX2.out.i1
  have y1 := HX2.out.s1
  have y2 := HX2.out.s2
  go_upto_if 26 with fail
  go_cut [12] (fun v wx => v = .int .i64 (tp sk) ∧ wx = W)
  case first =>
    by_cases hp : 0 < sk.length
    · obtain ⟨g, c, e9, _, _, _, hc⟩ := HX2.out.sk_.at hp
      injection e9 with ea _ ec
      subst ea ec
      have hpi : (0 : Int) < (sk.length : Int) := by omega
      have hwr : IntKind.i64.wrap ((sk.length : Int) - 1) = ((sk.length - 1 : Nat) : Int) := by rw [IntKind.wrap_i64]; omega
      have hlt : ((sk.length - 1 : Nat) : Int) < (sk.length : Int) := by omega
      have hct := hc (sk.length - 1) (by omega)
      rw [tp_at hp] at hct
      clear hc
      go_wp2_with fail
      go_meet
      case rel => exact ⟨rfl, rfl⟩
    · have hpi : ¬ (0 : Int) < (sk.length : Int) := by omega
      have HT := hid (tp_none hp)
      clear hp
      go_wp2_with fail
      go_meet
      case rel => exact ⟨by rw [HT.out], rfl⟩
  case rest =>
    obtain ⟨rfl, rfl⟩ := hcut
    go_upto_if 34 with fail
    go_cut [13] (fun v wx => v = .int .i64 (bw sk) ∧ wx = wc)
    case first =>
      by_cases hp : 1 < sk.length
      · obtain ⟨g, c, e9, _, _, _, hc⟩ := HX2.out.sk_.at (i := 0) (by omega)
        injection e9 with ea _ ec
        subst ea ec
        have hpi : (1 : Int) < (sk.length : Int) := by omega
        have hwr : IntKind.i64.wrap ((sk.length : Int) - 2) = ((sk.length - 2 : Nat) : Int) := by rw [IntKind.wrap_i64]; omega
        have hlt : ((sk.length - 2 : Nat) : Int) < (sk.length : Int) := by omega
        have hct := hc (sk.length - 2) (by omega)
        rw [bw_at hp] at hct
        clear hc
        go_wp2_with fail
        go_meet
        case rel => exact ⟨rfl, rfl⟩
      · have hpi : ¬ (1 : Int) < (sk.length : Int) := by omega
        have HT := hid (bw_none hp)
        clear hp
        go_wp2_with fail
        go_meet
        case rel => exact ⟨by rw [HT.out], rfl⟩
    case rest =>
      obtain ⟨rfl, hwc⟩ := hcut
      subst hwc
      by_cases hp : 0 < sk.length
      · have hpi : (0 : Int) < (sk.length : Int) := by omega
        go_wp2
        go_ret3
        exact gv_ok (k := 1) (by first | exact HX2.out.lo.alloc HX2.out.lo.size _ | exact (HX2.out.lo.alloc HX2.out.lo.size _).drew) (by decide) HTK.out.symm (by omega) (HEF.out _) (by first | exact row0 _ | exact (row0 _).next (Below.refl _ _).drew)
      · have hpi : ¬ (0 : Int) < (sk.length : Int) := by omega
        go_wp2
        go_ret3
        exact gv_bad (k := 1) (by first | exact HX2.out.lo.alloc HX2.out.lo.size _ | exact (HX2.out.lo.alloc HX2.out.lo.size _).drew) (by decide) (.inl rfl) (fun h => by rw [HTK.out] at h; omega)
end Go.Proofs.YtfedmbadhcdpdaaGreatDoor.C
/-! Where two shapes come together, in the model. -/
namespace Go.Proofs.YtfedmbadhcdpdaaGreatDoor.C
open Go.RowKit
theorem ok_known {S : Nat} {a : Sh} (h : OkSh S a) (h1 : a.st = 1) : a.sl.length = S ∧ (∀ x ∈ a.sl, 0 ≤ x ∧ x ≤ 10) ∧ (∀ x ∈ a.sk, 1 ≤ x ∧ x ≤ 10) ∧ a.sk.length ≤ 600 := by
  rcases h with rfl | rfl | ⟨_, h⟩
  · simp [bot] at h1
  · simp [top] at h1
  · exact h
theorem ok_st {S : Nat} {a : Sh} (h : OkSh S a) : a.st = 0 ∨ a.st = 1 ∨ a.st = 2 := by
  rcases h with rfl | rfl | ⟨h, _⟩
  · exact .inl rfl
  · exact .inr (.inr rfl)
  · exact .inr (.inl h)
theorem join_any {S : Nat} {a b : Sh} (ha : OkSh S a) (hb : OkSh S b) (h0 : ¬ b.st = 0) (hS : S ≤ 200) {w : World} {av bv : Value} (h4 : ShV w av a) (h5 : ShV w bv b) : Calls Tryz.prog 37 #[av, bv] w (JoinEnd a b w) := by
  obtain ⟨x, y, rfl, r1, r2⟩ := h4
  obtain ⟨x', y', rfl, r3, r4⟩ := h5
  rcases ok_st ha with h | h | h
  · exact join_second0 h0 h w x y x' y' r1 r2 r3 r4
  · rcases ok_st hb with k | k | k
    · exact absurd k h0
    · have p := ok_known ha h
      have q := ok_known hb k
      exact join_known h k (p.1.trans q.1.symm) (by omega) (by omega) w x y x' y' r1 r2 r3 r4
    · exact join_second1 hb k h w x y x' y' r1 r2 r3 r4
  · exact join_first ha h0 h w x y x' y' r1 r2 r3 r4
end Go.Proofs.YtfedmbadhcdpdaaGreatDoor.C
