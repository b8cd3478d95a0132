import Derived.Test.YtfndbnbnimhnaaaGreatDoorJ02
import Derived.Test.YtfndbnbnimhnaaaGreatDoorJ09
/-! The structs of the law's arguments in memory. -/
namespace Go.Proofs.YtfndbnbnimhnaaaGreatDoor.R
open Go.RowKit
set_option maxRecDepth 20000
/-- The cells of an element at an address. -/
def IntA (W : World) (a : Addr) (x : Int) : Prop := W.cell? a = some (.int .i64 x)
theorem IntA.of {W V : World} {a : Addr} {x : Int} (h : IntA W a x) (hk : ∀ p : Addr, p.block = a.block → V.cell? p = W.cell? p) : IntA V a x := by
  exact (hk _ rfl).trans h
/-- A row that came in. -/
def SIntA (W : World) (v : Value) (l : List Int) : Prop := ∃ (ad : Option Addr) (c : Nat), v = .slice ad l.length c ∧ (l = [] ∨ ∃ a : Addr, ad = some a ∧ a.block < W.heap.size ∧ ∀ i, i < l.length → IntA W (a.add i) (l.getD i 0))
theorem SIntA.next {W V : World} {v : Value} {l : List Int} (h : SIntA W v l) (hb : Below W.heap.size W V) : SIntA V v l := by
  obtain ⟨ad, c, e, h1⟩ := h
  refine ⟨ad, c, e, ?_⟩
  rcases h1 with h1 | ⟨a, e1, e2, e3⟩
  · exact .inl h1
  · refine .inr ⟨a, e1, Nat.lt_of_lt_of_le e2 hb.size, fun i hi => ?_⟩
    exact (e3 i hi).of fun p hp => hb.cell (by rw [hp, add_block]; exact e2)
theorem SIntA.sl {W : World} {v : Value} {l : List Int} (h : SIntA W v l) : ∃ ad c, v = .slice ad l.length c := by
  obtain ⟨ad, c, e, _⟩ := h
  exact ⟨ad, c, e⟩
theorem SIntA.at {W : World} {v : Value} {l : List Int} (h : SIntA W v l) {i : Nat} (hi : i < l.length) : ∃ (a : Addr) (c : Nat), v = .slice (some a) l.length c ∧ a.block < W.heap.size ∧ IntA W (a.add i) (l.getD i 0) := by
  obtain ⟨ad, c, e, h1⟩ := h
  rcases h1 with h1 | ⟨a, e1, e2, e3⟩
  · rw [h1] at hi; exact absurd hi (Nat.not_lt_zero _)
  · subst e1
    exact ⟨a, c, e, e2, e3 i hi⟩
/-- The first j elements of a row that is being made. -/
def SIntF (g : Nat) (W : World) (l : List Int) (j : Nat) : Prop := ∃ cur, W.heap[g]? = some (.cells cur 3 (0, 0)) ∧ cur.size = l.length * 1 ∧ ∀ i, i < j → cur[i]? = some (.int .i64 (l.getD i 0))
/-- A row that was made: it lies at B or above, what its elements hold above it. -/
def SIntR (B : Nat) (W : World) (v : Value) (l : List Int) : Prop := ∃ g, v = .slice (some ⟨g, 0, none⟩) l.length l.length ∧ B ≤ g ∧ SIntF g W l l.length
theorem SIntF.keep {g : Nat} {W V : World} {l : List Int} {j : Nat} (h : SIntF g W l j) (hk : ∀ i, g ≤ i → i < W.heap.size → V.heap[i]? = W.heap[i]?) : SIntF g V l j := by
  obtain ⟨cur, h1, h2, h3⟩ := h
  exact ⟨cur, (hk g (Nat.le_refl _) (lt_hp h1)).trans h1, h2, h3⟩
theorem SIntR.keep {B : Nat} {W V : World} {v : Value} {l : List Int} (h : SIntR B W v l) (hk : ∀ i, B ≤ i → i < W.heap.size → V.heap[i]? = W.heap[i]?) : SIntR B V v l := by
  obtain ⟨g, e, hg, h1⟩ := h
  exact ⟨g, e, hg, h1.keep fun i hi hj => hk i (by omega) hj⟩
theorem SIntR.next {B : Nat} {W V : World} {v : Value} {l : List Int} (h : SIntR B W v l) (hb : Below W.heap.size W V) : SIntR B V v l := h.keep fun i _ hj => hb.block i hj
theorem SIntR.set {B : Nat} {W : World} {v : Value} {l : List Int} (h : SIntR B W v l) {b : Nat} (hb : b < B) (i : Nat) (u : Value) : SIntR B (W.setCell ⟨b, i, none⟩ u) v l := h.keep fun x hx _ => set_other _ _ _ _ _ (by omega)
theorem SIntR.mono {B B' : Nat} {W : World} {v : Value} {l : List Int} (h : SIntR B W v l) (hb : B' ≤ B) : SIntR B' W v l := by
  obtain ⟨g, e, hg, h1⟩ := h
  exact ⟨g, e, Nat.le_trans hb hg, h1⟩
theorem SIntR.sl {B : Nat} {W : World} {v : Value} {l : List Int} (h : SIntR B W v l) : ∃ g, v = .slice (some ⟨g, 0, none⟩) l.length l.length := by
  obtain ⟨g, e, _⟩ := h
  exact ⟨g, e⟩
theorem SIntR.at {B : Nat} {W : World} {v : Value} {l : List Int} (h : SIntR B W v l) {i : Nat} (hi : i < l.length) : ∃ g, v = .slice (some ⟨g, 0, none⟩) l.length l.length ∧ B ≤ g ∧ g < W.heap.size ∧ W.cell? ⟨g, i, none⟩ = some (.int .i64 (l.getD i 0)) := by
  obtain ⟨g, e, hg, cur, h1, h2, h3⟩ := h
  exact ⟨g, e, hg, lt_hp h1, (row_cell h1 _).trans (h3 i hi)⟩
theorem SIntF.step {g : Nat} {W : World} {l : List Int} {j : Nat} (h : SIntF g W l j) (hj : j < l.length) : SIntF g (W.setCell ⟨g, j, none⟩ (.int .i64 (l.getD j 0))) l (j + 1) := by
  obtain ⟨cur, h1, h2, h3⟩ := h
  refine ⟨_, (set_at (i := j) (.int .i64 (l.getD j 0)) h1), by simp [h2], fun i hi => ?_⟩
  by_cases hij : i = j
  · subst hij
    exact (by rw [Array.getElem?_setIfInBounds_self_of_lt (by first | omega | (simp; omega))])
  · exact (by rw [Array.getElem?_setIfInBounds_ne (by omega)]; exact h3 i (by omega))
theorem SIntF.lt {g : Nat} {W : World} {l : List Int} {j : Nat} (h : SIntF g W l j) : g < W.heap.size := by
  obtain ⟨cur, h1, _⟩ := h
  exact lt_hp h1
theorem SIntF.room {g : Nat} {W : World} {l : List Int} {j : Nat} (h : SIntF g W l j) {i : Nat} (hi : i < l.length * 1) : (∃ v, W.cell? ⟨g, i, none⟩ = some v) ∧ W.frozen? ⟨g, i, none⟩ = false := by
  obtain ⟨cur, h1, h2, _⟩ := h
  exact row_room h1 (by omega)
/-- The cells of an element at an address. -/
def InA (W : World) (a : Addr) (x : C.In) : Prop := W.cell? a = some (.int .i64 x.op) ∧ W.cell? ⟨a.block, a.off + 1, none⟩ = some (.int .i64 x.a) ∧ W.cell? ⟨a.block, a.off + 2, none⟩ = some (.int .i64 x.n) ∧ W.cell? ⟨a.block, a.off + 3, none⟩ = some (.string x.text)
theorem InA.of {W V : World} {a : Addr} {x : C.In} (h : InA W a x) (hk : ∀ p : Addr, p.block = a.block → V.cell? p = W.cell? p) : InA V a x := by
  obtain ⟨h0, h1, h2, h3⟩ := h
  exact ⟨(hk _ rfl).trans h0, (hk ⟨_, _, none⟩ rfl).trans h1, (hk ⟨_, _, none⟩ rfl).trans h2, (hk ⟨_, _, none⟩ rfl).trans h3⟩
/-- A row that came in. -/
def SInA (W : World) (v : Value) (l : List C.In) : Prop := ∃ (ad : Option Addr) (c : Nat), v = .slice ad l.length c ∧ (l = [] ∨ ∃ a : Addr, ad = some a ∧ a.block < W.heap.size ∧ ∀ i, i < l.length → InA W (a.add (i * 4)) (l.getD i C.in0))
theorem SInA.next {W V : World} {v : Value} {l : List C.In} (h : SInA W v l) (hb : Below W.heap.size W V) : SInA V v l := by
  obtain ⟨ad, c, e, h1⟩ := h
  refine ⟨ad, c, e, ?_⟩
  rcases h1 with h1 | ⟨a, e1, e2, e3⟩
  · exact .inl h1
  · refine .inr ⟨a, e1, Nat.lt_of_lt_of_le e2 hb.size, fun i hi => ?_⟩
    exact (e3 i hi).of fun p hp => hb.cell (by rw [hp, add_block]; exact e2)
theorem SInA.sl {W : World} {v : Value} {l : List C.In} (h : SInA W v l) : ∃ ad c, v = .slice ad l.length c := by
  obtain ⟨ad, c, e, _⟩ := h
  exact ⟨ad, c, e⟩
theorem SInA.at {W : World} {v : Value} {l : List C.In} (h : SInA W v l) {i : Nat} (hi : i < l.length) : ∃ (a : Addr) (c : Nat), v = .slice (some a) l.length c ∧ a.block < W.heap.size ∧ InA W (a.add (i * 4)) (l.getD i C.in0) := by
  obtain ⟨ad, c, e, h1⟩ := h
  rcases h1 with h1 | ⟨a, e1, e2, e3⟩
  · rw [h1] at hi; exact absurd hi (Nat.not_lt_zero _)
  · subst e1
    exact ⟨a, c, e, e2, e3 i hi⟩
/-- The first j elements of a row that is being made. -/
def SInF (g : Nat) (W : World) (l : List C.In) (j : Nat) : Prop := ∃ cur, W.heap[g]? = some (.cells cur 84 (0, 0)) ∧ cur.size = l.length * 4 ∧ ∀ i, i < j → cur[i * 4]? = some (.int .i64 (l.getD i C.in0).op) ∧ cur[i * 4 + 1]? = some (.int .i64 (l.getD i C.in0).a) ∧ cur[i * 4 + 2]? = some (.int .i64 (l.getD i C.in0).n) ∧ cur[i * 4 + 3]? = some (.string (l.getD i C.in0).text)
/-- A row that was made: it lies at B or above, what its elements hold above it. -/
def SInR (B : Nat) (W : World) (v : Value) (l : List C.In) : Prop := ∃ g, v = .slice (some ⟨g, 0, none⟩) l.length l.length ∧ B ≤ g ∧ SInF g W l l.length
theorem SInF.keep {g : Nat} {W V : World} {l : List C.In} {j : Nat} (h : SInF g W l j) (hk : ∀ i, g ≤ i → i < W.heap.size → V.heap[i]? = W.heap[i]?) : SInF g V l j := by
  obtain ⟨cur, h1, h2, h3⟩ := h
  exact ⟨cur, (hk g (Nat.le_refl _) (lt_hp h1)).trans h1, h2, h3⟩
theorem SInR.keep {B : Nat} {W V : World} {v : Value} {l : List C.In} (h : SInR B W v l) (hk : ∀ i, B ≤ i → i < W.heap.size → V.heap[i]? = W.heap[i]?) : SInR B V v l := by
  obtain ⟨g, e, hg, h1⟩ := h
  exact ⟨g, e, hg, h1.keep fun i hi hj => hk i (by omega) hj⟩
theorem SInR.next {B : Nat} {W V : World} {v : Value} {l : List C.In} (h : SInR B W v l) (hb : Below W.heap.size W V) : SInR B V v l := h.keep fun i _ hj => hb.block i hj
theorem SInR.set {B : Nat} {W : World} {v : Value} {l : List C.In} (h : SInR B W v l) {b : Nat} (hb : b < B) (i : Nat) (u : Value) : SInR B (W.setCell ⟨b, i, none⟩ u) v l := h.keep fun x hx _ => set_other _ _ _ _ _ (by omega)
theorem SInR.mono {B B' : Nat} {W : World} {v : Value} {l : List C.In} (h : SInR B W v l) (hb : B' ≤ B) : SInR B' W v l := by
  obtain ⟨g, e, hg, h1⟩ := h
  exact ⟨g, e, Nat.le_trans hb hg, h1⟩
theorem SInR.sl {B : Nat} {W : World} {v : Value} {l : List C.In} (h : SInR B W v l) : ∃ g, v = .slice (some ⟨g, 0, none⟩) l.length l.length := by
  obtain ⟨g, e, _⟩ := h
  exact ⟨g, e⟩
theorem SInR.at {B : Nat} {W : World} {v : Value} {l : List C.In} (h : SInR B W v l) {i : Nat} (hi : i < l.length) : ∃ g, v = .slice (some ⟨g, 0, none⟩) l.length l.length ∧ B ≤ g ∧ g < W.heap.size ∧ W.cell? ⟨g, i * 4, none⟩ = some (.int .i64 (l.getD i C.in0).op) ∧ W.cell? ⟨g, i * 4 + 1, none⟩ = some (.int .i64 (l.getD i C.in0).a) ∧ W.cell? ⟨g, i * 4 + 2, none⟩ = some (.int .i64 (l.getD i C.in0).n) ∧ W.cell? ⟨g, i * 4 + 3, none⟩ = some (.string (l.getD i C.in0).text) := by
  obtain ⟨g, e, hg, cur, h1, h2, h3⟩ := h
  obtain ⟨d0, d1, d2, d3⟩ := h3 i hi
  exact ⟨g, e, hg, lt_hp h1, (row_cell h1 _).trans d0, (row_cell h1 _).trans d1, (row_cell h1 _).trans d2, (row_cell h1 _).trans d3⟩
theorem SInF.step {g : Nat} {W : World} {l : List C.In} {j : Nat} (h : SInF g W l j) (hj : j < l.length) : SInF g ((((W.setCell ⟨g, j * 4, none⟩ (.int .i64 (l.getD j C.in0).op)).setCell ⟨g, j * 4 + 1, none⟩ (.int .i64 (l.getD j C.in0).a)).setCell ⟨g, j * 4 + 2, none⟩ (.int .i64 (l.getD j C.in0).n)).setCell ⟨g, j * 4 + 3, none⟩ (.string (l.getD j C.in0).text)) l (j + 1) := by
  obtain ⟨cur, h1, h2, h3⟩ := h
  refine ⟨_, (set_at (i := j * 4 + 3) (.string (l.getD j C.in0).text) (set_at (i := j * 4 + 2) (.int .i64 (l.getD j C.in0).n) (set_at (i := j * 4 + 1) (.int .i64 (l.getD j C.in0).a) (set_at (i := j * 4) (.int .i64 (l.getD j C.in0).op) h1)))), by simp [h2], fun i hi => ?_⟩
  by_cases hij : i = j
  · subst hij
    exact ⟨(by rw [Array.getElem?_setIfInBounds_ne (by omega), Array.getElem?_setIfInBounds_ne (by omega), Array.getElem?_setIfInBounds_ne (by omega), Array.getElem?_setIfInBounds_self_of_lt (by first | omega | (simp; omega))]), (by rw [Array.getElem?_setIfInBounds_ne (by omega), Array.getElem?_setIfInBounds_ne (by omega), Array.getElem?_setIfInBounds_self_of_lt (by first | omega | (simp; omega))]), (by rw [Array.getElem?_setIfInBounds_ne (by omega), Array.getElem?_setIfInBounds_self_of_lt (by first | omega | (simp; omega))]), (by rw [Array.getElem?_setIfInBounds_self_of_lt (by first | omega | (simp; omega))])⟩
  · obtain ⟨d0, d1, d2, d3⟩ := h3 i (by omega)
    exact ⟨(by rw [Array.getElem?_setIfInBounds_ne (by omega), Array.getElem?_setIfInBounds_ne (by omega), Array.getElem?_setIfInBounds_ne (by omega), Array.getElem?_setIfInBounds_ne (by omega)]; exact d0), (by rw [Array.getElem?_setIfInBounds_ne (by omega), Array.getElem?_setIfInBounds_ne (by omega), Array.getElem?_setIfInBounds_ne (by omega), Array.getElem?_setIfInBounds_ne (by omega)]; exact d1), (by rw [Array.getElem?_setIfInBounds_ne (by omega), Array.getElem?_setIfInBounds_ne (by omega), Array.getElem?_setIfInBounds_ne (by omega), Array.getElem?_setIfInBounds_ne (by omega)]; exact d2), (by rw [Array.getElem?_setIfInBounds_ne (by omega), Array.getElem?_setIfInBounds_ne (by omega), Array.getElem?_setIfInBounds_ne (by omega), Array.getElem?_setIfInBounds_ne (by omega)]; exact d3)⟩
theorem SInF.lt {g : Nat} {W : World} {l : List C.In} {j : Nat} (h : SInF g W l j) : g < W.heap.size := by
  obtain ⟨cur, h1, _⟩ := h
  exact lt_hp h1
theorem SInF.room {g : Nat} {W : World} {l : List C.In} {j : Nat} (h : SInF g W l j) {i : Nat} (hi : i < l.length * 4) : (∃ v, W.cell? ⟨g, i, none⟩ = some v) ∧ W.frozen? ⟨g, i, none⟩ = false := by
  obtain ⟨cur, h1, h2, _⟩ := h
  exact row_room h1 (by omega)
def wIn (x : C.In) : Nat := x.text.size
def OkIn (x : C.In) : Prop := (-9223372036854775808 ≤ x.op ∧ x.op ≤ 9223372036854775807) ∧ (-9223372036854775808 ≤ x.a ∧ x.a ≤ 9223372036854775807) ∧ (-9223372036854775808 ≤ x.n ∧ x.n ≤ 9223372036854775807) ∧ x.text.size ≤ maxLen
def LoIn (x : C.In) : Prop := x = x
def wSIn (l : List C.In) : Nat → Nat
  | 0 => 0
  | n + 1 => wSIn l n + 1 + wIn (l.getD n C.in0)
theorem wSIn_ge (l : List C.In) (n : Nat) : n ≤ wSIn l n := by
  induction n with
  | zero => exact Nat.le_refl _
  | succ n ih => simp only [wSIn]; omega
theorem wSIn_mono (l : List C.In) {j n : Nat} (h : j ≤ n) : wSIn l j ≤ wSIn l n := by
  induction h with
  | refl => exact Nat.le_refl _
  | step _ ih => simp only [wSIn]; omega
theorem wSIn_at (l : List C.In) {n m : Nat} (h : n < m) : wSIn l n + 1 + wIn (l.getD n C.in0) ≤ wSIn l m := wSIn_mono l (Nat.succ_le_of_lt h)
def OkInS (l : List C.In) : Prop := l.length ≤ maxLen ∧ ∀ i, i < l.length → OkIn (l.getD i C.in0)
def LoInS (l : List C.In) : Prop := l.length ≤ 1048576 ∧ ∀ i, i < l.length → LoIn (l.getD i C.in0)
theorem loIn_of {x : C.In} (_h : wIn x ≤ 1048576) : LoIn x := rfl
theorem loInS_of {l : List C.In} (h : wSIn l l.length ≤ 1048576) : LoInS l := ⟨Nat.le_trans (wSIn_ge l _) h, fun i hi => loIn_of (by have := wSIn_at l hi; omega)⟩
/-- The cells of an element at an address. -/
def FnA (W : World) (a : Addr) (x : C.Fn) (v0 v1 : Value) : Prop := W.cell? a = some (.string x.name) ∧ W.cell? ⟨a.block, a.off + 1, none⟩ = some (v0) ∧ W.cell? ⟨a.block, a.off + 2, none⟩ = some (.int .i64 x.result) ∧ W.cell? ⟨a.block, a.off + 3, none⟩ = some (.int .i64 x.slots) ∧ W.cell? ⟨a.block, a.off + 4, none⟩ = some (v1)
theorem FnA.of {W V : World} {a : Addr} {x : C.Fn} {v0 v1 : Value} (h : FnA W a x v0 v1) (hk : ∀ p : Addr, p.block = a.block → V.cell? p = W.cell? p) : FnA V a x v0 v1 := by
  obtain ⟨h0, h1, h2, h3, h4⟩ := h
  exact ⟨(hk _ rfl).trans h0, (hk ⟨_, _, none⟩ rfl).trans h1, (hk ⟨_, _, none⟩ rfl).trans h2, (hk ⟨_, _, none⟩ rfl).trans h3, (hk ⟨_, _, none⟩ rfl).trans h4⟩
/-- A row that came in. -/
def SFnA (W : World) (v : Value) (l : List C.Fn) : Prop := ∃ (ad : Option Addr) (c : Nat), v = .slice ad l.length c ∧ (l = [] ∨ ∃ a : Addr, ad = some a ∧ a.block < W.heap.size ∧ ∀ i, i < l.length → ∃ v0 v1, FnA W (a.add (i * 5)) (l.getD i C.fn0) v0 v1 ∧ SIntA W v0 (l.getD i C.fn0).params ∧ SInA W v1 (l.getD i C.fn0).ins)
theorem SFnA.next {W V : World} {v : Value} {l : List C.Fn} (h : SFnA W v l) (hb : Below W.heap.size W V) : SFnA V v l := by
  obtain ⟨ad, c, e, h1⟩ := h
  refine ⟨ad, c, e, ?_⟩
  rcases h1 with h1 | ⟨a, e1, e2, e3⟩
  · exact .inl h1
  · refine .inr ⟨a, e1, Nat.lt_of_lt_of_le e2 hb.size, fun i hi => ?_⟩
    obtain ⟨v0, v1, c0, r0, r1⟩ := e3 i hi
    exact ⟨v0, v1, c0.of fun p hp => hb.cell (by rw [hp, add_block]; exact e2), r0.next hb, r1.next hb⟩
theorem SFnA.sl {W : World} {v : Value} {l : List C.Fn} (h : SFnA W v l) : ∃ ad c, v = .slice ad l.length c := by
  obtain ⟨ad, c, e, _⟩ := h
  exact ⟨ad, c, e⟩
theorem SFnA.at {W : World} {v : Value} {l : List C.Fn} (h : SFnA W v l) {i : Nat} (hi : i < l.length) : ∃ (a : Addr) (c : Nat), v = .slice (some a) l.length c ∧ a.block < W.heap.size ∧ ∃ v0 v1, FnA W (a.add (i * 5)) (l.getD i C.fn0) v0 v1 ∧ SIntA W v0 (l.getD i C.fn0).params ∧ SInA W v1 (l.getD i C.fn0).ins := by
  obtain ⟨ad, c, e, h1⟩ := h
  rcases h1 with h1 | ⟨a, e1, e2, e3⟩
  · rw [h1] at hi; exact absurd hi (Nat.not_lt_zero _)
  · subst e1
    exact ⟨a, c, e, e2, e3 i hi⟩
/-- The first j elements of a row that is being made. -/
def SFnF (g : Nat) (W : World) (l : List C.Fn) (j : Nat) : Prop := ∃ cur, W.heap[g]? = some (.cells cur 57 (0, 0)) ∧ cur.size = l.length * 5 ∧ ∀ i, i < j → ∃ v0 v1, cur[i * 5]? = some (.string (l.getD i C.fn0).name) ∧ cur[i * 5 + 1]? = some (v0) ∧ cur[i * 5 + 2]? = some (.int .i64 (l.getD i C.fn0).result) ∧ cur[i * 5 + 3]? = some (.int .i64 (l.getD i C.fn0).slots) ∧ cur[i * 5 + 4]? = some (v1) ∧ SIntR (g + 1) W v0 (l.getD i C.fn0).params ∧ SInR (g + 1) W v1 (l.getD i C.fn0).ins
/-- A row that was made: it lies at B or above, what its elements hold above it. -/
def SFnR (B : Nat) (W : World) (v : Value) (l : List C.Fn) : Prop := ∃ g, v = .slice (some ⟨g, 0, none⟩) l.length l.length ∧ B ≤ g ∧ SFnF g W l l.length
theorem SFnF.keep {g : Nat} {W V : World} {l : List C.Fn} {j : Nat} (h : SFnF g W l j) (hk : ∀ i, g ≤ i → i < W.heap.size → V.heap[i]? = W.heap[i]?) : SFnF g V l j := by
  obtain ⟨cur, h1, h2, h3⟩ := h
  refine ⟨cur, (hk g (Nat.le_refl _) (lt_hp h1)).trans h1, h2, fun i hi => ?_⟩
  obtain ⟨v0, v1, d0, d1, d2, d3, d4, r0, r1⟩ := h3 i hi
  exact ⟨v0, v1, d0, d1, d2, d3, d4, r0.keep fun x hx hy => hk x (by omega) hy, r1.keep fun x hx hy => hk x (by omega) hy⟩
theorem SFnR.keep {B : Nat} {W V : World} {v : Value} {l : List C.Fn} (h : SFnR B W v l) (hk : ∀ i, B ≤ i → i < W.heap.size → V.heap[i]? = W.heap[i]?) : SFnR B V v l := by
  obtain ⟨g, e, hg, h1⟩ := h
  exact ⟨g, e, hg, h1.keep fun i hi hj => hk i (by omega) hj⟩
theorem SFnR.next {B : Nat} {W V : World} {v : Value} {l : List C.Fn} (h : SFnR B W v l) (hb : Below W.heap.size W V) : SFnR B V v l := h.keep fun i _ hj => hb.block i hj
theorem SFnR.set {B : Nat} {W : World} {v : Value} {l : List C.Fn} (h : SFnR B W v l) {b : Nat} (hb : b < B) (i : Nat) (u : Value) : SFnR B (W.setCell ⟨b, i, none⟩ u) v l := h.keep fun x hx _ => set_other _ _ _ _ _ (by omega)
theorem SFnR.mono {B B' : Nat} {W : World} {v : Value} {l : List C.Fn} (h : SFnR B W v l) (hb : B' ≤ B) : SFnR B' W v l := by
  obtain ⟨g, e, hg, h1⟩ := h
  exact ⟨g, e, Nat.le_trans hb hg, h1⟩
theorem SFnR.sl {B : Nat} {W : World} {v : Value} {l : List C.Fn} (h : SFnR B W v l) : ∃ g, v = .slice (some ⟨g, 0, none⟩) l.length l.length := by
  obtain ⟨g, e, _⟩ := h
  exact ⟨g, e⟩
theorem SFnR.at {B : Nat} {W : World} {v : Value} {l : List C.Fn} (h : SFnR B W v l) {i : Nat} (hi : i < l.length) : ∃ g, v = .slice (some ⟨g, 0, none⟩) l.length l.length ∧ B ≤ g ∧ g < W.heap.size ∧ ∃ v0 v1, W.cell? ⟨g, i * 5, none⟩ = some (.string (l.getD i C.fn0).name) ∧ W.cell? ⟨g, i * 5 + 1, none⟩ = some (v0) ∧ W.cell? ⟨g, i * 5 + 2, none⟩ = some (.int .i64 (l.getD i C.fn0).result) ∧ W.cell? ⟨g, i * 5 + 3, none⟩ = some (.int .i64 (l.getD i C.fn0).slots) ∧ W.cell? ⟨g, i * 5 + 4, none⟩ = some (v1) ∧ SIntR (g + 1) W v0 (l.getD i C.fn0).params ∧ SInR (g + 1) W v1 (l.getD i C.fn0).ins := by
  obtain ⟨g, e, hg, cur, h1, h2, h3⟩ := h
  obtain ⟨v0, v1, d0, d1, d2, d3, d4, r0, r1⟩ := h3 i hi
  exact ⟨g, e, hg, lt_hp h1, v0, v1, (row_cell h1 _).trans d0, (row_cell h1 _).trans d1, (row_cell h1 _).trans d2, (row_cell h1 _).trans d3, (row_cell h1 _).trans d4, r0, r1⟩
theorem SFnF.step {g : Nat} {W : World} {l : List C.Fn} {j : Nat} (h : SFnF g W l j) (hj : j < l.length) {u0 : Value} {u1 : Value} (k0 : SIntR (g + 1) W u0 (l.getD j C.fn0).params) (k1 : SInR (g + 1) W u1 (l.getD j C.fn0).ins) : SFnF g (((((W.setCell ⟨g, j * 5, none⟩ (.string (l.getD j C.fn0).name)).setCell ⟨g, j * 5 + 1, none⟩ u0).setCell ⟨g, j * 5 + 2, none⟩ (.int .i64 (l.getD j C.fn0).result)).setCell ⟨g, j * 5 + 3, none⟩ (.int .i64 (l.getD j C.fn0).slots)).setCell ⟨g, j * 5 + 4, none⟩ u1) l (j + 1) := by
  obtain ⟨cur, h1, h2, h3⟩ := h
  refine ⟨_, (set_at (i := j * 5 + 4) u1 (set_at (i := j * 5 + 3) (.int .i64 (l.getD j C.fn0).slots) (set_at (i := j * 5 + 2) (.int .i64 (l.getD j C.fn0).result) (set_at (i := j * 5 + 1) u0 (set_at (i := j * 5) (.string (l.getD j C.fn0).name) h1))))), by simp [h2], fun i hi => ?_⟩
  by_cases hij : i = j
  · subst hij
    exact ⟨u0, u1, (by rw [Array.getElem?_setIfInBounds_ne (by omega), Array.getElem?_setIfInBounds_ne (by omega), Array.getElem?_setIfInBounds_ne (by omega), Array.getElem?_setIfInBounds_ne (by omega), Array.getElem?_setIfInBounds_self_of_lt (by first | omega | (simp; omega))]), (by rw [Array.getElem?_setIfInBounds_ne (by omega), Array.getElem?_setIfInBounds_ne (by omega), Array.getElem?_setIfInBounds_ne (by omega), Array.getElem?_setIfInBounds_self_of_lt (by first | omega | (simp; omega))]), (by rw [Array.getElem?_setIfInBounds_ne (by omega), Array.getElem?_setIfInBounds_ne (by omega), Array.getElem?_setIfInBounds_self_of_lt (by first | omega | (simp; omega))]), (by rw [Array.getElem?_setIfInBounds_ne (by omega), Array.getElem?_setIfInBounds_self_of_lt (by first | omega | (simp; omega))]), (by rw [Array.getElem?_setIfInBounds_self_of_lt (by first | omega | (simp; omega))]), (((((k0.set (by omega) _ _).set (by omega) _ _).set (by omega) _ _).set (by omega) _ _).set (by omega) _ _), (((((k1.set (by omega) _ _).set (by omega) _ _).set (by omega) _ _).set (by omega) _ _).set (by omega) _ _)⟩
  · obtain ⟨v0, v1, d0, d1, d2, d3, d4, r0, r1⟩ := h3 i (by omega)
    exact ⟨v0, v1, (by rw [Array.getElem?_setIfInBounds_ne (by omega), Array.getElem?_setIfInBounds_ne (by omega), Array.getElem?_setIfInBounds_ne (by omega), Array.getElem?_setIfInBounds_ne (by omega), Array.getElem?_setIfInBounds_ne (by omega)]; exact d0), (by rw [Array.getElem?_setIfInBounds_ne (by omega), Array.getElem?_setIfInBounds_ne (by omega), Array.getElem?_setIfInBounds_ne (by omega), Array.getElem?_setIfInBounds_ne (by omega), Array.getElem?_setIfInBounds_ne (by omega)]; exact d1), (by rw [Array.getElem?_setIfInBounds_ne (by omega), Array.getElem?_setIfInBounds_ne (by omega), Array.getElem?_setIfInBounds_ne (by omega), Array.getElem?_setIfInBounds_ne (by omega), Array.getElem?_setIfInBounds_ne (by omega)]; exact d2), (by rw [Array.getElem?_setIfInBounds_ne (by omega), Array.getElem?_setIfInBounds_ne (by omega), Array.getElem?_setIfInBounds_ne (by omega), Array.getElem?_setIfInBounds_ne (by omega), Array.getElem?_setIfInBounds_ne (by omega)]; exact d3), (by rw [Array.getElem?_setIfInBounds_ne (by omega), Array.getElem?_setIfInBounds_ne (by omega), Array.getElem?_setIfInBounds_ne (by omega), Array.getElem?_setIfInBounds_ne (by omega), Array.getElem?_setIfInBounds_ne (by omega)]; exact d4), (((((r0.set (by omega) _ _).set (by omega) _ _).set (by omega) _ _).set (by omega) _ _).set (by omega) _ _), (((((r1.set (by omega) _ _).set (by omega) _ _).set (by omega) _ _).set (by omega) _ _).set (by omega) _ _)⟩
theorem SFnF.lt {g : Nat} {W : World} {l : List C.Fn} {j : Nat} (h : SFnF g W l j) : g < W.heap.size := by
  obtain ⟨cur, h1, _⟩ := h
  exact lt_hp h1
theorem SFnF.room {g : Nat} {W : World} {l : List C.Fn} {j : Nat} (h : SFnF g W l j) {i : Nat} (hi : i < l.length * 5) : (∃ v, W.cell? ⟨g, i, none⟩ = some v) ∧ W.frozen? ⟨g, i, none⟩ = false := by
  obtain ⟨cur, h1, h2, _⟩ := h
  exact row_room h1 (by omega)
def wFn (x : C.Fn) : Nat := x.name.size + x.params.length + wSIn x.ins x.ins.length
def OkFn (x : C.Fn) : Prop := x.name.size ≤ maxLen ∧ x.params.length ≤ maxLen ∧ (-9223372036854775808 ≤ x.result ∧ x.result ≤ 9223372036854775807) ∧ (-9223372036854775808 ≤ x.slots ∧ x.slots ≤ 9223372036854775807) ∧ OkInS x.ins
def LoFn (x : C.Fn) : Prop := x.params.length ≤ 1048576 ∧ LoInS x.ins
def wSFn (l : List C.Fn) : Nat → Nat
  | 0 => 0
  | n + 1 => wSFn l n + 1 + wFn (l.getD n C.fn0)
theorem wSFn_ge (l : List C.Fn) (n : Nat) : n ≤ wSFn l n := by
  induction n with
  | zero => exact Nat.le_refl _
  | succ n ih => simp only [wSFn]; omega
theorem wSFn_mono (l : List C.Fn) {j n : Nat} (h : j ≤ n) : wSFn l j ≤ wSFn l n := by
  induction h with
  | refl => exact Nat.le_refl _
  | step _ ih => simp only [wSFn]; omega
theorem wSFn_at (l : List C.Fn) {n m : Nat} (h : n < m) : wSFn l n + 1 + wFn (l.getD n C.fn0) ≤ wSFn l m := wSFn_mono l (Nat.succ_le_of_lt h)
def OkFnS (l : List C.Fn) : Prop := l.length ≤ maxLen ∧ ∀ i, i < l.length → OkFn (l.getD i C.fn0)
def LoFnS (l : List C.Fn) : Prop := l.length ≤ 1048576 ∧ ∀ i, i < l.length → LoFn (l.getD i C.fn0)
theorem loFn_of {x : C.Fn} (h : wFn x ≤ 1048576) : LoFn x := by
  simp only [wFn] at h
  exact ⟨by omega, loInS_of (by omega)⟩
theorem loFnS_of {l : List C.Fn} (h : wSFn l l.length ≤ 1048576) : LoFnS l := ⟨Nat.le_trans (wSFn_ge l _) h, fun i hi => loFn_of (by have := wSFn_at l hi; omega)⟩
structure Cd where
  fns : List C.Fn
def wCd (x : Cd) : Nat := wSFn x.fns x.fns.length
def OkCd (x : Cd) : Prop := OkFnS x.fns
def LoCd (x : Cd) : Prop := LoFnS x.fns
end Go.Proofs.YtfndbnbnimhnaaaGreatDoor.R
/-! Sizes. -/
namespace Go.Proofs.YtfndbnbnimhnaaaGreatDoor.R
open Go.RowKit
set_option maxRecDepth 20000
set_option maxHeartbeats 1000000 in
theorem szInt_any (ad : Option Addr) (N c : Nat) (l : Int) (w : World) (hl : 0 ≤ l) (hl2 : l ≤ 1048576) (hN : N ≤ maxLen) :
    Calls Tryz.prog 61 #[.slice ad N c, .int .i64 l] w (SzEnd l N w) := by
  have hN' := small hN
  clear hN
  by_cases h1 : l - (N : Int) < 0
  · go_enter Tryz.func61, Tryz.ntmps61
    go_wp2
    go_ret
    exact ⟨⟨_, rfl, by omega, by omega, fun h => by omega⟩, Below.refl _ _⟩
  · go_enter Tryz.func61, Tryz.ntmps61
    go_wp2
    go_ret
    exact ⟨⟨_, rfl, by omega, by omega, fun h => by omega⟩, Below.refl _ _⟩
end Go.Proofs.YtfndbnbnimhnaaaGreatDoor.R
/-! Types as the bytes of texts. -/
namespace Go.Proofs.YtfndbnbnimhnaaaGreatDoor.C
open Go.RowKit
set_option maxRecDepth 20000
def kb (x : Int) : UInt8 := UInt8.ofNat x.toNat
def kt (l : List Int) : ByteArray := ⟨(l.map kb).toArray⟩
def Ok10 (l : List Int) : Prop := ∀ x ∈ l, 0 ≤ x ∧ x ≤ 10
theorem kb_nat {x : Int} (h : 0 ≤ x ∧ x ≤ 10) : ((kb x).toNat : Int) = x := by
  unfold kb
  have : (UInt8.ofNat x.toNat).toNat = x.toNat := by simp; omega
  rw [this]; omega
theorem kt_size (l : List Int) : (kt l).size = l.length := by simp [kt, ByteArray.size]
theorem kt_nil : kt [] = ⟨#[]⟩ := rfl
theorem kt_data (l : List Int) : (kt l).data.toList = l.map kb := by simp [kt]
theorem kt_get {l : List Int} (h : Ok10 l) {i : Nat} (hi : i < (kt l).size) : (((kt l)[i]).toNat : Int) = l.getD i 0 := by
  have hi2 : i < l.length := by rw [← kt_size]; exact hi
  have e : (kt l)[i] = kb l[i] := by
    show (kt l).data[i]'_ = _
    simp [kt]
  rw [e, kb_nat (h _ (List.getElem_mem hi2)), List.getD_eq_getElem?_getD, List.getElem?_eq_getElem hi2]
  rfl
theorem kb_inj {x y : Int} (hx : 0 ≤ x ∧ x ≤ 10) (hy : 0 ≤ y ∧ y ≤ 10) (h : kb x = kb y) : x = y := by
  have := kb_nat hx
  rw [h, kb_nat hy] at this
  exact this.symm
theorem kt_inj : ∀ {a b : List Int}, Ok10 a → Ok10 b → kt a = kt b → a = b := by
  intro a b ha hb h
  have e : a.map kb = b.map kb := by rw [← kt_data, ← kt_data, h]
  clear h
  induction a generalizing b with
  | nil =>
    cases b with
    | nil => rfl
    | cons y b => simp at e
  | cons x a ih =>
    cases b with
    | nil => simp at e
    | cons y b =>
      simp only [List.map_cons, List.cons.injEq] at e
      rw [kb_inj (ha x (by simp)) (hb y (by simp)) e.1, ih (fun z hz => ha z (by simp [hz])) (fun z hz => hb z (by simp [hz])) e.2]
theorem ba_ext {a b : ByteArray} (h : a.data.toList = b.data.toList) : a = b := by
  apply ByteArray.ext
  exact Array.ext' h
theorem kt_append (a b : List Int) : kt (a ++ b) = kt a ++ kt b := by
  apply ba_ext
  rw [kt_data]
  simp [kt_data, ByteArray.data_append]
theorem kt_take (l : List Int) (j : Nat) : (kt l).extract 0 j = kt (l.take j) := by
  apply ba_ext
  rw [kt_data, ByteArray.data_extract]
  simp [kt_data, List.map_take]
theorem kt_drop (l : List Int) (i : Nat) : (kt l).extract i (kt l).size = kt (l.drop i) := by
  apply ba_ext
  rw [kt_data, ByteArray.data_extract, kt_size]
  simp [kt_data, List.map_drop]
  rw [List.take_of_length_le (by simp)]
def lv (s : Sh) : Value := .agg #[.int .i64 (s.st : Nat), .string (kt s.sl), .string (kt s.sk)]
theorem ok_sl {S : Nat} {s : Sh} (h : OkSh S s) : Ok10 s.sl ∧ Ok10 s.sk := by
  rcases h with rfl | rfl | ⟨_, _, h1, h2, _⟩
  · exact ⟨fun x hx => (nomatch hx), fun x hx => (nomatch hx)⟩
  · exact ⟨fun x hx => (nomatch hx), fun x hx => (nomatch hx)⟩
  · exact ⟨h1, fun x hx => by have := h2 x hx; omega⟩
theorem ok_len {S : Nat} {s : Sh} (h : OkSh S s) : s.sl.length ≤ S ∧ s.sk.length ≤ 600 := by
  rcases h with rfl | rfl | ⟨_, h1, _, _, h2⟩
  · exact ⟨Nat.zero_le _, Nat.zero_le _⟩
  · exact ⟨Nat.zero_le _, Nat.zero_le _⟩
  · exact ⟨by omega, h2⟩
theorem lv_inj {S : Nat} {a b : Sh} (ha : OkSh S a) (hb : OkSh S b) : (a.st = b.st ∧ kt a.sl = kt b.sl ∧ kt a.sk = kt b.sk) ↔ a = b := by
  constructor
  · rintro ⟨h1, h2, h3⟩
    have e2 := kt_inj (ok_sl ha).1 (ok_sl hb).1 h2
    have e3 := kt_inj (ok_sl ha).2 (ok_sl hb).2 h3
    cases a; cases b
    simp_all
  · intro h; rw [h]; exact ⟨rfl, rfl, rfl⟩
theorem slJoin_self (a : List Int) : slJoin a a = a := by
  unfold slJoin
  induction a with
  | nil => rfl
  | cons x a ih => simp at ih ⊢
end Go.Proofs.YtfndbnbnimhnaaaGreatDoor.C
