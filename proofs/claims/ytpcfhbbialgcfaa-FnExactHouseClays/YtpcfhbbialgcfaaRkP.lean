import Derived.Test.YtpcfhbbialgcfaaRkB
/-! The structs of the law's arguments in memory. -/
namespace Go.Proofs.Ytpcfhbbialgcfaa.R
open Go.RowKit
set_option maxRecDepth 20000
structure Fl where
  name : ByteArray
  text : ByteArray
def fl0 : Fl := ⟨⟨#[]⟩, ⟨#[]⟩⟩
/-- The cells of an element at an address. -/
def FlA (W : World) (a : Addr) (x : Fl) : Prop := W.cell? a = some (.string x.name) ∧ W.cell? ⟨a.block, a.off + 1, none⟩ = some (.string x.text)
theorem FlA.of {W V : World} {a : Addr} {x : Fl} (h : FlA W a x) (hk : ∀ p : Addr, p.block = a.block → V.cell? p = W.cell? p) : FlA V a x := by
  obtain ⟨h0, h1⟩ := h
  exact ⟨(hk _ rfl).trans h0, (hk ⟨_, _, none⟩ rfl).trans h1⟩
/-- A row that came in. -/
def SFlA (W : World) (v : Value) (l : List Fl) : Prop := ∃ (ad : Option Addr) (c : Nat), v = .slice ad l.length c ∧ (l = [] ∨ ∃ a : Addr, ad = some a ∧ a.block < W.heap.size ∧ ∀ i, i < l.length → FlA W (a.add (i * 2)) (l.getD i fl0))
theorem SFlA.next {W V : World} {v : Value} {l : List Fl} (h : SFlA W v l) (hb : Below W.heap.size W V) : SFlA V v l := by
  obtain ⟨ad, c, e, h1⟩ := h
  refine ⟨ad, c, e, ?_⟩
  rcases h1 with h1 | ⟨a, e1, e2, e3⟩
  · exact .inl h1
  · refine .inr ⟨a, e1, Nat.lt_of_lt_of_le e2 hb.size, fun i hi => ?_⟩
    exact (e3 i hi).of fun p hp => hb.cell (by rw [hp, add_block]; exact e2)
theorem SFlA.sl {W : World} {v : Value} {l : List Fl} (h : SFlA W v l) : ∃ ad c, v = .slice ad l.length c := by
  obtain ⟨ad, c, e, _⟩ := h
  exact ⟨ad, c, e⟩
theorem SFlA.at {W : World} {v : Value} {l : List Fl} (h : SFlA W v l) {i : Nat} (hi : i < l.length) : ∃ (a : Addr) (c : Nat), v = .slice (some a) l.length c ∧ a.block < W.heap.size ∧ FlA W (a.add (i * 2)) (l.getD i fl0) := by
  obtain ⟨ad, c, e, h1⟩ := h
  rcases h1 with h1 | ⟨a, e1, e2, e3⟩
  · rw [h1] at hi; exact absurd hi (Nat.not_lt_zero _)
  · subst e1
    exact ⟨a, c, e, e2, e3 i hi⟩
/-- The first j elements of a row that is being made. -/
def SFlF (g : Nat) (W : World) (l : List Fl) (j : Nat) : Prop := ∃ cur, W.heap[g]? = some (.cells cur 45 (0, 0)) ∧ cur.size = l.length * 2 ∧ ∀ i, i < j → cur[i * 2]? = some (.string (l.getD i fl0).name) ∧ cur[i * 2 + 1]? = some (.string (l.getD i fl0).text)
/-- A row that was made: it lies at B or above, what its elements hold above it. -/
def SFlR (B : Nat) (W : World) (v : Value) (l : List Fl) : Prop := ∃ g, v = .slice (some ⟨g, 0, none⟩) l.length l.length ∧ B ≤ g ∧ SFlF g W l l.length
theorem SFlF.keep {g : Nat} {W V : World} {l : List Fl} {j : Nat} (h : SFlF g W l j) (hk : ∀ i, g ≤ i → i < W.heap.size → V.heap[i]? = W.heap[i]?) : SFlF g V l j := by
  obtain ⟨cur, h1, h2, h3⟩ := h
  exact ⟨cur, (hk g (Nat.le_refl _) (lt_hp h1)).trans h1, h2, h3⟩
theorem SFlR.keep {B : Nat} {W V : World} {v : Value} {l : List Fl} (h : SFlR B W v l) (hk : ∀ i, B ≤ i → i < W.heap.size → V.heap[i]? = W.heap[i]?) : SFlR B V v l := by
  obtain ⟨g, e, hg, h1⟩ := h
  exact ⟨g, e, hg, h1.keep fun i hi hj => hk i (by omega) hj⟩
theorem SFlR.next {B : Nat} {W V : World} {v : Value} {l : List Fl} (h : SFlR B W v l) (hb : Below W.heap.size W V) : SFlR B V v l := h.keep fun i _ hj => hb.block i hj
theorem SFlR.set {B : Nat} {W : World} {v : Value} {l : List Fl} (h : SFlR B W v l) {b : Nat} (hb : b < B) (i : Nat) (u : Value) : SFlR B (W.setCell ⟨b, i, none⟩ u) v l := h.keep fun x hx _ => set_other _ _ _ _ _ (by omega)
theorem SFlR.mono {B B' : Nat} {W : World} {v : Value} {l : List Fl} (h : SFlR B W v l) (hb : B' ≤ B) : SFlR B' W v l := by
  obtain ⟨g, e, hg, h1⟩ := h
  exact ⟨g, e, Nat.le_trans hb hg, h1⟩
theorem SFlR.sl {B : Nat} {W : World} {v : Value} {l : List Fl} (h : SFlR B W v l) : ∃ g, v = .slice (some ⟨g, 0, none⟩) l.length l.length := by
  obtain ⟨g, e, _⟩ := h
  exact ⟨g, e⟩
theorem SFlR.at {B : Nat} {W : World} {v : Value} {l : List Fl} (h : SFlR B W v l) {i : Nat} (hi : i < l.length) : ∃ g, v = .slice (some ⟨g, 0, none⟩) l.length l.length ∧ B ≤ g ∧ g < W.heap.size ∧ W.cell? ⟨g, i * 2, none⟩ = some (.string (l.getD i fl0).name) ∧ W.cell? ⟨g, i * 2 + 1, none⟩ = some (.string (l.getD i fl0).text) := by
  obtain ⟨g, e, hg, cur, h1, h2, h3⟩ := h
  obtain ⟨d0, d1⟩ := h3 i hi
  exact ⟨g, e, hg, lt_hp h1, (row_cell h1 _).trans d0, (row_cell h1 _).trans d1⟩
theorem SFlF.step {g : Nat} {W : World} {l : List Fl} {j : Nat} (h : SFlF g W l j) (hj : j < l.length) : SFlF g ((W.setCell ⟨g, j * 2, none⟩ (.string (l.getD j fl0).name)).setCell ⟨g, j * 2 + 1, none⟩ (.string (l.getD j fl0).text)) l (j + 1) := by
  obtain ⟨cur, h1, h2, h3⟩ := h
  refine ⟨_, (set_at (i := j * 2 + 1) (.string (l.getD j fl0).text) (set_at (i := j * 2) (.string (l.getD j fl0).name) h1)), by simp [h2], fun i hi => ?_⟩
  by_cases hij : i = j
  · subst hij
    exact ⟨(by rw [Array.getElem?_setIfInBounds_ne (by omega), Array.getElem?_setIfInBounds_self_of_lt (by first | omega | (simp; omega))]), (by rw [Array.getElem?_setIfInBounds_self_of_lt (by first | omega | (simp; omega))])⟩
  · obtain ⟨d0, d1⟩ := h3 i (by omega)
    exact ⟨(by rw [Array.getElem?_setIfInBounds_ne (by omega), Array.getElem?_setIfInBounds_ne (by omega)]; exact d0), (by rw [Array.getElem?_setIfInBounds_ne (by omega), Array.getElem?_setIfInBounds_ne (by omega)]; exact d1)⟩
theorem SFlF.lt {g : Nat} {W : World} {l : List Fl} {j : Nat} (h : SFlF g W l j) : g < W.heap.size := by
  obtain ⟨cur, h1, _⟩ := h
  exact lt_hp h1
theorem SFlF.room {g : Nat} {W : World} {l : List Fl} {j : Nat} (h : SFlF g W l j) {i : Nat} (hi : i < l.length * 2) : (∃ v, W.cell? ⟨g, i, none⟩ = some v) ∧ W.frozen? ⟨g, i, none⟩ = false := by
  obtain ⟨cur, h1, h2, _⟩ := h
  exact row_room h1 (by omega)
def wFl (x : Fl) : Nat := x.name.size + x.text.size
def OkFl (x : Fl) : Prop := x.name.size ≤ maxLen ∧ x.text.size ≤ maxLen
def LoFl (x : Fl) : Prop := x = x
def wSFl (l : List Fl) : Nat → Nat
  | 0 => 0
  | n + 1 => wSFl l n + 1 + wFl (l.getD n fl0)
theorem wSFl_ge (l : List Fl) (n : Nat) : n ≤ wSFl l n := by
  induction n with
  | zero => exact Nat.le_refl _
  | succ n ih => simp only [wSFl]; omega
theorem wSFl_mono (l : List Fl) {j n : Nat} (h : j ≤ n) : wSFl l j ≤ wSFl l n := by
  induction h with
  | refl => exact Nat.le_refl _
  | step _ ih => simp only [wSFl]; omega
theorem wSFl_at (l : List Fl) {n m : Nat} (h : n < m) : wSFl l n + 1 + wFl (l.getD n fl0) ≤ wSFl l m := wSFl_mono l (Nat.succ_le_of_lt h)
def OkFlS (l : List Fl) : Prop := l.length ≤ maxLen ∧ ∀ i, i < l.length → OkFl (l.getD i fl0)
def LoFlS (l : List Fl) : Prop := l.length ≤ 1048576 ∧ ∀ i, i < l.length → LoFl (l.getD i fl0)
theorem loFl_of {x : Fl} (_h : wFl x ≤ 1048576) : LoFl x := rfl
theorem loFlS_of {l : List Fl} (h : wSFl l l.length ≤ 1048576) : LoFlS l := ⟨Nat.le_trans (wSFl_ge l _) h, fun i hi => loFl_of (by have := wSFl_at l hi; omega)⟩
structure Pl where
  files : List Fl
def pl0 : Pl := ⟨[]⟩
def wPl (x : Pl) : Nat := wSFl x.files x.files.length
def OkPl (x : Pl) : Prop := OkFlS x.files
def LoPl (x : Pl) : Prop := LoFlS x.files
def wSPl (l : List Pl) : Nat → Nat
  | 0 => 0
  | n + 1 => wSPl l n + 1 + wPl (l.getD n pl0)
theorem wSPl_ge (l : List Pl) (n : Nat) : n ≤ wSPl l n := by
  induction n with
  | zero => exact Nat.le_refl _
  | succ n ih => simp only [wSPl]; omega
theorem wSPl_mono (l : List Pl) {j n : Nat} (h : j ≤ n) : wSPl l j ≤ wSPl l n := by
  induction h with
  | refl => exact Nat.le_refl _
  | step _ ih => simp only [wSPl]; omega
theorem wSPl_at (l : List Pl) {n m : Nat} (h : n < m) : wSPl l n + 1 + wPl (l.getD n pl0) ≤ wSPl l m := wSPl_mono l (Nat.succ_le_of_lt h)
def OkPlS (l : List Pl) : Prop := l.length ≤ maxLen ∧ ∀ i, i < l.length → OkPl (l.getD i pl0)
def LoPlS (l : List Pl) : Prop := l.length ≤ 1048576 ∧ ∀ i, i < l.length → LoPl (l.getD i pl0)
theorem loPl_of {x : Pl} (h : wPl x ≤ 1048576) : LoPl x := by
  simp only [wPl] at h
  exact loFlS_of (by omega)
theorem loPlS_of {l : List Pl} (h : wSPl l l.length ≤ 1048576) : LoPlS l := ⟨Nat.le_trans (wSPl_ge l _) h, fun i hi => loPl_of (by have := wSPl_at l hi; omega)⟩
end Go.Proofs.Ytpcfhbbialgcfaa.R
