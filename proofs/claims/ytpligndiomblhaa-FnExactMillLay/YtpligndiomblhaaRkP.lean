import Derived.Test.YtpligndiomblhaaRkB
/-! The structs of the law's arguments in memory. -/
namespace Go.Proofs.Ytpligndiomblhaa.R
open Go.RowKit
set_option maxRecDepth 20000
structure Fl where
  name : ByteArray
  text : ByteArray
def fl0 : Fl := ⟨⟨#[]⟩, ⟨#[]⟩⟩
/-- The cells of an element at an address. -/
def FlA (W : World) (a : Addr) (x : Fl) : Prop := W.cell? a = some (.string x.name) ∧ W.cell? ⟨a.block, a.off + 1, none⟩ = some (.string x.text)
theorem FlA.of {W V : World} {a : Addr} {x : Fl} (h : FlA W a x) (hk : ∀ p : Addr, p.block = a.block → V.cell? p = W.cell? p) : FlA V a x := by
  obtain ⟨h0, h1⟩ := h
  exact ⟨(hk _ rfl).trans h0, (hk ⟨_, _, none⟩ rfl).trans h1⟩
/-- A row that came in. -/
def SFlA (W : World) (v : Value) (l : List Fl) : Prop := ∃ (ad : Option Addr) (c : Nat), v = .slice ad l.length c ∧ (l = [] ∨ ∃ a : Addr, ad = some a ∧ a.block < W.heap.size ∧ ∀ i, i < l.length → FlA W (a.add (i * 2)) (l.getD i fl0))
theorem SFlA.next {W V : World} {v : Value} {l : List Fl} (h : SFlA W v l) (hb : Below W.heap.size W V) : SFlA V v l := by
  obtain ⟨ad, c, e, h1⟩ := h
  refine ⟨ad, c, e, ?_⟩
  rcases h1 with h1 | ⟨a, e1, e2, e3⟩
  · exact .inl h1
  · refine .inr ⟨a, e1, Nat.lt_of_lt_of_le e2 hb.size, fun i hi => ?_⟩
    exact (e3 i hi).of fun p hp => hb.cell (by rw [hp, add_block]; exact e2)
theorem SFlA.sl {W : World} {v : Value} {l : List Fl} (h : SFlA W v l) : ∃ ad c, v = .slice ad l.length c := by
  obtain ⟨ad, c, e, _⟩ := h
  exact ⟨ad, c, e⟩
theorem SFlA.at {W : World} {v : Value} {l : List Fl} (h : SFlA W v l) {i : Nat} (hi : i < l.length) : ∃ (a : Addr) (c : Nat), v = .slice (some a) l.length c ∧ a.block < W.heap.size ∧ FlA W (a.add (i * 2)) (l.getD i fl0) := by
  obtain ⟨ad, c, e, h1⟩ := h
  rcases h1 with h1 | ⟨a, e1, e2, e3⟩
  · rw [h1] at hi; exact absurd hi (Nat.not_lt_zero _)
  · subst e1
    exact ⟨a, c, e, e2, e3 i hi⟩
/-- The first j elements of a row that is being made. -/
def SFlF (g : Nat) (W : World) (l : List Fl) (j : Nat) : Prop := ∃ cur, W.heap[g]? = some (.cells cur 55 (0, 0)) ∧ cur.size = l.length * 2 ∧ ∀ i, i < j → cur[i * 2]? = some (.string (l.getD i fl0).name) ∧ cur[i * 2 + 1]? = some (.string (l.getD i fl0).text)
/-- A row that was made: it lies at B or above, what its elements hold above it. -/
def SFlR (B : Nat) (W : World) (v : Value) (l : List Fl) : Prop := ∃ g, v = .slice (some ⟨g, 0, none⟩) l.length l.length ∧ B ≤ g ∧ SFlF g W l l.length
theorem SFlF.keep {g : Nat} {W V : World} {l : List Fl} {j : Nat} (h : SFlF g W l j) (hk : ∀ i, g ≤ i → i < W.heap.size → V.heap[i]? = W.heap[i]?) : SFlF g V l j := by
  obtain ⟨cur, h1, h2, h3⟩ := h
  exact ⟨cur, (hk g (Nat.le_refl _) (lt_hp h1)).trans h1, h2, h3⟩
theorem SFlR.keep {B : Nat} {W V : World} {v : Value} {l : List Fl} (h : SFlR B W v l) (hk : ∀ i, B ≤ i → i < W.heap.size → V.heap[i]? = W.heap[i]?) : SFlR B V v l := by
  obtain ⟨g, e, hg, h1⟩ := h
  exact ⟨g, e, hg, h1.keep fun i hi hj => hk i (by omega) hj⟩
theorem SFlR.next {B : Nat} {W V : World} {v : Value} {l : List Fl} (h : SFlR B W v l) (hb : Below W.heap.size W V) : SFlR B V v l := h.keep fun i _ hj => hb.block i hj
theorem SFlR.set {B : Nat} {W : World} {v : Value} {l : List Fl} (h : SFlR B W v l) {b : Nat} (hb : b < B) (i : Nat) (u : Value) : SFlR B (W.setCell ⟨b, i, none⟩ u) v l := h.keep fun x hx _ => set_other _ _ _ _ _ (by omega)
theorem SFlR.mono {B B' : Nat} {W : World} {v : Value} {l : List Fl} (h : SFlR B W v l) (hb : B' ≤ B) : SFlR B' W v l := by
  obtain ⟨g, e, hg, h1⟩ := h
  exact ⟨g, e, Nat.le_trans hb hg, h1⟩
theorem SFlR.sl {B : Nat} {W : World} {v : Value} {l : List Fl} (h : SFlR B W v l) : ∃ g, v = .slice (some ⟨g, 0, none⟩) l.length l.length := by
  obtain ⟨g, e, _⟩ := h
  exact ⟨g, e⟩
theorem SFlR.at {B : Nat} {W : World} {v : Value} {l : List Fl} (h : SFlR B W v l) {i : Nat} (hi : i < l.length) : ∃ g, v = .slice (some ⟨g, 0, none⟩) l.length l.length ∧ B ≤ g ∧ g < W.heap.size ∧ W.cell? ⟨g, i * 2, none⟩ = some (.string (l.getD i fl0).name) ∧ W.cell? ⟨g, i * 2 + 1, none⟩ = some (.string (l.getD i fl0).text) := by
  obtain ⟨g, e, hg, cur, h1, h2, h3⟩ := h
  obtain ⟨d0, d1⟩ := h3 i hi
  exact ⟨g, e, hg, lt_hp h1, (row_cell h1 _).trans d0, (row_cell h1 _).trans d1⟩
theorem SFlF.step {g : Nat} {W : World} {l : List Fl} {j : Nat} (h : SFlF g W l j) (hj : j < l.length) : SFlF g ((W.setCell ⟨g, j * 2, none⟩ (.string (l.getD j fl0).name)).setCell ⟨g, j * 2 + 1, none⟩ (.string (l.getD j fl0).text)) l (j + 1) := by
  obtain ⟨cur, h1, h2, h3⟩ := h
  refine ⟨_, (set_at (i := j * 2 + 1) (.string (l.getD j fl0).text) (set_at (i := j * 2) (.string (l.getD j fl0).name) h1)), by simp [h2], fun i hi => ?_⟩
  by_cases hij : i = j
  · subst hij
    exact ⟨(by rw [Array.getElem?_setIfInBounds_ne (by omega), Array.getElem?_setIfInBounds_self_of_lt (by first | omega | (simp; omega))]), (by rw [Array.getElem?_setIfInBounds_self_of_lt (by first | omega | (simp; omega))])⟩
  · obtain ⟨d0, d1⟩ := h3 i (by omega)
    exact ⟨(by rw [Array.getElem?_setIfInBounds_ne (by omega), Array.getElem?_setIfInBounds_ne (by omega)]; exact d0), (by rw [Array.getElem?_setIfInBounds_ne (by omega), Array.getElem?_setIfInBounds_ne (by omega)]; exact d1)⟩
theorem SFlF.lt {g : Nat} {W : World} {l : List Fl} {j : Nat} (h : SFlF g W l j) : g < W.heap.size := by
  obtain ⟨cur, h1, _⟩ := h
  exact lt_hp h1
theorem SFlF.room {g : Nat} {W : World} {l : List Fl} {j : Nat} (h : SFlF g W l j) {i : Nat} (hi : i < l.length * 2) : (∃ v, W.cell? ⟨g, i, none⟩ = some v) ∧ W.frozen? ⟨g, i, none⟩ = false := by
  obtain ⟨cur, h1, h2, _⟩ := h
  exact row_room h1 (by omega)
def wFl (x : Fl) : Nat := x.name.size + x.text.size
def OkFl (x : Fl) : Prop := x.name.size ≤ maxLen ∧ x.text.size ≤ maxLen
def LoFl (x : Fl) : Prop := x = x
def wSFl (l : List Fl) : Nat → Nat
  | 0 => 0
  | n + 1 => wSFl l n + 1 + wFl (l.getD n fl0)
theorem wSFl_ge (l : List Fl) (n : Nat) : n ≤ wSFl l n := by
  induction n with
  | zero => exact Nat.le_refl _
  | succ n ih => simp only [wSFl]; omega
theorem wSFl_mono (l : List Fl) {j n : Nat} (h : j ≤ n) : wSFl l j ≤ wSFl l n := by
  induction h with
  | refl => exact Nat.le_refl _
  | step _ ih => simp only [wSFl]; omega
theorem wSFl_at (l : List Fl) {n m : Nat} (h : n < m) : wSFl l n + 1 + wFl (l.getD n fl0) ≤ wSFl l m := wSFl_mono l (Nat.succ_le_of_lt h)
def OkFlS (l : List Fl) : Prop := l.length ≤ maxLen ∧ ∀ i, i < l.length → OkFl (l.getD i fl0)
def LoFlS (l : List Fl) : Prop := l.length ≤ 1048576 ∧ ∀ i, i < l.length → LoFl (l.getD i fl0)
theorem loFl_of {x : Fl} (_h : wFl x ≤ 1048576) : LoFl x := rfl
theorem loFlS_of {l : List Fl} (h : wSFl l l.length ≤ 1048576) : LoFlS l := ⟨Nat.le_trans (wSFl_ge l _) h, fun i hi => loFl_of (by have := wSFl_at l hi; omega)⟩
structure Pl where
  files : List Fl
def pl0 : Pl := ⟨[]⟩
def wPl (x : Pl) : Nat := wSFl x.files x.files.length
def OkPl (x : Pl) : Prop := OkFlS x.files
def LoPl (x : Pl) : Prop := LoFlS x.files
def wSPl (l : List Pl) : Nat → Nat
  | 0 => 0
  | n + 1 => wSPl l n + 1 + wPl (l.getD n pl0)
theorem wSPl_ge (l : List Pl) (n : Nat) : n ≤ wSPl l n := by
  induction n with
  | zero => exact Nat.le_refl _
  | succ n ih => simp only [wSPl]; omega
theorem wSPl_mono (l : List Pl) {j n : Nat} (h : j ≤ n) : wSPl l j ≤ wSPl l n := by
  induction h with
  | refl => exact Nat.le_refl _
  | step _ ih => simp only [wSPl]; omega
theorem wSPl_at (l : List Pl) {n m : Nat} (h : n < m) : wSPl l n + 1 + wPl (l.getD n pl0) ≤ wSPl l m := wSPl_mono l (Nat.succ_le_of_lt h)
def OkPlS (l : List Pl) : Prop := l.length ≤ maxLen ∧ ∀ i, i < l.length → OkPl (l.getD i pl0)
def LoPlS (l : List Pl) : Prop := l.length ≤ 1048576 ∧ ∀ i, i < l.length → LoPl (l.getD i pl0)
theorem loPl_of {x : Pl} (h : wPl x ≤ 1048576) : LoPl x := by
  simp only [wPl] at h
  exact loFlS_of (by omega)
theorem loPlS_of {l : List Pl} (h : wSPl l l.length ≤ 1048576) : LoPlS l := ⟨Nat.le_trans (wSPl_ge l _) h, fun i hi => loPl_of (by have := wSPl_at l hi; omega)⟩
structure Ry where
  code : Int
  text : ByteArray
def ry0 : Ry := ⟨0, ⟨#[]⟩⟩
def wRy (x : Ry) : Nat := x.text.size
def OkRy (x : Ry) : Prop := (-9223372036854775808 ≤ x.code ∧ x.code ≤ 9223372036854775807) ∧ x.text.size ≤ maxLen
def LoRy (x : Ry) : Prop := x = x
def wSRy (l : List Ry) : Nat → Nat
  | 0 => 0
  | n + 1 => wSRy l n + 1 + wRy (l.getD n ry0)
theorem wSRy_ge (l : List Ry) (n : Nat) : n ≤ wSRy l n := by
  induction n with
  | zero => exact Nat.le_refl _
  | succ n ih => simp only [wSRy]; omega
theorem wSRy_mono (l : List Ry) {j n : Nat} (h : j ≤ n) : wSRy l j ≤ wSRy l n := by
  induction h with
  | refl => exact Nat.le_refl _
  | step _ ih => simp only [wSRy]; omega
theorem wSRy_at (l : List Ry) {n m : Nat} (h : n < m) : wSRy l n + 1 + wRy (l.getD n ry0) ≤ wSRy l m := wSRy_mono l (Nat.succ_le_of_lt h)
def OkRyS (l : List Ry) : Prop := l.length ≤ maxLen ∧ ∀ i, i < l.length → OkRy (l.getD i ry0)
def LoRyS (l : List Ry) : Prop := l.length ≤ 1048576 ∧ ∀ i, i < l.length → LoRy (l.getD i ry0)
theorem loRy_of {x : Ry} (_h : wRy x ≤ 1048576) : LoRy x := rfl
theorem loRyS_of {l : List Ry} (h : wSRy l l.length ≤ 1048576) : LoRyS l := ⟨Nat.le_trans (wSRy_ge l _) h, fun i hi => loRy_of (by have := wSRy_at l hi; omega)⟩
structure Sn where
  kind : Int
  name : ByteArray
  reply : Ry
def sn0 : Sn := ⟨0, ⟨#[]⟩, ry0⟩
/-- The cells of an element at an address. -/
def SnA (W : World) (a : Addr) (x : Sn) : Prop := W.cell? a = some (.int .i64 x.kind) ∧ W.cell? ⟨a.block, a.off + 1, none⟩ = some (.string x.name) ∧ W.cell? ⟨a.block, a.off + 2, none⟩ = some (.int .i64 x.reply.code) ∧ W.cell? ⟨a.block, a.off + 3, none⟩ = some (.string x.reply.text)
theorem SnA.of {W V : World} {a : Addr} {x : Sn} (h : SnA W a x) (hk : ∀ p : Addr, p.block = a.block → V.cell? p = W.cell? p) : SnA V a x := by
  obtain ⟨h0, h1, h2, h3⟩ := h
  exact ⟨(hk _ rfl).trans h0, (hk ⟨_, _, none⟩ rfl).trans h1, (hk ⟨_, _, none⟩ rfl).trans h2, (hk ⟨_, _, none⟩ rfl).trans h3⟩
/-- A row that came in. -/
def SSnA (W : World) (v : Value) (l : List Sn) : Prop := ∃ (ad : Option Addr) (c : Nat), v = .slice ad l.length c ∧ (l = [] ∨ ∃ a : Addr, ad = some a ∧ a.block < W.heap.size ∧ ∀ i, i < l.length → SnA W (a.add (i * 4)) (l.getD i sn0))
theorem SSnA.next {W V : World} {v : Value} {l : List Sn} (h : SSnA W v l) (hb : Below W.heap.size W V) : SSnA V v l := by
  obtain ⟨ad, c, e, h1⟩ := h
  refine ⟨ad, c, e, ?_⟩
  rcases h1 with h1 | ⟨a, e1, e2, e3⟩
  · exact .inl h1
  · refine .inr ⟨a, e1, Nat.lt_of_lt_of_le e2 hb.size, fun i hi => ?_⟩
    exact (e3 i hi).of fun p hp => hb.cell (by rw [hp, add_block]; exact e2)
theorem SSnA.sl {W : World} {v : Value} {l : List Sn} (h : SSnA W v l) : ∃ ad c, v = .slice ad l.length c := by
  obtain ⟨ad, c, e, _⟩ := h
  exact ⟨ad, c, e⟩
theorem SSnA.at {W : World} {v : Value} {l : List Sn} (h : SSnA W v l) {i : Nat} (hi : i < l.length) : ∃ (a : Addr) (c : Nat), v = .slice (some a) l.length c ∧ a.block < W.heap.size ∧ SnA W (a.add (i * 4)) (l.getD i sn0) := by
  obtain ⟨ad, c, e, h1⟩ := h
  rcases h1 with h1 | ⟨a, e1, e2, e3⟩
  · rw [h1] at hi; exact absurd hi (Nat.not_lt_zero _)
  · subst e1
    exact ⟨a, c, e, e2, e3 i hi⟩
/-- The first j elements of a row that is being made. -/
def SSnF (g : Nat) (W : World) (l : List Sn) (j : Nat) : Prop := ∃ cur, W.heap[g]? = some (.cells cur 66 (0, 0)) ∧ cur.size = l.length * 4 ∧ ∀ i, i < j → cur[i * 4]? = some (.int .i64 (l.getD i sn0).kind) ∧ cur[i * 4 + 1]? = some (.string (l.getD i sn0).name) ∧ cur[i * 4 + 2]? = some (.int .i64 (l.getD i sn0).reply.code) ∧ cur[i * 4 + 3]? = some (.string (l.getD i sn0).reply.text)
/-- A row that was made: it lies at B or above, what its elements hold above it. -/
def SSnR (B : Nat) (W : World) (v : Value) (l : List Sn) : Prop := ∃ g, v = .slice (some ⟨g, 0, none⟩) l.length l.length ∧ B ≤ g ∧ SSnF g W l l.length
theorem SSnF.keep {g : Nat} {W V : World} {l : List Sn} {j : Nat} (h : SSnF g W l j) (hk : ∀ i, g ≤ i → i < W.heap.size → V.heap[i]? = W.heap[i]?) : SSnF g V l j := by
  obtain ⟨cur, h1, h2, h3⟩ := h
  exact ⟨cur, (hk g (Nat.le_refl _) (lt_hp h1)).trans h1, h2, h3⟩
theorem SSnR.keep {B : Nat} {W V : World} {v : Value} {l : List Sn} (h : SSnR B W v l) (hk : ∀ i, B ≤ i → i < W.heap.size → V.heap[i]? = W.heap[i]?) : SSnR B V v l := by
  obtain ⟨g, e, hg, h1⟩ := h
  exact ⟨g, e, hg, h1.keep fun i hi hj => hk i (by omega) hj⟩
theorem SSnR.next {B : Nat} {W V : World} {v : Value} {l : List Sn} (h : SSnR B W v l) (hb : Below W.heap.size W V) : SSnR B V v l := h.keep fun i _ hj => hb.block i hj
theorem SSnR.set {B : Nat} {W : World} {v : Value} {l : List Sn} (h : SSnR B W v l) {b : Nat} (hb : b < B) (i : Nat) (u : Value) : SSnR B (W.setCell ⟨b, i, none⟩ u) v l := h.keep fun x hx _ => set_other _ _ _ _ _ (by omega)
theorem SSnR.mono {B B' : Nat} {W : World} {v : Value} {l : List Sn} (h : SSnR B W v l) (hb : B' ≤ B) : SSnR B' W v l := by
  obtain ⟨g, e, hg, h1⟩ := h
  exact ⟨g, e, Nat.le_trans hb hg, h1⟩
theorem SSnR.sl {B : Nat} {W : World} {v : Value} {l : List Sn} (h : SSnR B W v l) : ∃ g, v = .slice (some ⟨g, 0, none⟩) l.length l.length := by
  obtain ⟨g, e, _⟩ := h
  exact ⟨g, e⟩
theorem SSnR.at {B : Nat} {W : World} {v : Value} {l : List Sn} (h : SSnR B W v l) {i : Nat} (hi : i < l.length) : ∃ g, v = .slice (some ⟨g, 0, none⟩) l.length l.length ∧ B ≤ g ∧ g < W.heap.size ∧ W.cell? ⟨g, i * 4, none⟩ = some (.int .i64 (l.getD i sn0).kind) ∧ W.cell? ⟨g, i * 4 + 1, none⟩ = some (.string (l.getD i sn0).name) ∧ W.cell? ⟨g, i * 4 + 2, none⟩ = some (.int .i64 (l.getD i sn0).reply.code) ∧ W.cell? ⟨g, i * 4 + 3, none⟩ = some (.string (l.getD i sn0).reply.text) := by
  obtain ⟨g, e, hg, cur, h1, h2, h3⟩ := h
  obtain ⟨d0, d1, d2, d3⟩ := h3 i hi
  exact ⟨g, e, hg, lt_hp h1, (row_cell h1 _).trans d0, (row_cell h1 _).trans d1, (row_cell h1 _).trans d2, (row_cell h1 _).trans d3⟩
theorem SSnF.step {g : Nat} {W : World} {l : List Sn} {j : Nat} (h : SSnF g W l j) (hj : j < l.length) : SSnF g ((((W.setCell ⟨g, j * 4, none⟩ (.int .i64 (l.getD j sn0).kind)).setCell ⟨g, j * 4 + 1, none⟩ (.string (l.getD j sn0).name)).setCell ⟨g, j * 4 + 2, none⟩ (.int .i64 (l.getD j sn0).reply.code)).setCell ⟨g, j * 4 + 3, none⟩ (.string (l.getD j sn0).reply.text)) l (j + 1) := by
  obtain ⟨cur, h1, h2, h3⟩ := h
  refine ⟨_, (set_at (i := j * 4 + 3) (.string (l.getD j sn0).reply.text) (set_at (i := j * 4 + 2) (.int .i64 (l.getD j sn0).reply.code) (set_at (i := j * 4 + 1) (.string (l.getD j sn0).name) (set_at (i := j * 4) (.int .i64 (l.getD j sn0).kind) h1)))), by simp [h2], fun i hi => ?_⟩
  by_cases hij : i = j
  · subst hij
    exact ⟨(by rw [Array.getElem?_setIfInBounds_ne (by omega), Array.getElem?_setIfInBounds_ne (by omega), Array.getElem?_setIfInBounds_ne (by omega), Array.getElem?_setIfInBounds_self_of_lt (by first | omega | (simp; omega))]), (by rw [Array.getElem?_setIfInBounds_ne (by omega), Array.getElem?_setIfInBounds_ne (by omega), Array.getElem?_setIfInBounds_self_of_lt (by first | omega | (simp; omega))]), (by rw [Array.getElem?_setIfInBounds_ne (by omega), Array.getElem?_setIfInBounds_self_of_lt (by first | omega | (simp; omega))]), (by rw [Array.getElem?_setIfInBounds_self_of_lt (by first | omega | (simp; omega))])⟩
  · obtain ⟨d0, d1, d2, d3⟩ := h3 i (by omega)
    exact ⟨(by rw [Array.getElem?_setIfInBounds_ne (by omega), Array.getElem?_setIfInBounds_ne (by omega), Array.getElem?_setIfInBounds_ne (by omega), Array.getElem?_setIfInBounds_ne (by omega)]; exact d0), (by rw [Array.getElem?_setIfInBounds_ne (by omega), Array.getElem?_setIfInBounds_ne (by omega), Array.getElem?_setIfInBounds_ne (by omega), Array.getElem?_setIfInBounds_ne (by omega)]; exact d1), (by rw [Array.getElem?_setIfInBounds_ne (by omega), Array.getElem?_setIfInBounds_ne (by omega), Array.getElem?_setIfInBounds_ne (by omega), Array.getElem?_setIfInBounds_ne (by omega)]; exact d2), (by rw [Array.getElem?_setIfInBounds_ne (by omega), Array.getElem?_setIfInBounds_ne (by omega), Array.getElem?_setIfInBounds_ne (by omega), Array.getElem?_setIfInBounds_ne (by omega)]; exact d3)⟩
theorem SSnF.lt {g : Nat} {W : World} {l : List Sn} {j : Nat} (h : SSnF g W l j) : g < W.heap.size := by
  obtain ⟨cur, h1, _⟩ := h
  exact lt_hp h1
theorem SSnF.room {g : Nat} {W : World} {l : List Sn} {j : Nat} (h : SSnF g W l j) {i : Nat} (hi : i < l.length * 4) : (∃ v, W.cell? ⟨g, i, none⟩ = some v) ∧ W.frozen? ⟨g, i, none⟩ = false := by
  obtain ⟨cur, h1, h2, _⟩ := h
  exact row_room h1 (by omega)
def wSn (x : Sn) : Nat := x.name.size + wRy x.reply
def OkSn (x : Sn) : Prop := (-9223372036854775808 ≤ x.kind ∧ x.kind ≤ 9223372036854775807) ∧ x.name.size ≤ maxLen ∧ OkRy x.reply
def LoSn (x : Sn) : Prop := LoRy x.reply
def wSSn (l : List Sn) : Nat → Nat
  | 0 => 0
  | n + 1 => wSSn l n + 1 + wSn (l.getD n sn0)
theorem wSSn_ge (l : List Sn) (n : Nat) : n ≤ wSSn l n := by
  induction n with
  | zero => exact Nat.le_refl _
  | succ n ih => simp only [wSSn]; omega
theorem wSSn_mono (l : List Sn) {j n : Nat} (h : j ≤ n) : wSSn l j ≤ wSSn l n := by
  induction h with
  | refl => exact Nat.le_refl _
  | step _ ih => simp only [wSSn]; omega
theorem wSSn_at (l : List Sn) {n m : Nat} (h : n < m) : wSSn l n + 1 + wSn (l.getD n sn0) ≤ wSSn l m := wSSn_mono l (Nat.succ_le_of_lt h)
def OkSnS (l : List Sn) : Prop := l.length ≤ maxLen ∧ ∀ i, i < l.length → OkSn (l.getD i sn0)
def LoSnS (l : List Sn) : Prop := l.length ≤ 1048576 ∧ ∀ i, i < l.length → LoSn (l.getD i sn0)
theorem loSn_of {x : Sn} (h : wSn x ≤ 1048576) : LoSn x := by
  simp only [wSn] at h
  exact loRy_of (by omega)
theorem loSnS_of {l : List Sn} (h : wSSn l l.length ≤ 1048576) : LoSnS l := ⟨Nat.le_trans (wSSn_ge l _) h, fun i hi => loSn_of (by have := wSSn_at l hi; omega)⟩
end Go.Proofs.Ytpligndiomblhaa.R
