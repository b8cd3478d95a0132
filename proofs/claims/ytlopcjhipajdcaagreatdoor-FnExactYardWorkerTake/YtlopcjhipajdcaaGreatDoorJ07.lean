import Derived.Test.YtlopcjhipajdcaaGreatDoorJ06
/-! The structs of the law's arguments in memory. -/
namespace Go.Proofs.YtlopcjhipajdcaaGreatDoor.R
open Go.RowKit
set_option maxRecDepth 20000
/-- The cells of an element at an address. -/
def StrA (W : World) (a : Addr) (x : ByteArray) : Prop := W.cell? a = some (.string x)
theorem StrA.of {W V : World} {a : Addr} {x : ByteArray} (h : StrA W a x) (hk : ∀ p : Addr, p.block = a.block → V.cell? p = W.cell? p) : StrA V a x := by
  exact (hk _ rfl).trans h
/-- A row that came in. -/
def SStrA (W : World) (v : Value) (l : List ByteArray) : Prop := ∃ (ad : Option Addr) (c : Nat), v = .slice ad l.length c ∧ (l = [] ∨ ∃ a : Addr, ad = some a ∧ a.block < W.heap.size ∧ ∀ i, i < l.length → StrA W (a.add i) (l.getD i ⟨#[]⟩))
theorem SStrA.next {W V : World} {v : Value} {l : List ByteArray} (h : SStrA W v l) (hb : Below W.heap.size W V) : SStrA V v l := by
  obtain ⟨ad, c, e, h1⟩ := h
  refine ⟨ad, c, e, ?_⟩
  rcases h1 with h1 | ⟨a, e1, e2, e3⟩
  · exact .inl h1
  · refine .inr ⟨a, e1, Nat.lt_of_lt_of_le e2 hb.size, fun i hi => ?_⟩
    exact (e3 i hi).of fun p hp => hb.cell (by rw [hp, add_block]; exact e2)
theorem SStrA.sl {W : World} {v : Value} {l : List ByteArray} (h : SStrA W v l) : ∃ ad c, v = .slice ad l.length c := by
  obtain ⟨ad, c, e, _⟩ := h
  exact ⟨ad, c, e⟩
theorem SStrA.at {W : World} {v : Value} {l : List ByteArray} (h : SStrA W v l) {i : Nat} (hi : i < l.length) : ∃ (a : Addr) (c : Nat), v = .slice (some a) l.length c ∧ a.block < W.heap.size ∧ StrA W (a.add i) (l.getD i ⟨#[]⟩) := by
  obtain ⟨ad, c, e, h1⟩ := h
  rcases h1 with h1 | ⟨a, e1, e2, e3⟩
  · rw [h1] at hi; exact absurd hi (Nat.not_lt_zero _)
  · subst e1
    exact ⟨a, c, e, e2, e3 i hi⟩
/-- The first j elements of a row that is being made. -/
def SStrF (g : Nat) (W : World) (l : List ByteArray) (j : Nat) : Prop := ∃ cur, W.heap[g]? = some (.cells cur 9 (0, 0)) ∧ cur.size = l.length * 1 ∧ ∀ i, i < j → cur[i]? = some (.string (l.getD i ⟨#[]⟩))
/-- A row that was made: it lies at B or above, what its elements hold above it. -/
def SStrR (B : Nat) (W : World) (v : Value) (l : List ByteArray) : Prop := ∃ g, v = .slice (some ⟨g, 0, none⟩) l.length l.length ∧ B ≤ g ∧ SStrF g W l l.length
theorem SStrF.keep {g : Nat} {W V : World} {l : List ByteArray} {j : Nat} (h : SStrF g W l j) (hk : ∀ i, g ≤ i → i < W.heap.size → V.heap[i]? = W.heap[i]?) : SStrF g V l j := by
  obtain ⟨cur, h1, h2, h3⟩ := h
  exact ⟨cur, (hk g (Nat.le_refl _) (lt_hp h1)).trans h1, h2, h3⟩
theorem SStrR.keep {B : Nat} {W V : World} {v : Value} {l : List ByteArray} (h : SStrR B W v l) (hk : ∀ i, B ≤ i → i < W.heap.size → V.heap[i]? = W.heap[i]?) : SStrR B V v l := by
  obtain ⟨g, e, hg, h1⟩ := h
  exact ⟨g, e, hg, h1.keep fun i hi hj => hk i (by omega) hj⟩
theorem SStrR.next {B : Nat} {W V : World} {v : Value} {l : List ByteArray} (h : SStrR B W v l) (hb : Below W.heap.size W V) : SStrR B V v l := h.keep fun i _ hj => hb.block i hj
theorem SStrR.set {B : Nat} {W : World} {v : Value} {l : List ByteArray} (h : SStrR B W v l) {b : Nat} (hb : b < B) (i : Nat) (u : Value) : SStrR B (W.setCell ⟨b, i, none⟩ u) v l := h.keep fun x hx _ => set_other _ _ _ _ _ (by omega)
theorem SStrR.mono {B B' : Nat} {W : World} {v : Value} {l : List ByteArray} (h : SStrR B W v l) (hb : B' ≤ B) : SStrR B' W v l := by
  obtain ⟨g, e, hg, h1⟩ := h
  exact ⟨g, e, Nat.le_trans hb hg, h1⟩
theorem SStrR.sl {B : Nat} {W : World} {v : Value} {l : List ByteArray} (h : SStrR B W v l) : ∃ g, v = .slice (some ⟨g, 0, none⟩) l.length l.length := by
  obtain ⟨g, e, _⟩ := h
  exact ⟨g, e⟩
theorem SStrR.at {B : Nat} {W : World} {v : Value} {l : List ByteArray} (h : SStrR B W v l) {i : Nat} (hi : i < l.length) : ∃ g, v = .slice (some ⟨g, 0, none⟩) l.length l.length ∧ B ≤ g ∧ g < W.heap.size ∧ W.cell? ⟨g, i, none⟩ = some (.string (l.getD i ⟨#[]⟩)) := by
  obtain ⟨g, e, hg, cur, h1, h2, h3⟩ := h
  exact ⟨g, e, hg, lt_hp h1, (row_cell h1 _).trans (h3 i hi)⟩
theorem SStrF.step {g : Nat} {W : World} {l : List ByteArray} {j : Nat} (h : SStrF g W l j) (hj : j < l.length) : SStrF g (W.setCell ⟨g, j, none⟩ (.string (l.getD j ⟨#[]⟩))) l (j + 1) := by
  obtain ⟨cur, h1, h2, h3⟩ := h
  refine ⟨_, (set_at (i := j) (.string (l.getD j ⟨#[]⟩)) h1), by simp [h2], fun i hi => ?_⟩
  by_cases hij : i = j
  · subst hij
    exact (by rw [Array.getElem?_setIfInBounds_self_of_lt (by first | omega | (simp; omega))])
  · exact (by rw [Array.getElem?_setIfInBounds_ne (by omega)]; exact h3 i (by omega))
theorem SStrF.lt {g : Nat} {W : World} {l : List ByteArray} {j : Nat} (h : SStrF g W l j) : g < W.heap.size := by
  obtain ⟨cur, h1, _⟩ := h
  exact lt_hp h1
theorem SStrF.room {g : Nat} {W : World} {l : List ByteArray} {j : Nat} (h : SStrF g W l j) {i : Nat} (hi : i < l.length * 1) : (∃ v, W.cell? ⟨g, i, none⟩ = some v) ∧ W.frozen? ⟨g, i, none⟩ = false := by
  obtain ⟨cur, h1, h2, _⟩ := h
  exact row_room h1 (by omega)
def wSStr (l : List ByteArray) : Nat → Nat
  | 0 => 0
  | n + 1 => wSStr l n + 1 + (l.getD n ⟨#[]⟩).size
theorem wSStr_ge (l : List ByteArray) (n : Nat) : n ≤ wSStr l n := by
  induction n with
  | zero => exact Nat.le_refl _
  | succ n ih => simp only [wSStr]; omega
theorem wSStr_mono (l : List ByteArray) {j n : Nat} (h : j ≤ n) : wSStr l j ≤ wSStr l n := by
  induction h with
  | refl => exact Nat.le_refl _
  | step _ ih => simp only [wSStr]; omega
theorem wSStr_at (l : List ByteArray) {n m : Nat} (h : n < m) : wSStr l n + 1 + (l.getD n ⟨#[]⟩).size ≤ wSStr l m := wSStr_mono l (Nat.succ_le_of_lt h)
def OkStrS (l : List ByteArray) : Prop := l.length ≤ maxLen ∧ ∀ i, i < l.length → (l.getD i ⟨#[]⟩).size ≤ maxLen
def LoStrS (l : List ByteArray) : Prop := l.length ≤ 1048576
theorem loStrS_of {l : List ByteArray} (h : wSStr l l.length ≤ 1048576) : LoStrS l := Nat.le_trans (wSStr_ge l _) h
structure Tg where
  name : ByteArray
  tool : ByteArray
  arg : ByteArray
  ins : List ByteArray
  outs : List ByteArray
def tg0 : Tg := ⟨⟨#[]⟩, ⟨#[]⟩, ⟨#[]⟩, [], []⟩
def wTg (x : Tg) : Nat := x.name.size + x.tool.size + x.arg.size + wSStr x.ins x.ins.length + wSStr x.outs x.outs.length
def OkTg (x : Tg) : Prop := x.name.size ≤ maxLen ∧ x.tool.size ≤ maxLen ∧ x.arg.size ≤ maxLen ∧ OkStrS x.ins ∧ OkStrS x.outs
def LoTg (x : Tg) : Prop := LoStrS x.ins ∧ LoStrS x.outs
theorem loTg_of {x : Tg} (h : wTg x ≤ 1048576) : LoTg x := by
  simp only [wTg] at h
  exact ⟨loStrS_of (by omega), loStrS_of (by omega)⟩
structure Ry where
  code : Int
  text : ByteArray
def ry0 : Ry := ⟨0, ⟨#[]⟩⟩
def wRy (x : Ry) : Nat := x.text.size
def OkRy (x : Ry) : Prop := (-9223372036854775808 ≤ x.code ∧ x.code ≤ 9223372036854775807) ∧ x.text.size ≤ maxLen
def LoRy (x : Ry) : Prop := x = x
theorem loRy_of {x : Ry} (_h : wRy x ≤ 1048576) : LoRy x := rfl
structure Sn where
  kind : Int
  name : ByteArray
  reply : Ry
def sn0 : Sn := ⟨0, ⟨#[]⟩, ry0⟩
/-- The cells of an element at an address. -/
def SnA (W : World) (a : Addr) (x : Sn) : Prop := W.cell? a = some (.int .i64 x.kind) ∧ W.cell? ⟨a.block, a.off + 1, none⟩ = some (.string x.name) ∧ W.cell? ⟨a.block, a.off + 2, none⟩ = some (.int .i64 x.reply.code) ∧ W.cell? ⟨a.block, a.off + 3, none⟩ = some (.string x.reply.text)
theorem SnA.of {W V : World} {a : Addr} {x : Sn} (h : SnA W a x) (hk : ∀ p : Addr, p.block = a.block → V.cell? p = W.cell? p) : SnA V a x := by
  obtain ⟨h0, h1, h2, h3⟩ := h
  exact ⟨(hk _ rfl).trans h0, (hk ⟨_, _, none⟩ rfl).trans h1, (hk ⟨_, _, none⟩ rfl).trans h2, (hk ⟨_, _, none⟩ rfl).trans h3⟩
/-- A row that came in. -/
def SSnA (W : World) (v : Value) (l : List Sn) : Prop := ∃ (ad : Option Addr) (c : Nat), v = .slice ad l.length c ∧ (l = [] ∨ ∃ a : Addr, ad = some a ∧ a.block < W.heap.size ∧ ∀ i, i < l.length → SnA W (a.add (i * 4)) (l.getD i sn0))
theorem SSnA.next {W V : World} {v : Value} {l : List Sn} (h : SSnA W v l) (hb : Below W.heap.size W V) : SSnA V v l := by
  obtain ⟨ad, c, e, h1⟩ := h
  refine ⟨ad, c, e, ?_⟩
  rcases h1 with h1 | ⟨a, e1, e2, e3⟩
  · exact .inl h1
  · refine .inr ⟨a, e1, Nat.lt_of_lt_of_le e2 hb.size, fun i hi => ?_⟩
    exact (e3 i hi).of fun p hp => hb.cell (by rw [hp, add_block]; exact e2)
theorem SSnA.sl {W : World} {v : Value} {l : List Sn} (h : SSnA W v l) : ∃ ad c, v = .slice ad l.length c := by
  obtain ⟨ad, c, e, _⟩ := h
  exact ⟨ad, c, e⟩
theorem SSnA.at {W : World} {v : Value} {l : List Sn} (h : SSnA W v l) {i : Nat} (hi : i < l.length) : ∃ (a : Addr) (c : Nat), v = .slice (some a) l.length c ∧ a.block < W.heap.size ∧ SnA W (a.add (i * 4)) (l.getD i sn0) := by
  obtain ⟨ad, c, e, h1⟩ := h
  rcases h1 with h1 | ⟨a, e1, e2, e3⟩
  · rw [h1] at hi; exact absurd hi (Nat.not_lt_zero _)
  · subst e1
    exact ⟨a, c, e, e2, e3 i hi⟩
/-- The first j elements of a row that is being made. -/
def SSnF (g : Nat) (W : World) (l : List Sn) (j : Nat) : Prop := ∃ cur, W.heap[g]? = some (.cells cur 88 (0, 0)) ∧ cur.size = l.length * 4 ∧ ∀ i, i < j → cur[i * 4]? = some (.int .i64 (l.getD i sn0).kind) ∧ cur[i * 4 + 1]? = some (.string (l.getD i sn0).name) ∧ cur[i * 4 + 2]? = some (.int .i64 (l.getD i sn0).reply.code) ∧ cur[i * 4 + 3]? = some (.string (l.getD i sn0).reply.text)
/-- A row that was made: it lies at B or above, what its elements hold above it. -/
def SSnR (B : Nat) (W : World) (v : Value) (l : List Sn) : Prop := ∃ g, v = .slice (some ⟨g, 0, none⟩) l.length l.length ∧ B ≤ g ∧ SSnF g W l l.length
theorem SSnF.keep {g : Nat} {W V : World} {l : List Sn} {j : Nat} (h : SSnF g W l j) (hk : ∀ i, g ≤ i → i < W.heap.size → V.heap[i]? = W.heap[i]?) : SSnF g V l j := by
  obtain ⟨cur, h1, h2, h3⟩ := h
  exact ⟨cur, (hk g (Nat.le_refl _) (lt_hp h1)).trans h1, h2, h3⟩
theorem SSnR.keep {B : Nat} {W V : World} {v : Value} {l : List Sn} (h : SSnR B W v l) (hk : ∀ i, B ≤ i → i < W.heap.size → V.heap[i]? = W.heap[i]?) : SSnR B V v l := by
  obtain ⟨g, e, hg, h1⟩ := h
  exact ⟨g, e, hg, h1.keep fun i hi hj => hk i (by omega) hj⟩
theorem SSnR.next {B : Nat} {W V : World} {v : Value} {l : List Sn} (h : SSnR B W v l) (hb : Below W.heap.size W V) : SSnR B V v l := h.keep fun i _ hj => hb.block i hj
theorem SSnR.set {B : Nat} {W : World} {v : Value} {l : List Sn} (h : SSnR B W v l) {b : Nat} (hb : b < B) (i : Nat) (u : Value) : SSnR B (W.setCell ⟨b, i, none⟩ u) v l := h.keep fun x hx _ => set_other _ _ _ _ _ (by omega)
theorem SSnR.mono {B B' : Nat} {W : World} {v : Value} {l : List Sn} (h : SSnR B W v l) (hb : B' ≤ B) : SSnR B' W v l := by
  obtain ⟨g, e, hg, h1⟩ := h
  exact ⟨g, e, Nat.le_trans hb hg, h1⟩
theorem SSnR.sl {B : Nat} {W : World} {v : Value} {l : List Sn} (h : SSnR B W v l) : ∃ g, v = .slice (some ⟨g, 0, none⟩) l.length l.length := by
  obtain ⟨g, e, _⟩ := h
  exact ⟨g, e⟩
theorem SSnR.at {B : Nat} {W : World} {v : Value} {l : List Sn} (h : SSnR B W v l) {i : Nat} (hi : i < l.length) : ∃ g, v = .slice (some ⟨g, 0, none⟩) l.length l.length ∧ B ≤ g ∧ g < W.heap.size ∧ W.cell? ⟨g, i * 4, none⟩ = some (.int .i64 (l.getD i sn0).kind) ∧ W.cell? ⟨g, i * 4 + 1, none⟩ = some (.string (l.getD i sn0).name) ∧ W.cell? ⟨g, i * 4 + 2, none⟩ = some (.int .i64 (l.getD i sn0).reply.code) ∧ W.cell? ⟨g, i * 4 + 3, none⟩ = some (.string (l.getD i sn0).reply.text) := by
  obtain ⟨g, e, hg, cur, h1, h2, h3⟩ := h
  obtain ⟨d0, d1, d2, d3⟩ := h3 i hi
  exact ⟨g, e, hg, lt_hp h1, (row_cell h1 _).trans d0, (row_cell h1 _).trans d1, (row_cell h1 _).trans d2, (row_cell h1 _).trans d3⟩
theorem SSnF.step {g : Nat} {W : World} {l : List Sn} {j : Nat} (h : SSnF g W l j) (hj : j < l.length) : SSnF g ((((W.setCell ⟨g, j * 4, none⟩ (.int .i64 (l.getD j sn0).kind)).setCell ⟨g, j * 4 + 1, none⟩ (.string (l.getD j sn0).name)).setCell ⟨g, j * 4 + 2, none⟩ (.int .i64 (l.getD j sn0).reply.code)).setCell ⟨g, j * 4 + 3, none⟩ (.string (l.getD j sn0).reply.text)) l (j + 1) := by
  obtain ⟨cur, h1, h2, h3⟩ := h
  refine ⟨_, (set_at (i := j * 4 + 3) (.string (l.getD j sn0).reply.text) (set_at (i := j * 4 + 2) (.int .i64 (l.getD j sn0).reply.code) (set_at (i := j * 4 + 1) (.string (l.getD j sn0).name) (set_at (i := j * 4) (.int .i64 (l.getD j sn0).kind) h1)))), by simp [h2], fun i hi => ?_⟩
  by_cases hij : i = j
  · subst hij
    exact ⟨(by rw [Array.getElem?_setIfInBounds_ne (by omega), Array.getElem?_setIfInBounds_ne (by omega), Array.getElem?_setIfInBounds_ne (by omega), Array.getElem?_setIfInBounds_self_of_lt (by first | omega | (simp; omega))]), (by rw [Array.getElem?_setIfInBounds_ne (by omega), Array.getElem?_setIfInBounds_ne (by omega), Array.getElem?_setIfInBounds_self_of_lt (by first | omega | (simp; omega))]), (by rw [Array.getElem?_setIfInBounds_ne (by omega), Array.getElem?_setIfInBounds_self_of_lt (by first | omega | (simp; omega))]), (by rw [Array.getElem?_setIfInBounds_self_of_lt (by first | omega | (simp; omega))])⟩
  · obtain ⟨d0, d1, d2, d3⟩ := h3 i (by omega)
    exact ⟨(by rw [Array.getElem?_setIfInBounds_ne (by omega), Array.getElem?_setIfInBounds_ne (by omega), Array.getElem?_setIfInBounds_ne (by omega), Array.getElem?_setIfInBounds_ne (by omega)]; exact d0), (by rw [Array.getElem?_setIfInBounds_ne (by omega), Array.getElem?_setIfInBounds_ne (by omega), Array.getElem?_setIfInBounds_ne (by omega), Array.getElem?_setIfInBounds_ne (by omega)]; exact d1), (by rw [Array.getElem?_setIfInBounds_ne (by omega), Array.getElem?_setIfInBounds_ne (by omega), Array.getElem?_setIfInBounds_ne (by omega), Array.getElem?_setIfInBounds_ne (by omega)]; exact d2), (by rw [Array.getElem?_setIfInBounds_ne (by omega), Array.getElem?_setIfInBounds_ne (by omega), Array.getElem?_setIfInBounds_ne (by omega), Array.getElem?_setIfInBounds_ne (by omega)]; exact d3)⟩
theorem SSnF.lt {g : Nat} {W : World} {l : List Sn} {j : Nat} (h : SSnF g W l j) : g < W.heap.size := by
  obtain ⟨cur, h1, _⟩ := h
  exact lt_hp h1
theorem SSnF.room {g : Nat} {W : World} {l : List Sn} {j : Nat} (h : SSnF g W l j) {i : Nat} (hi : i < l.length * 4) : (∃ v, W.cell? ⟨g, i, none⟩ = some v) ∧ W.frozen? ⟨g, i, none⟩ = false := by
  obtain ⟨cur, h1, h2, _⟩ := h
  exact row_room h1 (by omega)
def wSn (x : Sn) : Nat := x.name.size + wRy x.reply
def OkSn (x : Sn) : Prop := (-9223372036854775808 ≤ x.kind ∧ x.kind ≤ 9223372036854775807) ∧ x.name.size ≤ maxLen ∧ OkRy x.reply
def LoSn (x : Sn) : Prop := LoRy x.reply
def wSSn (l : List Sn) : Nat → Nat
  | 0 => 0
  | n + 1 => wSSn l n + 1 + wSn (l.getD n sn0)
theorem wSSn_ge (l : List Sn) (n : Nat) : n ≤ wSSn l n := by
  induction n with
  | zero => exact Nat.le_refl _
  | succ n ih => simp only [wSSn]; omega
theorem wSSn_mono (l : List Sn) {j n : Nat} (h : j ≤ n) : wSSn l j ≤ wSSn l n := by
  induction h with
  | refl => exact Nat.le_refl _
  | step _ ih => simp only [wSSn]; omega
theorem wSSn_at (l : List Sn) {n m : Nat} (h : n < m) : wSSn l n + 1 + wSn (l.getD n sn0) ≤ wSSn l m := wSSn_mono l (Nat.succ_le_of_lt h)
def OkSnS (l : List Sn) : Prop := l.length ≤ maxLen ∧ ∀ i, i < l.length → OkSn (l.getD i sn0)
def LoSnS (l : List Sn) : Prop := l.length ≤ 1048576 ∧ ∀ i, i < l.length → LoSn (l.getD i sn0)
theorem loSn_of {x : Sn} (h : wSn x ≤ 1048576) : LoSn x := by
  simp only [wSn] at h
  exact loRy_of (by omega)
theorem loSnS_of {l : List Sn} (h : wSSn l l.length ≤ 1048576) : LoSnS l := ⟨Nat.le_trans (wSSn_ge l _) h, fun i hi => loSn_of (by have := wSSn_at l hi; omega)⟩
structure Fl where
  name : ByteArray
  text : ByteArray
def fl0 : Fl := ⟨⟨#[]⟩, ⟨#[]⟩⟩
/-- The cells of an element at an address. -/
def FlA (W : World) (a : Addr) (x : Fl) : Prop := W.cell? a = some (.string x.name) ∧ W.cell? ⟨a.block, a.off + 1, none⟩ = some (.string x.text)
theorem FlA.of {W V : World} {a : Addr} {x : Fl} (h : FlA W a x) (hk : ∀ p : Addr, p.block = a.block → V.cell? p = W.cell? p) : FlA V a x := by
  obtain ⟨h0, h1⟩ := h
  exact ⟨(hk _ rfl).trans h0, (hk ⟨_, _, none⟩ rfl).trans h1⟩
/-- A row that came in. -/
def SFlA (W : World) (v : Value) (l : List Fl) : Prop := ∃ (ad : Option Addr) (c : Nat), v = .slice ad l.length c ∧ (l = [] ∨ ∃ a : Addr, ad = some a ∧ a.block < W.heap.size ∧ ∀ i, i < l.length → FlA W (a.add (i * 2)) (l.getD i fl0))
theorem SFlA.next {W V : World} {v : Value} {l : List Fl} (h : SFlA W v l) (hb : Below W.heap.size W V) : SFlA V v l := by
  obtain ⟨ad, c, e, h1⟩ := h
  refine ⟨ad, c, e, ?_⟩
  rcases h1 with h1 | ⟨a, e1, e2, e3⟩
  · exact .inl h1
  · refine .inr ⟨a, e1, Nat.lt_of_lt_of_le e2 hb.size, fun i hi => ?_⟩
    exact (e3 i hi).of fun p hp => hb.cell (by rw [hp, add_block]; exact e2)
theorem SFlA.sl {W : World} {v : Value} {l : List Fl} (h : SFlA W v l) : ∃ ad c, v = .slice ad l.length c := by
  obtain ⟨ad, c, e, _⟩ := h
  exact ⟨ad, c, e⟩
theorem SFlA.at {W : World} {v : Value} {l : List Fl} (h : SFlA W v l) {i : Nat} (hi : i < l.length) : ∃ (a : Addr) (c : Nat), v = .slice (some a) l.length c ∧ a.block < W.heap.size ∧ FlA W (a.add (i * 2)) (l.getD i fl0) := by
  obtain ⟨ad, c, e, h1⟩ := h
  rcases h1 with h1 | ⟨a, e1, e2, e3⟩
  · rw [h1] at hi; exact absurd hi (Nat.not_lt_zero _)
  · subst e1
    exact ⟨a, c, e, e2, e3 i hi⟩
/-- The first j elements of a row that is being made. -/
def SFlF (g : Nat) (W : World) (l : List Fl) (j : Nat) : Prop := ∃ cur, W.heap[g]? = some (.cells cur 114 (0, 0)) ∧ cur.size = l.length * 2 ∧ ∀ i, i < j → cur[i * 2]? = some (.string (l.getD i fl0).name) ∧ cur[i * 2 + 1]? = some (.string (l.getD i fl0).text)
/-- A row that was made: it lies at B or above, what its elements hold above it. -/
def SFlR (B : Nat) (W : World) (v : Value) (l : List Fl) : Prop := ∃ g, v = .slice (some ⟨g, 0, none⟩) l.length l.length ∧ B ≤ g ∧ SFlF g W l l.length
theorem SFlF.keep {g : Nat} {W V : World} {l : List Fl} {j : Nat} (h : SFlF g W l j) (hk : ∀ i, g ≤ i → i < W.heap.size → V.heap[i]? = W.heap[i]?) : SFlF g V l j := by
  obtain ⟨cur, h1, h2, h3⟩ := h
  exact ⟨cur, (hk g (Nat.le_refl _) (lt_hp h1)).trans h1, h2, h3⟩
theorem SFlR.keep {B : Nat} {W V : World} {v : Value} {l : List Fl} (h : SFlR B W v l) (hk : ∀ i, B ≤ i → i < W.heap.size → V.heap[i]? = W.heap[i]?) : SFlR B V v l := by
  obtain ⟨g, e, hg, h1⟩ := h
  exact ⟨g, e, hg, h1.keep fun i hi hj => hk i (by omega) hj⟩
theorem SFlR.next {B : Nat} {W V : World} {v : Value} {l : List Fl} (h : SFlR B W v l) (hb : Below W.heap.size W V) : SFlR B V v l := h.keep fun i _ hj => hb.block i hj
theorem SFlR.set {B : Nat} {W : World} {v : Value} {l : List Fl} (h : SFlR B W v l) {b : Nat} (hb : b < B) (i : Nat) (u : Value) : SFlR B (W.setCell ⟨b, i, none⟩ u) v l := h.keep fun x hx _ => set_other _ _ _ _ _ (by omega)
theorem SFlR.mono {B B' : Nat} {W : World} {v : Value} {l : List Fl} (h : SFlR B W v l) (hb : B' ≤ B) : SFlR B' W v l := by
  obtain ⟨g, e, hg, h1⟩ := h
  exact ⟨g, e, Nat.le_trans hb hg, h1⟩
theorem SFlR.sl {B : Nat} {W : World} {v : Value} {l : List Fl} (h : SFlR B W v l) : ∃ g, v = .slice (some ⟨g, 0, none⟩) l.length l.length := by
  obtain ⟨g, e, _⟩ := h
  exact ⟨g, e⟩
theorem SFlR.at {B : Nat} {W : World} {v : Value} {l : List Fl} (h : SFlR B W v l) {i : Nat} (hi : i < l.length) : ∃ g, v = .slice (some ⟨g, 0, none⟩) l.length l.length ∧ B ≤ g ∧ g < W.heap.size ∧ W.cell? ⟨g, i * 2, none⟩ = some (.string (l.getD i fl0).name) ∧ W.cell? ⟨g, i * 2 + 1, none⟩ = some (.string (l.getD i fl0).text) := by
  obtain ⟨g, e, hg, cur, h1, h2, h3⟩ := h
  obtain ⟨d0, d1⟩ := h3 i hi
  exact ⟨g, e, hg, lt_hp h1, (row_cell h1 _).trans d0, (row_cell h1 _).trans d1⟩
theorem SFlF.step {g : Nat} {W : World} {l : List Fl} {j : Nat} (h : SFlF g W l j) (hj : j < l.length) : SFlF g ((W.setCell ⟨g, j * 2, none⟩ (.string (l.getD j fl0).name)).setCell ⟨g, j * 2 + 1, none⟩ (.string (l.getD j fl0).text)) l (j + 1) := by
  obtain ⟨cur, h1, h2, h3⟩ := h
  refine ⟨_, (set_at (i := j * 2 + 1) (.string (l.getD j fl0).text) (set_at (i := j * 2) (.string (l.getD j fl0).name) h1)), by simp [h2], fun i hi => ?_⟩
  by_cases hij : i = j
  · subst hij
    exact ⟨(by rw [Array.getElem?_setIfInBounds_ne (by omega), Array.getElem?_setIfInBounds_self_of_lt (by first | omega | (simp; omega))]), (by rw [Array.getElem?_setIfInBounds_self_of_lt (by first | omega | (simp; omega))])⟩
  · obtain ⟨d0, d1⟩ := h3 i (by omega)
    exact ⟨(by rw [Array.getElem?_setIfInBounds_ne (by omega), Array.getElem?_setIfInBounds_ne (by omega)]; exact d0), (by rw [Array.getElem?_setIfInBounds_ne (by omega), Array.getElem?_setIfInBounds_ne (by omega)]; exact d1)⟩
theorem SFlF.lt {g : Nat} {W : World} {l : List Fl} {j : Nat} (h : SFlF g W l j) : g < W.heap.size := by
  obtain ⟨cur, h1, _⟩ := h
  exact lt_hp h1
theorem SFlF.room {g : Nat} {W : World} {l : List Fl} {j : Nat} (h : SFlF g W l j) {i : Nat} (hi : i < l.length * 2) : (∃ v, W.cell? ⟨g, i, none⟩ = some v) ∧ W.frozen? ⟨g, i, none⟩ = false := by
  obtain ⟨cur, h1, h2, _⟩ := h
  exact row_room h1 (by omega)
def wFl (x : Fl) : Nat := x.name.size + x.text.size
def OkFl (x : Fl) : Prop := x.name.size ≤ maxLen ∧ x.text.size ≤ maxLen
def LoFl (x : Fl) : Prop := x = x
def wSFl (l : List Fl) : Nat → Nat
  | 0 => 0
  | n + 1 => wSFl l n + 1 + wFl (l.getD n fl0)
theorem wSFl_ge (l : List Fl) (n : Nat) : n ≤ wSFl l n := by
  induction n with
  | zero => exact Nat.le_refl _
  | succ n ih => simp only [wSFl]; omega
theorem wSFl_mono (l : List Fl) {j n : Nat} (h : j ≤ n) : wSFl l j ≤ wSFl l n := by
  induction h with
  | refl => exact Nat.le_refl _
  | step _ ih => simp only [wSFl]; omega
theorem wSFl_at (l : List Fl) {n m : Nat} (h : n < m) : wSFl l n + 1 + wFl (l.getD n fl0) ≤ wSFl l m := wSFl_mono l (Nat.succ_le_of_lt h)
def OkFlS (l : List Fl) : Prop := l.length ≤ maxLen ∧ ∀ i, i < l.length → OkFl (l.getD i fl0)
def LoFlS (l : List Fl) : Prop := l.length ≤ 1048576 ∧ ∀ i, i < l.length → LoFl (l.getD i fl0)
theorem loFl_of {x : Fl} (_h : wFl x ≤ 1048576) : LoFl x := rfl
theorem loFlS_of {l : List Fl} (h : wSFl l l.length ≤ 1048576) : LoFlS l := ⟨Nat.le_trans (wSFl_ge l _) h, fun i hi => loFl_of (by have := wSFl_at l hi; omega)⟩
structure Tu where
  over : Bool
  code : Int
  text : ByteArray
  kind : Int
  name : ByteArray
  steps : Int
  files : List Fl
  said : List ByteArray
def tu0 : Tu := ⟨false, 0, ⟨#[]⟩, 0, ⟨#[]⟩, 0, [], []⟩
def wTu (x : Tu) : Nat := x.text.size + x.name.size + wSFl x.files x.files.length + wSStr x.said x.said.length
def OkTu (x : Tu) : Prop := x.over = x.over ∧ (-9223372036854775808 ≤ x.code ∧ x.code ≤ 9223372036854775807) ∧ x.text.size ≤ maxLen ∧ (-9223372036854775808 ≤ x.kind ∧ x.kind ≤ 9223372036854775807) ∧ x.name.size ≤ maxLen ∧ (-9223372036854775808 ≤ x.steps ∧ x.steps ≤ 9223372036854775807) ∧ OkFlS x.files ∧ OkStrS x.said
def LoTu (x : Tu) : Prop := LoFlS x.files ∧ LoStrS x.said
theorem loTu_of {x : Tu} (h : wTu x ≤ 1048576) : LoTu x := by
  simp only [wTu] at h
  exact ⟨loFlS_of (by omega), loStrS_of (by omega)⟩
structure Ms where
  kind : Int
  to : Int
  sender : Int
  epoch : Int
  edit : Int
  target : Tg
  seen : List Sn
  count : Int
  turn : Tu
def ms0 : Ms := ⟨0, 0, 0, 0, 0, tg0, [], 0, tu0⟩
def wMs (x : Ms) : Nat := wTg x.target + wSSn x.seen x.seen.length + wTu x.turn
def OkMs (x : Ms) : Prop := (-9223372036854775808 ≤ x.kind ∧ x.kind ≤ 9223372036854775807) ∧ (-9223372036854775808 ≤ x.to ∧ x.to ≤ 9223372036854775807) ∧ (-9223372036854775808 ≤ x.sender ∧ x.sender ≤ 9223372036854775807) ∧ (-9223372036854775808 ≤ x.epoch ∧ x.epoch ≤ 9223372036854775807) ∧ (-9223372036854775808 ≤ x.edit ∧ x.edit ≤ 9223372036854775807) ∧ OkTg x.target ∧ OkSnS x.seen ∧ (-9223372036854775808 ≤ x.count ∧ x.count ≤ 9223372036854775807) ∧ OkTu x.turn
def LoMs (x : Ms) : Prop := LoTg x.target ∧ LoSnS x.seen ∧ LoTu x.turn
theorem loMs_of {x : Ms} (h : wMs x ≤ 1048576) : LoMs x := by
  simp only [wMs] at h
  exact ⟨loTg_of (by omega), loSnS_of (by omega), loTu_of (by omega)⟩
structure Wk where
  number : Int
  up : Bool
  has : Bool
  offer : Ms
def wk0 : Wk := ⟨0, false, false, ms0⟩
def wWk (x : Wk) : Nat := wMs x.offer
def OkWk (x : Wk) : Prop := (-9223372036854775808 ≤ x.number ∧ x.number ≤ 9223372036854775807) ∧ x.up = x.up ∧ x.has = x.has ∧ OkMs x.offer
def LoWk (x : Wk) : Prop := LoMs x.offer
end Go.Proofs.YtlopcjhipajdcaaGreatDoor.R
