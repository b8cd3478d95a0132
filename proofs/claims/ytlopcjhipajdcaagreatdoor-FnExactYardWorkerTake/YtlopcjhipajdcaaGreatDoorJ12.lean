import Derived.Laws.AppendOwn
import Derived.Test.YtlopcjhipajdcaaGreatDoorJ05
import Derived.Test.YtlopcjhipajdcaaGreatDoorJ11
import Derived.Test.YtlopcjhipajdcaaGreatDoorJ08
/-! Jobs: whether one is valid, by the program. -/
namespace Go.Proofs.YtlopcjhipajdcaaGreatDoor.J
open Go.RowKit
set_option maxRecDepth 20000
end Go.Proofs.YtlopcjhipajdcaaGreatDoor.J
/-! Sameness. -/
namespace Go.Proofs.YtlopcjhipajdcaaGreatDoor.R
open Go.RowKit
set_option maxRecDepth 20000
set_option maxHeartbeats 4000000 in
theorem eqSn_same (x : Sn) (w : World) :
    Calls Tryz.prog 68 #[.agg #[.int .i64 x.kind, .string x.name, .int .i64 x.reply.code, .string x.reply.text], .agg #[.int .i64 x.kind, .string x.name, .int .i64 x.reply.code, .string x.reply.text]] w fun e w' => e = .returned (.bool true) ∧ Below w.heap.size w w' := by
  have e0 : (x.name.toList != x.name.toList) = false := by simp
  have e1 : (x.reply.text.toList != x.reply.text.toList) = false := by simp
  have i0 : (x.kind != x.kind) = false := by simp
  have i1 : (x.reply.code != x.reply.code) = false := by simp
  have HB0 := hid (B2.start w (.cells #[.int .i64 x.kind, .string x.name, .int .i64 x.reply.code, .string x.reply.text] 88) (.cells #[.int .i64 x.kind, .string x.name, .int .i64 x.reply.code, .string x.reply.text] 88))
  go_enter Tryz.func68, Tryz.ntmps68
  go_wp2_with fail
  refine (eqRy_same x.reply _).mono ?_
  rintro e w1 ⟨rfl, hb0⟩
  have HB1 := hid (HB0.out.next hb0)
  clear hb0
  go_wp2
  go_ret
  exact ⟨rfl, HB1.out.lo⟩
end Go.Proofs.YtlopcjhipajdcaaGreatDoor.R
/-! Rows of texts, files, looks. Printed by gen_yrow.py. -/
namespace Go.Proofs.YtlopcjhipajdcaaGreatDoor.Y
open Go.RowKit R
open Go.Proofs.YtlopcjhipajdcaaGreatDoor.J (FileOk BegOk RepOk ltB Says says_t says_f)
set_option maxRecDepth 20000
theorem own_next {w w1 : World} {B e size k : Nat} {v : Value} {xs : List Value} (h : w.ownsRow B e size v k xs) (hb : Below w.heap.size w w1) : w1.ownsRow B e size v k xs := by
  obtain ⟨h1, h2 | ⟨g, cap, cur, a, b, c, d⟩⟩ := h
  · exact ⟨h1, .inl h2⟩
  · exact ⟨h1, .inr ⟨g, cap, cur, a, b, hp_next c hb, d⟩⟩
theorem own_blockK {W : World} {B t k n : Nat} {v : Value} {xs : List Value} (h : W.ownsRow B t k v n xs) {g : Nat} (e : v.ownBlock = some g) : B ≤ g ∧ g < W.heap.size ∧ ∃ cs, W.heap[g]? = some (.cells cs t (0, 0)) := by
  obtain ⟨_, ⟨rfl, _⟩ | ⟨g', cap, cur, rfl, hB, hc, _⟩⟩ := h
  · cases e
  · simp [Value.ownBlock] at e
    subst e
    exact ⟨hB, lt_hp hc, _, hc⟩
theorem own_monoK {W : World} {B B' t k n : Nat} {v : Value} {xs : List Value} (h : W.ownsRow B' t k v n xs) (hb : B ≤ B') : W.ownsRow B t k v n xs := by
  obtain ⟨hl, h | ⟨g, cap, cur, e, hB, h⟩⟩ := h
  · exact ⟨hl, .inl h⟩
  · exact ⟨hl, .inr ⟨g, cap, cur, e, Nat.le_trans hb hB, h⟩⟩
theorem own_formK {W : World} {B t k n : Nat} {v : Value} {xs : List Value} (h : W.ownsRow B t k v n xs) : ∃ ad c, v = .slice ad n c := by
  obtain ⟨_, ⟨rfl, rfl⟩ | ⟨g, cap, cur, rfl, _⟩⟩ := h
  · exact ⟨none, 0, rfl⟩
  · exact ⟨_, cap, rfl⟩
theorem grown_loK {w W V : World} {B t k n : Nat} {v : Value} {xs : List Value} (lo : Below B w W) (h : W.ownsRow B t k v n xs) (hB : B ≤ W.heap.size) (hg : W.grownBy V v.ownBlock) : Below B w V :=
  lo.grown hg hB fun _q e => (own_blockK h e).1
/-- A cell of a row of one's own. -/
theorem own_cellK {W : World} {B t k n : Nat} {v : Value} {xs : List Value} (h : W.ownsRow B t k v n xs) {i : Nat} (hi : i < xs.length) : ∃ g, (∃ c, v = .slice (some ⟨g, 0, none⟩) n c) ∧ g < W.heap.size ∧ B ≤ g ∧ ∀ j u, xs[j]? = some u → W.cell? ⟨g, j, none⟩ = some u := by
  have hc := fun g => h.cells (g := g)
  obtain ⟨hl, ⟨rfl, h0⟩ | ⟨g, cap, cur, rfl, hb, hg, _⟩⟩ := h
  · rw [hl, h0, Nat.zero_mul] at hi
    exact absurd hi (Nat.not_lt_zero _)
  · refine ⟨g, ⟨cap, rfl⟩, lt_hp hg, hb, fun j u hu => ?_⟩
    have := hc g rfl j u hu
    rwa [add_at] at this
/-- Blocks of two rows are not the same. -/
def Ap (u v : Value) : Prop := ∀ g, u.ownBlock = some g → v.ownBlock ≠ some g
theorem ap_of {W V : World} {B C t k n s m j : Nat} {u v : Value} {xs ys : List Value} (h : W.ownsRow B t k u n xs) (h2 : V.ownsRow C s m v j ys) (hC : W.heap.size ≤ C) : Ap u v := fun g e e2 => by
  have h3 := (own_blockK h e).2.1
  have h4 := (own_blockK h2 e2).1
  omega
def cStr : List ByteArray → List Value
  | [] => []
  | x :: l => (.string x) :: cStr l
theorem cStr_len : ∀ l : List ByteArray, (cStr l).length = l.length * 1
  | [] => rfl
  | x :: l => by simp only [cStr, List.length_cons, cStr_len l]; omega
theorem cStr_app : ∀ a b : List ByteArray, cStr (a ++ b) = cStr a ++ cStr b
  | [], b => rfl
  | x :: a, b => by simp only [cStr, List.cons_append, cStr_app a b]
theorem cStr_get : ∀ (l : List ByteArray) (i : Nat), i < l.length → (cStr l)[i]? = some (.string (l.getD i ⟨#[]⟩))
  | [], _, h => absurd h (Nat.not_lt_zero _)
  | x :: l, 0, _ => rfl
  | x :: l, i + 1, h => by
    have := cStr_get l i (by simp at h; omega)
    simpa [cStr] using this
def OwnStr (B : Nat) (W : World) (v : Value) (l : List ByteArray) : Prop := W.ownsRow B 9 1 v l.length (cStr l)
theorem ownStr_nil (B : Nat) (W : World) : OwnStr B W (.slice none 0 0) [] := ⟨rfl, .inl ⟨rfl, rfl⟩⟩
/-- A row that can be read. -/
def RdStr (W : World) (v : Value) (l : List ByteArray) : Prop := ∃ (ad : Option Addr) (cp : Nat), v = .slice ad l.length cp ∧ (l = [] ∨ ∃ g, ad = some ⟨g, 0, none⟩ ∧ g < W.heap.size ∧ ∀ i, i < l.length → W.cell? ⟨g, i, none⟩ = some (.string (l.getD i ⟨#[]⟩)))
theorem RdStr.next {W V : World} {v : Value} {l : List ByteArray} (h : RdStr W v l) (hb : Below W.heap.size W V) : RdStr V v l := by
  obtain ⟨ad, cp, e, h1⟩ := h
  refine ⟨ad, cp, e, ?_⟩
  rcases h1 with h1 | ⟨g, e1, e2, e3⟩
  · exact .inl h1
  · refine .inr ⟨g, e1, Nat.lt_of_lt_of_le e2 hb.size, fun i hi => ?_⟩
    have h9 := e3 i hi
    exact (hb.cell (p := ⟨g, _, none⟩) e2).trans h9
theorem RdStr.sl {W : World} {v : Value} {l : List ByteArray} (h : RdStr W v l) : ∃ ad cp, v = .slice ad l.length cp := by
  obtain ⟨ad, cp, e, _⟩ := h
  exact ⟨ad, cp, e⟩
theorem RdStr.at {W : World} {ad : Option Addr} {n cp : Nat} {l : List ByteArray} (h : RdStr W (.slice ad n cp) l) {i : Nat} (hi : i < l.length) : ∃ g, ad = some ⟨g, 0, none⟩ ∧ g < W.heap.size ∧ W.cell? ⟨g, i, none⟩ = some (.string (l.getD i ⟨#[]⟩)) := by
  obtain ⟨ad', c', e, h1⟩ := h
  injection e with ea _ _
  rcases h1 with h1 | ⟨g, e1, e2, e3⟩
  · rw [h1] at hi; exact absurd hi (Nat.not_lt_zero _)
  · exact ⟨g, ea.trans e1, e2, e3 i hi⟩
theorem RdStr.ofR {B : Nat} {W : World} {v : Value} {l : List ByteArray} (h : SStrR B W v l) : RdStr W v l := by
  obtain ⟨g, e, hg, cur, h1, h2, h3⟩ := h
  refine ⟨_, _, e, .inr ⟨g, rfl, lt_hp h1, fun i hi => ?_⟩⟩
  have h9 := h3 i hi
  exact (row_cell h1 _).trans h9
theorem RdStr.own {B : Nat} {W : World} {v : Value} {l : List ByteArray} (h : OwnStr B W v l) : RdStr W v l := by
  obtain ⟨ad, cp, rfl⟩ := own_formK h
  refine ⟨ad, cp, rfl, ?_⟩
  by_cases e : l = []
  · exact .inl e
  · have hp : 0 < l.length := Nat.pos_of_ne_zero fun h => e (List.eq_nil_of_length_eq_zero h)
    obtain ⟨g, ⟨c2, e2⟩, hg, _, hc⟩ := own_cellK h (i := 0) (by rw [cStr_len]; omega)
    injection e2 with e2 _ _
    refine .inr ⟨g, e2, hg, fun i hi => ?_⟩
    have h9 := cStr_get l i hi
    exact hc _ _ h9
theorem RdStr.toA {W : World} {v : Value} {l : List ByteArray} (h : RdStr W v l) : SStrA W v l := by
  obtain ⟨ad, cp, e, h1⟩ := h
  refine ⟨ad, cp, e, ?_⟩
  rcases h1 with h1 | ⟨g, e1, e2, e3⟩
  · exact .inl h1
  · refine .inr ⟨⟨g, 0, none⟩, e1, e2, fun i hi => ?_⟩
    have h9 := e3 i hi
    unfold StrA
    rw [add_at]
    exact h9
/-- A row that was made is one of one's own. -/
theorem ownStr_of {B : Nat} {W : World} {v : Value} {l : List ByteArray} (h : SStrR B W v l) (hl : l.length ≤ 1048576) : OwnStr B W v l := by
  obtain ⟨g, e, hg, cur, h1, h2, h3⟩ := h
  refine ⟨by rw [cStr_len], .inr ⟨g, l.length, cur, e, hg, h1, Nat.le_refl _, by unfold maxLen; omega, h2, ?_⟩⟩
  apply List.ext_getElem?
  intro j
  by_cases hj : j < l.length * 1
  · have h9 := cStr_get l j (by omega)
    rw [List.getElem?_take_of_lt hj, Array.getElem?_toList, h9, h3 j (by omega)]
  · rw [List.getElem?_eq_none (by rw [List.length_take]; omega), List.getElem?_eq_none (by rw [cStr_len]; omega)]
def cFl : List Fl → List Value
  | [] => []
  | x :: l => (.string x.name) :: (.string x.text) :: cFl l
theorem cFl_len : ∀ l : List Fl, (cFl l).length = l.length * 2
  | [] => rfl
  | x :: l => by simp only [cFl, List.length_cons, cFl_len l]; omega
theorem cFl_app : ∀ a b : List Fl, cFl (a ++ b) = cFl a ++ cFl b
  | [], b => rfl
  | x :: a, b => by simp only [cFl, List.cons_append, cFl_app a b]
theorem cFl_get : ∀ (l : List Fl) (i : Nat), i < l.length → (cFl l)[i * 2]? = some (.string (l.getD i fl0).name) ∧ (cFl l)[i * 2 + 1]? = some (.string (l.getD i fl0).text)
  | [], _, h => absurd h (Nat.not_lt_zero _)
  | x :: l, 0, _ => ⟨rfl, rfl⟩
  | x :: l, i + 1, h => by
    have := cFl_get l i (by simp at h; omega)
    have e : (i + 1) * 2 = i * 2 + 1 + 1 := by omega
    rw [e]
    simpa [cFl] using this
def OwnFl (B : Nat) (W : World) (v : Value) (l : List Fl) : Prop := W.ownsRow B 114 2 v l.length (cFl l)
theorem ownFl_nil (B : Nat) (W : World) : OwnFl B W (.slice none 0 0) [] := ⟨rfl, .inl ⟨rfl, rfl⟩⟩
/-- A row that can be read. -/
def RdFl (W : World) (v : Value) (l : List Fl) : Prop := ∃ (ad : Option Addr) (cp : Nat), v = .slice ad l.length cp ∧ (l = [] ∨ ∃ g, ad = some ⟨g, 0, none⟩ ∧ g < W.heap.size ∧ ∀ i, i < l.length → W.cell? ⟨g, i * 2, none⟩ = some (.string (l.getD i fl0).name) ∧ W.cell? ⟨g, i * 2 + 1, none⟩ = some (.string (l.getD i fl0).text))
theorem RdFl.next {W V : World} {v : Value} {l : List Fl} (h : RdFl W v l) (hb : Below W.heap.size W V) : RdFl V v l := by
  obtain ⟨ad, cp, e, h1⟩ := h
  refine ⟨ad, cp, e, ?_⟩
  rcases h1 with h1 | ⟨g, e1, e2, e3⟩
  · exact .inl h1
  · refine .inr ⟨g, e1, Nat.lt_of_lt_of_le e2 hb.size, fun i hi => ?_⟩
    have h9 := e3 i hi
    exact ⟨(hb.cell (p := ⟨g, _, none⟩) e2).trans h9.1, (hb.cell (p := ⟨g, _, none⟩) e2).trans h9.2⟩
theorem RdFl.sl {W : World} {v : Value} {l : List Fl} (h : RdFl W v l) : ∃ ad cp, v = .slice ad l.length cp := by
  obtain ⟨ad, cp, e, _⟩ := h
  exact ⟨ad, cp, e⟩
theorem RdFl.at {W : World} {ad : Option Addr} {n cp : Nat} {l : List Fl} (h : RdFl W (.slice ad n cp) l) {i : Nat} (hi : i < l.length) : ∃ g, ad = some ⟨g, 0, none⟩ ∧ g < W.heap.size ∧ W.cell? ⟨g, i * 2, none⟩ = some (.string (l.getD i fl0).name) ∧ W.cell? ⟨g, i * 2 + 1, none⟩ = some (.string (l.getD i fl0).text) := by
  obtain ⟨ad', c', e, h1⟩ := h
  injection e with ea _ _
  rcases h1 with h1 | ⟨g, e1, e2, e3⟩
  · rw [h1] at hi; exact absurd hi (Nat.not_lt_zero _)
  · exact ⟨g, ea.trans e1, e2, e3 i hi⟩
theorem RdFl.ofR {B : Nat} {W : World} {v : Value} {l : List Fl} (h : SFlR B W v l) : RdFl W v l := by
  obtain ⟨g, e, hg, cur, h1, h2, h3⟩ := h
  refine ⟨_, _, e, .inr ⟨g, rfl, lt_hp h1, fun i hi => ?_⟩⟩
  have h9 := h3 i hi
  exact ⟨(row_cell h1 _).trans h9.1, (row_cell h1 _).trans h9.2⟩
theorem RdFl.own {B : Nat} {W : World} {v : Value} {l : List Fl} (h : OwnFl B W v l) : RdFl W v l := by
  obtain ⟨ad, cp, rfl⟩ := own_formK h
  refine ⟨ad, cp, rfl, ?_⟩
  by_cases e : l = []
  · exact .inl e
  · have hp : 0 < l.length := Nat.pos_of_ne_zero fun h => e (List.eq_nil_of_length_eq_zero h)
    obtain ⟨g, ⟨c2, e2⟩, hg, _, hc⟩ := own_cellK h (i := 0) (by rw [cFl_len]; omega)
    injection e2 with e2 _ _
    refine .inr ⟨g, e2, hg, fun i hi => ?_⟩
    have h9 := cFl_get l i hi
    exact ⟨hc _ _ h9.1, hc _ _ h9.2⟩
theorem RdFl.toA {W : World} {v : Value} {l : List Fl} (h : RdFl W v l) : SFlA W v l := by
  obtain ⟨ad, cp, e, h1⟩ := h
  refine ⟨ad, cp, e, ?_⟩
  rcases h1 with h1 | ⟨g, e1, e2, e3⟩
  · exact .inl h1
  · refine .inr ⟨⟨g, 0, none⟩, e1, e2, fun i hi => ?_⟩
    have h9 := e3 i hi
    unfold FlA
    rw [add_at]
    exact h9
/-- A row that was made is one of one's own. -/
theorem ownFl_of {B : Nat} {W : World} {v : Value} {l : List Fl} (h : SFlR B W v l) (hl : l.length ≤ 1048576) : OwnFl B W v l := by
  obtain ⟨g, e, hg, cur, h1, h2, h3⟩ := h
  refine ⟨by rw [cFl_len], .inr ⟨g, l.length, cur, e, hg, h1, Nat.le_refl _, by unfold maxLen; omega, h2, ?_⟩⟩
  apply List.ext_getElem?
  intro j
  by_cases hj : j < l.length * 2
  · obtain ⟨i, hi, ej⟩ : ∃ i, i < l.length ∧ (j = i * 2 ∨ j = i * 2 + 1) := ⟨j / 2, by omega, by omega⟩
    have h9 := cFl_get l i hi
    have h8 := h3 i hi
    rw [List.getElem?_take_of_lt hj, Array.getElem?_toList]
    rcases ej with rfl | rfl
    · rw [h9.1, h8.1]
    · rw [h9.2, h8.2]
  · rw [List.getElem?_eq_none (by rw [List.length_take]; omega), List.getElem?_eq_none (by rw [cFl_len]; omega)]
def cSn : List Sn → List Value
  | [] => []
  | x :: l => (.int .i64 x.kind) :: (.string x.name) :: (.int .i64 x.reply.code) :: (.string x.reply.text) :: cSn l
theorem cSn_len : ∀ l : List Sn, (cSn l).length = l.length * 4
  | [] => rfl
  | x :: l => by simp only [cSn, List.length_cons, cSn_len l]; omega
theorem cSn_app : ∀ a b : List Sn, cSn (a ++ b) = cSn a ++ cSn b
  | [], b => rfl
  | x :: a, b => by simp only [cSn, List.cons_append, cSn_app a b]
theorem cSn_get : ∀ (l : List Sn) (i : Nat), i < l.length → (cSn l)[i * 4]? = some (.int .i64 (l.getD i sn0).kind) ∧ (cSn l)[i * 4 + 1]? = some (.string (l.getD i sn0).name) ∧ (cSn l)[i * 4 + 2]? = some (.int .i64 (l.getD i sn0).reply.code) ∧ (cSn l)[i * 4 + 3]? = some (.string (l.getD i sn0).reply.text)
  | [], _, h => absurd h (Nat.not_lt_zero _)
  | x :: l, 0, _ => ⟨rfl, rfl, rfl, rfl⟩
  | x :: l, i + 1, h => by
    have := cSn_get l i (by simp at h; omega)
    have e : (i + 1) * 4 = i * 4 + 1 + 1 + 1 + 1 := by omega
    rw [e]
    simpa [cSn] using this
def OwnSn (B : Nat) (W : World) (v : Value) (l : List Sn) : Prop := W.ownsRow B 88 4 v l.length (cSn l)
theorem ownSn_nil (B : Nat) (W : World) : OwnSn B W (.slice none 0 0) [] := ⟨rfl, .inl ⟨rfl, rfl⟩⟩
/-- A row that can be read. -/
def RdSn (W : World) (v : Value) (l : List Sn) : Prop := ∃ (ad : Option Addr) (cp : Nat), v = .slice ad l.length cp ∧ (l = [] ∨ ∃ g, ad = some ⟨g, 0, none⟩ ∧ g < W.heap.size ∧ ∀ i, i < l.length → W.cell? ⟨g, i * 4, none⟩ = some (.int .i64 (l.getD i sn0).kind) ∧ W.cell? ⟨g, i * 4 + 1, none⟩ = some (.string (l.getD i sn0).name) ∧ W.cell? ⟨g, i * 4 + 2, none⟩ = some (.int .i64 (l.getD i sn0).reply.code) ∧ W.cell? ⟨g, i * 4 + 3, none⟩ = some (.string (l.getD i sn0).reply.text))
theorem RdSn.next {W V : World} {v : Value} {l : List Sn} (h : RdSn W v l) (hb : Below W.heap.size W V) : RdSn V v l := by
  obtain ⟨ad, cp, e, h1⟩ := h
  refine ⟨ad, cp, e, ?_⟩
  rcases h1 with h1 | ⟨g, e1, e2, e3⟩
  · exact .inl h1
  · refine .inr ⟨g, e1, Nat.lt_of_lt_of_le e2 hb.size, fun i hi => ?_⟩
    have h9 := e3 i hi
    exact ⟨(hb.cell (p := ⟨g, _, none⟩) e2).trans h9.1, (hb.cell (p := ⟨g, _, none⟩) e2).trans h9.2.1, (hb.cell (p := ⟨g, _, none⟩) e2).trans h9.2.2.1, (hb.cell (p := ⟨g, _, none⟩) e2).trans h9.2.2.2⟩
theorem RdSn.sl {W : World} {v : Value} {l : List Sn} (h : RdSn W v l) : ∃ ad cp, v = .slice ad l.length cp := by
  obtain ⟨ad, cp, e, _⟩ := h
  exact ⟨ad, cp, e⟩
theorem RdSn.at {W : World} {ad : Option Addr} {n cp : Nat} {l : List Sn} (h : RdSn W (.slice ad n cp) l) {i : Nat} (hi : i < l.length) : ∃ g, ad = some ⟨g, 0, none⟩ ∧ g < W.heap.size ∧ W.cell? ⟨g, i * 4, none⟩ = some (.int .i64 (l.getD i sn0).kind) ∧ W.cell? ⟨g, i * 4 + 1, none⟩ = some (.string (l.getD i sn0).name) ∧ W.cell? ⟨g, i * 4 + 2, none⟩ = some (.int .i64 (l.getD i sn0).reply.code) ∧ W.cell? ⟨g, i * 4 + 3, none⟩ = some (.string (l.getD i sn0).reply.text) := by
  obtain ⟨ad', c', e, h1⟩ := h
  injection e with ea _ _
  rcases h1 with h1 | ⟨g, e1, e2, e3⟩
  · rw [h1] at hi; exact absurd hi (Nat.not_lt_zero _)
  · exact ⟨g, ea.trans e1, e2, e3 i hi⟩
theorem RdSn.ofR {B : Nat} {W : World} {v : Value} {l : List Sn} (h : SSnR B W v l) : RdSn W v l := by
  obtain ⟨g, e, hg, cur, h1, h2, h3⟩ := h
  refine ⟨_, _, e, .inr ⟨g, rfl, lt_hp h1, fun i hi => ?_⟩⟩
  have h9 := h3 i hi
  exact ⟨(row_cell h1 _).trans h9.1, (row_cell h1 _).trans h9.2.1, (row_cell h1 _).trans h9.2.2.1, (row_cell h1 _).trans h9.2.2.2⟩
theorem RdSn.own {B : Nat} {W : World} {v : Value} {l : List Sn} (h : OwnSn B W v l) : RdSn W v l := by
  obtain ⟨ad, cp, rfl⟩ := own_formK h
  refine ⟨ad, cp, rfl, ?_⟩
  by_cases e : l = []
  · exact .inl e
  · have hp : 0 < l.length := Nat.pos_of_ne_zero fun h => e (List.eq_nil_of_length_eq_zero h)
    obtain ⟨g, ⟨c2, e2⟩, hg, _, hc⟩ := own_cellK h (i := 0) (by rw [cSn_len]; omega)
    injection e2 with e2 _ _
    refine .inr ⟨g, e2, hg, fun i hi => ?_⟩
    have h9 := cSn_get l i hi
    exact ⟨hc _ _ h9.1, hc _ _ h9.2.1, hc _ _ h9.2.2.1, hc _ _ h9.2.2.2⟩
theorem RdSn.toA {W : World} {v : Value} {l : List Sn} (h : RdSn W v l) : SSnA W v l := by
  obtain ⟨ad, cp, e, h1⟩ := h
  refine ⟨ad, cp, e, ?_⟩
  rcases h1 with h1 | ⟨g, e1, e2, e3⟩
  · exact .inl h1
  · refine .inr ⟨⟨g, 0, none⟩, e1, e2, fun i hi => ?_⟩
    have h9 := e3 i hi
    unfold SnA
    rw [add_at]
    exact h9
/-- A row that was made is one of one's own. -/
theorem ownSn_of {B : Nat} {W : World} {v : Value} {l : List Sn} (h : SSnR B W v l) (hl : l.length ≤ 1048576) : OwnSn B W v l := by
  obtain ⟨g, e, hg, cur, h1, h2, h3⟩ := h
  refine ⟨by rw [cSn_len], .inr ⟨g, l.length, cur, e, hg, h1, Nat.le_refl _, by unfold maxLen; omega, h2, ?_⟩⟩
  apply List.ext_getElem?
  intro j
  by_cases hj : j < l.length * 4
  · obtain ⟨i, hi, ej⟩ : ∃ i, i < l.length ∧ (j = i * 4 ∨ j = i * 4 + 1 ∨ j = i * 4 + 2 ∨ j = i * 4 + 3) := ⟨j / 4, by omega, by omega⟩
    have h9 := cSn_get l i hi
    have h8 := h3 i hi
    rw [List.getElem?_take_of_lt hj, Array.getElem?_toList]
    rcases ej with rfl | rfl | rfl | rfl
    · rw [h9.1, h8.1]
    · rw [h9.2.1, h8.2.1]
    · rw [h9.2.2.1, h8.2.2.1]
    · rw [h9.2.2.2, h8.2.2.2]
  · rw [List.getElem?_eq_none (by rw [List.length_take]; omega), List.getElem?_eq_none (by rw [cSn_len]; omega)]
end Go.Proofs.YtlopcjhipajdcaaGreatDoor.Y
