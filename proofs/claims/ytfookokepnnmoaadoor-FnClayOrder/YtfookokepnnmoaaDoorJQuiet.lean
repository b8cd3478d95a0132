import Derived.Deep.QuietTactic
import Derived.Maps.AppendAt
import Derived.Deep.RegionLaw
import Derived.Deep.RegionHeld3
import Derived.Test.YtfookokepnnmoaaDoorJTBase
/-! A region that draws its order, whose operations only read and whose callees read and make memory of their own: walked once, in the order of the text. -/
namespace Go.Proofs.YtfookokepnnmoaaDoor
open Go.RowKit
/-- A world behind w in which all that lay in w is as it was. -/
structure Gr (w : World) where
  W : World
  h : Below w.heap.size w W
theorem wp_region_gr {P : Program} {id : Nat} {Q : Exit → Act → World → Prop} {a : Act} {w : World} {l : List Oper} (hm : P.follows .mixedOrders = true) (hB : Region.lexB .any l.toArray = true)
    (h : wpQuiet P l.toArray (fun w' => ∃ p : Gr w, w' = p.W) (fun a' => ∀ w', (∃ p : Gr w, w' = p.W) → Q .normal a' w') l a) : (Code.region id l.toArray true).wp P Q a w :=
  wp_region_quiet (C := fun w' => ∃ p : Gr w, w' = p.W) hm hB ⟨⟨w.drew, (Below.refl _ _).drew⟩, rfl⟩ (by simpa using h)
theorem Calls.gr_of {P : Program} {f : FuncId} {args : Array Value} {w : World} {p : Gr w} {v : Value} (h : Below w.heap.size w p.W → Calls P f args p.W fun e w' => e = .returned v ∧ Below p.W.heap.size p.W w') :
    Calls P f args p.W fun e w'' => e = .returned v ∧ ∃ p : Gr w, w'' = p.W :=
  (h p.h).mono fun _ w' ⟨he, hb⟩ => ⟨he, ⟨w', p.h.trans (hb.mono p.h.size)⟩, rfl⟩
end Go.Proofs.YtfookokepnnmoaaDoor
namespace Go.Proofs.YtfookokepnnmoaaDoor
open Go.RowKit
set_option maxRecDepth 20000
/-- Cells that lie at an address, if there are any, in a block of S. -/
def RowIn (S : Nat → Prop) (W : World) (ad : Option Addr) (cs : List Value) : Prop := cs = [] ∨ ∃ g o, ad = some ⟨g, o, none⟩ ∧ S g ∧ g < W.heap.size ∧ ∀ i c, cs[i]? = some c → W.cell? ⟨g, o + i, none⟩ = some c
theorem RowIn.keep {S S' : Nat → Prop} {W W' : World} {ad : Option Addr} {cs : List Value} (h : RowIn S W ad cs) (hk : ∀ g, S g → g < W.heap.size → W'.heap[g]? = W.heap[g]?) (hz : W.heap.size ≤ W'.heap.size) (hS : ∀ g, S g → g < W.heap.size → S' g) : RowIn S' W' ad cs := by
  rcases h with h | ⟨g, o, rfl, h1, h2, h3⟩
  · exact .inl h
  · refine .inr ⟨g, o, rfl, hS g h1 h2, Nat.lt_of_lt_of_le h2 hz, fun i c hc => ?_⟩
    rw [← h3 i c hc]
    unfold World.cell?
    rw [hk g h1 h2]
/-- What a field's cells are. -/
def strip : Value → Value
  | .iface _ v => v
  | v => v
def fcells : List Value → List Value
  | a :: b :: r => strip a :: b :: fcells r
  | _ => []
mutual
/-- A thing of the program stands for a value. -/
def IsTh (S : Nat → Prop) (W : World) : Tr → Value → Prop
  | .node k n t ks, v =>
    (k = 1 ∧ v = .iface 99 (.agg #[])) ∨ (k = 2 ∧ v = .iface 100 (.bool (n == 1))) ∨ (k = 3 ∧ v = .iface 101 (.int .i64 n)) ∨ (k = 4 ∧ v = .iface 65 (.string t)) ∨
    (k = 5 ∧ ∃ ad cap xs, v = .iface 70 (.agg #[.int .i64 (((flats ks).length + 1 : Nat) : Int), .int .i64 (highs ks), .slice ad ks.length cap]) ∧ RowIn S W ad xs ∧ IsThs S W ks xs) ∨
    (k = 6 ∧ ∃ ad m cap xs, v = .iface 74 (.agg #[.int .i64 (((flats ks).length + 1 : Nat) : Int), .int .i64 (highs ks), .slice ad m cap]) ∧ ks.length = 2 * m ∧ RowIn S W ad (fcells xs) ∧ IsThs S W ks xs)
def IsThs (S : Nat → Prop) (W : World) : List Tr → List Value → Prop
  | [], xs => xs = []
  | t :: ts, xs => ∃ v vs, xs = v :: vs ∧ IsTh S W t v ∧ IsThs S W ts vs
end
theorem isThs_length {S : Nat → Prop} {W : World} {ts : List Tr} {xs : List Value} (h : IsThs S W ts xs) : xs.length = ts.length := by
  induction ts generalizing xs with
  | nil => simp [IsThs] at h; simp [h]
  | cons t ts ih => obtain ⟨v, vs, rfl, _, h2⟩ := h; simp [ih h2]
theorem isThs_get {S : Nat → Prop} {W : World} {ts : List Tr} {xs : List Value} (h : IsThs S W ts xs) (i : Nat) (hi : i < ts.length) : ∃ v, xs[i]? = some v ∧ IsTh S W ts[i] v := by
  induction ts generalizing xs i with
  | nil => simp at hi
  | cons t ts ih =>
    obtain ⟨v, vs, rfl, h1, h2⟩ := h
    cases i with
    | zero => exact ⟨v, rfl, h1⟩
    | succ i => exact ih h2 i (by simpa using hi)
theorem isThs_append {S : Nat → Prop} {W : World} {la bs : List Tr} {xs ys : List Value} (h1 : IsThs S W la xs) (h2 : IsThs S W bs ys) : IsThs S W (la ++ bs) (xs ++ ys) := by
  induction la generalizing xs with
  | nil => simp [IsThs] at h1; subst h1; simpa using h2
  | cons t la ih =>
    obtain ⟨v, vs, rfl, h3, h4⟩ := h1
    exact ⟨v, vs ++ ys, rfl, h3, ih h4⟩
theorem isThs_split {S : Nat → Prop} {W : World} {la bs : List Tr} {xs : List Value} (h : IsThs S W (la ++ bs) xs) : ∃ ys zs, xs = ys ++ zs ∧ IsThs S W la ys ∧ IsThs S W bs zs := by
  induction la generalizing xs with
  | nil => exact ⟨[], xs, rfl, rfl, h⟩
  | cons t la ih =>
    obtain ⟨v, vs, rfl, h3, h4⟩ := h
    obtain ⟨ys, zs, rfl, h5, h6⟩ := ih h4
    exact ⟨v :: ys, zs, rfl, ⟨v, ys, rfl, h3, h5⟩, h6⟩
theorem isThs_keep_of {S S' : Nat → Prop} {W W' : World} (ts : List Tr) (h : ∀ t ∈ ts, ∀ v, IsTh S W t v → IsTh S' W' t v) (xs : List Value) (hx : IsThs S W ts xs) : IsThs S' W' ts xs := by
  induction ts generalizing xs with
  | nil => simpa [IsThs] using hx
  | cons t ts ih =>
    obtain ⟨v, vs, rfl, h3, h4⟩ := hx
    exact ⟨v, vs, rfl, h t (by simp) v h3, ih (fun t' ht => h t' (by simp [ht])) vs h4⟩
theorem isTh_keep {S S' : Nat → Prop} {W W' : World} (hk : ∀ g, S g → g < W.heap.size → W'.heap[g]? = W.heap[g]?) (hz : W.heap.size ≤ W'.heap.size) (hS : ∀ g, S g → g < W.heap.size → S' g) (t : Tr) : ∀ v, IsTh S W t v → IsTh S' W' t v := by
  refine Tr.ind (P := fun t => ∀ v, IsTh S W t v → IsTh S' W' t v) ?_ t
  intro k n tx ks ih v h
  simp only [IsTh] at h ⊢
  rcases h with h | h | h | h | ⟨h1, ad, cap, xs, h2, h3, h4⟩ | ⟨h1, ad, m, cap, xs, h2, h2b, h3, h4⟩
  · exact .inl h
  · exact .inr (.inl h)
  · exact .inr (.inr (.inl h))
  · exact .inr (.inr (.inr (.inl h)))
  · exact .inr (.inr (.inr (.inr (.inl ⟨h1, ad, cap, xs, h2, h3.keep hk hz hS, isThs_keep_of ks ih xs h4⟩))))
  · exact .inr (.inr (.inr (.inr (.inr ⟨h1, ad, m, cap, xs, h2, h2b, h3.keep hk hz hS, isThs_keep_of ks ih xs h4⟩))))
theorem isThs_keep {S S' : Nat → Prop} {W W' : World} (hk : ∀ g, S g → g < W.heap.size → W'.heap[g]? = W.heap[g]?) (hz : W.heap.size ≤ W'.heap.size) (hS : ∀ g, S g → g < W.heap.size → S' g) {ts : List Tr} {xs : List Value} (h : IsThs S W ts xs) : IsThs S' W' ts xs :=
  isThs_keep_of ts (fun t _ => isTh_keep hk hz hS t) xs h
theorem isTh_below {S : Nat → Prop} {W W' : World} {t : Tr} {v : Value} (h : IsTh S W t v) (hb : Below W.heap.size W W') : IsTh S W' t v := isTh_keep (fun g _ hg => hb.block g hg) hb.size (fun _ h _ => h) t v h
theorem isThs_below {S : Nat → Prop} {W W' : World} {ts : List Tr} {xs : List Value} (h : IsThs S W ts xs) (hb : Below W.heap.size W W') : IsThs S W' ts xs := isThs_keep (fun g _ hg => hb.block g hg) hb.size (fun _ h _ => h) h
/-- The size that a package-level variable holds. -/
def One (W : World) : Prop := W.cell? ⟨0, 0, none⟩ = some (.int .i64 1) ∧ W.cell? ⟨0, 1, none⟩ = some (.int .i64 0) ∧ 0 < W.heap.size
theorem One.below {B : Nat} {W W' : World} (h : One W) (hb : Below B W W') (hB : 0 < B) : One W' :=
  ⟨(hb.cell (p := ⟨0, 0, none⟩) hB).trans h.1, (hb.cell (p := ⟨0, 1, none⟩) hB).trans h.2.1, Nat.lt_of_lt_of_le h.2.2 hb.size⟩
def szV (t : Tr) : Value := .agg #[.int .i64 (flat t).length, .int .i64 (high t)]
set_option maxHeartbeats 400000 in
theorem noneSize_any (w : World) (h : One w) :
    Calls Tryd.prog 90 #[.agg #[]] w fun e w' => e = .returned (.agg #[.int .i64 1, .int .i64 0]) ∧ Below w.heap.size w w' := by
  have HB := hid (below_two' w (.cells #[] 99) (.cells #[.int .i64 0, .int .i64 0] 68))
  obtain ⟨c0, c1, _⟩ := h.below HB.out h.2.2
  clear h
  go_enter Tryd.func90, Tryd.ntmps90
  go_wp2
  refine bodyPost_ret (v := .agg #[.int .i64 1, .int .i64 0]) ?_ rfl ⟨rfl, below_two' _ _ _⟩
  simp [results, Tryd.results90, go_sem]
set_option maxHeartbeats 400000 in
theorem boolSize_any (b : Bool) (w : World) (h : One w) :
    Calls Tryd.prog 93 #[.bool b] w fun e w' => e = .returned (.agg #[.int .i64 1, .int .i64 0]) ∧ Below w.heap.size w w' := by
  have HB := hid ((Below.refl w.heap.size w).alloc (Nat.le_refl _) (.cells #[.int .i64 0, .int .i64 0] 68))
  obtain ⟨c0, c1, _⟩ := h.below HB.out h.2.2
  clear h
  go_enter Tryd.func93, Tryd.ntmps93
  go_wp2
  refine bodyPost_ret (v := .agg #[.int .i64 1, .int .i64 0]) ?_ rfl ⟨rfl, (Below.refl _ _).alloc (Nat.le_refl _) _⟩
  simp [results, Tryd.results93, go_sem]
set_option maxHeartbeats 400000 in
theorem intSize_any (n : Int) (w : World) (h : One w) :
    Calls Tryd.prog 96 #[.int .i64 n] w fun e w' => e = .returned (.agg #[.int .i64 1, .int .i64 0]) ∧ Below w.heap.size w w' := by
  have HB := hid ((Below.refl w.heap.size w).alloc (Nat.le_refl _) (.cells #[.int .i64 0, .int .i64 0] 68))
  obtain ⟨c0, c1, _⟩ := h.below HB.out h.2.2
  clear h
  go_enter Tryd.func96, Tryd.ntmps96
  go_wp2
  refine bodyPost_ret (v := .agg #[.int .i64 1, .int .i64 0]) ?_ rfl ⟨rfl, (Below.refl _ _).alloc (Nat.le_refl _) _⟩
  simp [results, Tryd.results96, go_sem]
set_option maxHeartbeats 400000 in
theorem textSize_any (s : ByteArray) (w : World) (h : One w) :
    Calls Tryd.prog 82 #[.string s] w fun e w' => e = .returned (.agg #[.int .i64 1, .int .i64 0]) ∧ Below w.heap.size w w' := by
  have HB := hid ((Below.refl w.heap.size w).alloc (Nat.le_refl _) (.cells #[.int .i64 0, .int .i64 0] 68))
  obtain ⟨c0, c1, _⟩ := h.below HB.out h.2.2
  clear h
  go_enter Tryd.func82, Tryd.ntmps82
  go_wp2
  refine bodyPost_ret (v := .agg #[.int .i64 1, .int .i64 0]) ?_ rfl ⟨rfl, (Below.refl _ _).alloc (Nat.le_refl _) _⟩
  simp [results, Tryd.results82, go_sem]
set_option maxHeartbeats 400000 in
theorem sizeSize_any (a b : Int) (w : World) :
    Calls Tryd.prog 83 #[.agg #[.int .i64 a, .int .i64 b]] w fun e w' => e = .returned (.agg #[.int .i64 a, .int .i64 b]) ∧ Below w.heap.size w w' := by
  go_enter Tryd.func83, Tryd.ntmps83
  go_wp2
  refine bodyPost_ret (v := .agg #[.int .i64 a, .int .i64 b]) ?_ rfl ⟨rfl, below_two' _ _ _⟩
  simp [results, Tryd.results83, go_sem]
set_option maxHeartbeats 400000 in
theorem with_any (a b c d : Nat) (w : World) (ha : a ≤ 2000000) (_hb : b ≤ 2000000) (hc : c ≤ 2000000) (hd : d ≤ 2000000) :
    Calls Tryd.prog 60 #[.agg #[.int .i64 a, .int .i64 b], .agg #[.int .i64 c, .int .i64 d]] w fun e w' => e = .returned (.agg #[.int .i64 ((a + c : Nat) : Int), .int .i64 ((max b (d + 1) : Nat) : Int)]) ∧ Below w.heap.size w w' := by
  have HBB : Hid (∀ X Y Z, Below w.heap.size w (((w.alloc X).alloc Y).alloc Z)) := fun X Y Z => (below_two' w X Y).alloc (by simp; omega) Z
  by_cases h : b < d + 1
  · rw [show max b (d + 1) = d + 1 by omega]
    have h2 : (b : Int) < (d : Int) + 1 := by omega
    go_enter Tryd.func60, Tryd.ntmps60
    go_wp2
    refine bodyPost_ret (v := .agg #[.int .i64 ((a : Int) + c), .int .i64 ((d : Int) + 1)]) ?_ rfl ⟨by simp, HBB.out _ _ _⟩
    simp [results, Tryd.results60, go_sem]
  · rw [show max b (d + 1) = b by omega]
    have h2 : (d : Int) + 1 ≤ (b : Int) := by omega
    go_enter Tryd.func60, Tryd.ntmps60
    go_wp2
    refine bodyPost_ret (v := .agg #[.int .i64 ((a : Int) + c), .int .i64 b]) ?_ rfl ⟨by simp, HBB.out _ _ _⟩
    simp [results, Tryd.results60, go_sem]
set_option maxHeartbeats 400000 in
theorem fits_any (a b : Nat) (w : World) :
    Calls Tryd.prog 61 #[.agg #[.int .i64 a, .int .i64 b]] w fun e w' => Says e (a ≤ 1000 ∧ b ≤ 12) ∧ Below w.heap.size w w' := by
  by_cases h1 : a ≤ 1000
  · have h2 : (a : Int) ≤ 1000 := by omega
    go_enter Tryd.func61, Tryd.ntmps61
    go_wp2
    go_ret
    refine ⟨⟨_, rfl, ?_⟩, (Below.refl _ _).alloc (Nat.le_refl _) _⟩
    simp
    omega
  · have h2 : (1000 : Int) < a := by omega
    go_enter Tryd.func61, Tryd.ntmps61
    go_wp2
    go_ret
    exact ⟨says_f (by simp), (Below.refl _ _).alloc (Nat.le_refl _) _⟩
end Go.Proofs.YtfookokepnnmoaaDoor
