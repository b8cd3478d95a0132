import Derived.Test.YtpcfhbbialgcfaaPlIns
import Derived.Maps.OwnSet
import Derived.Maps.StringElems
/-! The box of a place: names in order, and files by their names. -/
namespace Go.Proofs.Ytpcfhbbialgcfaa.P
open Go.RowKit Go.Maps Go.WideMaps
open Go.Proofs.Ytpcfhbbialgcfaa.R (hid set_other Fl fl0 lt_hp hp_next)
set_option maxRecDepth 20000
def keyT (t : ByteArray) : Lit := Lit.string t.data.toList
def fileD (x : Fl) : DataW Unit := .agg [.lit (.string x.name.data.toList), .lit (.string x.text.data.toList)]
def fileV (x : Fl) : Value := .agg #[.string x.name, .string x.text]
/-- How a file in a map reads. -/
def fileR (v : Value) : Option (DataW Unit × List MemPlace) :=
  match v with
  | .agg ⟨[.string a, .string b]⟩ => some (fileD ⟨a, b⟩, [])
  | _ => none
theorem fileR_of (x : Fl) : fileR (fileV x) = some (fileD x, []) := rfl
theorem fileR_inv {v : Value} {d : DataW Unit} {ps : List MemPlace} (h : fileR v = some (d, ps)) : ∃ x, v = fileV x ∧ d = fileD x := by
  unfold fileR at h
  split at h
  · injection h with h
    injection h with h1 _
    exact ⟨⟨_, _⟩, rfl, h1.symm⟩
  · cases h
theorem fileD_inj {x y : Fl} (h : fileD x = fileD y) : x = y := by
  obtain ⟨a, b⟩ := x
  obtain ⟨c, d⟩ := y
  simp only [fileD, DataW.agg.injEq, List.cons.injEq, DataW.lit.injEq, Lit.string.injEq, and_true] at h
  have h1 : a = c := ByteArray.ext (Array.toList_inj.1 h.1)
  have h2 : b = d := ByteArray.ext (Array.toList_inj.1 h.2)
  rw [h1, h2]
/-- A map from names to files. -/
def MapF (W : World) (m n : Nat) (f : ByteArray → Option Fl) : Prop := ∃ D : DataW Unit, W.ownsMap Try.prog 9 fileR m n D ∧
  ∀ t, (f t = none → Maps.has D (keyT t) = false) ∧ ∀ x, f t = some x → Maps.has D (keyT t) = true ∧ D.atKey (keyT t) (fileD fl0) = fileD x
theorem MapF.keep {W V : World} {m n : Nat} {f : ByteArray → Option Fl} (h : MapF W m n f) (hk : V.heap[m]? = W.heap[m]?) : MapF V m n f := by
  obtain ⟨D, ⟨es, clock, h1, h2⟩, h3⟩ := h
  exact ⟨D, ⟨es, clock, hk.trans h1, h2⟩, h3⟩
theorem MapF.lt {W : World} {m n : Nat} {f : ByteArray → Option Fl} (h : MapF W m n f) : m < W.heap.size := by
  obtain ⟨D, h, _⟩ := h
  exact h.lt
theorem MapF.obj {W : World} {m n : Nat} {f : ByteArray → Option Fl} (h : MapF W m n f) : ∃ es c, W.heap[m]? = some (.map es c) := by
  obtain ⟨D, ⟨es, clock, h1, _⟩, _⟩ := h
  exact ⟨es, clock, h1⟩
theorem MapF.made (w : World) : MapF (w.alloc (.map #[] 0)) w.heap.size 0 (fun _ => none) :=
  ⟨.map [], World.ownsMap_made _ _ _ _, fun t => ⟨fun _ => by simp [Maps.has_eq], fun v h => by cases h⟩⟩
theorem keyT_key (t : ByteArray) : WideAt.IsKeyLit (keyT t) := by simp [keyT, WideAt.IsKeyLit]
theorem keyT_ne {t u : ByteArray} (h : ¬ u = t) : keyT u ≠ keyT t := fun e => h (by
  unfold keyT at e
  injection e with e
  exact ByteArray.ext (Array.toList_inj.1 e))
def setF (f : ByteArray → Option Fl) (x : Fl) : ByteArray → Option Fl := fun u => if u = x.name then some x else f u
theorem MapF.put {W : World} {m n : Nat} {f : ByteArray → Option Fl} (h : MapF W m n f) (hn : n < maxLen) (x : Fl) (ht : x.name.size ≤ maxLen) :
    ∃ w', (Instr.mapUpdate 48 (.map (some m)) (.string x.name) (fileV x)).run Try.prog W = .ok () w' ∧ MapF w' m (n + 1) (setF f x) ∧ W.grownBy w' (some m) := by
  obtain ⟨D, hown, hf⟩ := h
  obtain ⟨w', hrun, hown', hg⟩ := hown.update (string_keyed Try.underlying9) Try.underlying48 hn (keyOf_string_mk Try.underlying9 ht) (fileR_of x)
  refine ⟨w', hrun, ⟨_, hown', fun u => ?_⟩, hg⟩
  have hm := (hown.tidy (string_keyed Try.underlying9)).isMap
  unfold setF
  by_cases e : u = x.name
  · subst e
    rw [if_pos rfl]
    refine ⟨fun h => (by cases h), fun v' h => ?_⟩
    cases h
    exact ⟨Maps.has_put_same hm (keyT_key x.name) _, Maps.atKey_put_same hm (keyT_key x.name) _ _⟩
  · rw [if_neg e]
    refine ⟨fun h => ?_, fun v' h => ⟨?_, ?_⟩⟩
    · exact (Maps.has_put_other (keyT_ne e) _).trans ((hf u).1 h)
    · exact (Maps.has_put_other (keyT_ne e) _).trans ((hf u).2 v' h).1
    · exact (Maps.atKey_put_other (keyT_ne e) _ _).trans ((hf u).2 v' h).2
theorem zero_file (W : World) : (zeroValue 45).run Try.prog W = .ok (fileV fl0) W := by kernel_rfl
theorem MapF.get {W : World} {m n : Nat} {f : ByteArray → Option Fl} (h : MapF W m n f) (t : ByteArray) (ht : t.size ≤ maxLen) :
    (Instr.lookup 48 (.map (some m)) (.string t) true).run Try.prog W = .ok (.tuple #[fileV ((f t).getD fl0), .bool (f t).isSome]) W := by
  obtain ⟨D, hown, hf⟩ := h
  obtain ⟨v, ps, hrun, hv⟩ := hown.look_ok (string_keyed Try.underlying9) Try.underlying48 (zero_file W) (fileR_of fl0) (keyOf_string_mk Try.underlying9 ht)
  obtain ⟨c, rfl, hc⟩ := fileR_inv hv
  rw [hrun]
  cases hft : f t with
  | none =>
    have h1 := (hf t).1 hft
    have h2 := Maps.atKey_of_not_has h1 (fileD fl0)
    have h4 : fileD c = fileD fl0 := hc.symm.trans h2
    have h3 : Maps.has D (Lit.string t.data.toList) = false := h1
    rw [h3, fileD_inj h4]
    rfl
  | some x =>
    obtain ⟨h1, h2⟩ := (hf t).2 x hft
    have h4 : fileD c = fileD x := hc.symm.trans h2
    have h3 : Maps.has D (Lit.string t.data.toList) = true := h1
    rw [h3, fileD_inj h4]
    rfl
theorem MapF.get1 {W : World} {m n : Nat} {f : ByteArray → Option Fl} (h : MapF W m n f) (t : ByteArray) (ht : t.size ≤ maxLen) :
    (Instr.lookup 48 (.map (some m)) (.string t) false).run Try.prog W = .ok (fileV ((f t).getD fl0)) W := by
  obtain ⟨D, hown, hf⟩ := h
  obtain ⟨v, ps, hrun, hv⟩ := hown.lookup (string_keyed Try.underlying9) Try.underlying48 (zero_file W) (fileR_of fl0) (keyOf_string_mk Try.underlying9 ht)
  obtain ⟨c, rfl, hc⟩ := fileR_inv hv
  rw [hrun]
  cases hft : f t with
  | none =>
    have h1 := (hf t).1 hft
    have h2 := Maps.atKey_of_not_has h1 (fileD fl0)
    have h4 : fileD c = fileD fl0 := hc.symm.trans h2
    rw [fileD_inj h4]
    rfl
  | some x =>
    obtain ⟨h1, h2⟩ := (hf t).2 x hft
    have h4 : fileD c = fileD x := hc.symm.trans h2
    rw [fileD_inj h4]
    rfl
theorem own_next {w w1 : World} {B e size k : Nat} {v : Value} {xs : List Value} (h : w.ownsRow B e size v k xs) (hb : Below w.heap.size w w1) : w1.ownsRow B e size v k xs := by
  obtain ⟨h1, h2 | ⟨g, cap, cur, a, b, c, d⟩⟩ := h
  · exact ⟨h1, .inl h2⟩
  · exact ⟨h1, .inr ⟨g, cap, cur, a, b, hp_next c hb, d⟩⟩
end Go.Proofs.Ytpcfhbbialgcfaa.P
