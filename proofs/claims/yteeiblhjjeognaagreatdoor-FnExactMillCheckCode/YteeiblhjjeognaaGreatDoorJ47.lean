import Derived.Test.YteeiblhjjeognaaGreatDoorCards
import Derived.Test.YteeiblhjjeognaaGreatDoorTie
import Derived.ProofKit
import Derived.Deep.Slices
import Derived.OpenShut
import Derived.Shelf.Vars
import Derived.Deep.DeepHandedRow
import Derived.OpenVars
import Derived.LaidHandle
import Derived.Stop.LaidErr
import Derived.Lib.LaidTab
import Derived.Test.YteeiblhjjeognaaGreatDoorJ46
/-! The tables that the card lists. -/
namespace Go.Proofs.YteeiblhjjeognaaGreatDoor.C
open Go.ChangeShapes Go.WideShapes Go.ChangeAt Go.RowKit Go.Deep
set_option maxRecDepth 20000
theorem lits_inj {H : Type} {k : IntKind} : ∀ {l l' : List Int}, (lits k l : List (DataW H)) = lits k l' → l = l'
  | [], [], _ => rfl
  | [], _ :: _, h => by simp [lits] at h
  | _ :: _, [], h => by simp [lits] at h
  | x :: l, y :: l', h => by
    simp only [lits, List.map_cons, List.cons.injEq, DataW.lit.injEq, Lit.int.injEq, true_and] at h
    rw [h.1, lits_inj (k := k) (H := H) h.2]
def rowD {H : Type} (z : Option (List Int)) : DataW H := match z with | none => .nil | some l => .slice (lits .i64 l) []
/-- A row of numbers that the card lists. -/
theorem row_of {H : Type} {enc : TypeId × Value → H} {P : Program} {w : World} {base : Nat} {held : Bool} {fuel : Nat} {t ei : TypeId} {cl : List Value} {z : Option (List Int)} {p : DataW H × List MemPlace}
    (hsl : P.underlying t = some (.slice ei)) (hei : P.underlying ei = some (.int .i64)) (hcei : P.cellsOf ei = 1) (h : DataW.trod enc P w base (fun _ => true) held fuel t cl = some p) (hz : p.1 = rowD z) : ∃ v, cl = [v] ∧ PartA w v (z.getD []) := by
  rcases open_ints hsl hei hcei h with ⟨e2, h2⟩ | ⟨a, len, cap, ns, e2, _, hlc, _, hlen, h2, hcell, _⟩
  · rw [h2] at hz
    cases z with
    | none => exact ⟨_, e2, none, 0, rfl, .inl rfl⟩
    | some l => cases hz
  · rw [h2] at hz
    cases z with
    | none => cases hz
    | some l =>
      simp only [rowD, DataW.slice.injEq] at hz
      have h3 := lits_inj hz.1
      have h4 : ns.drop len = [] := by
        have := hz.2
        simpa [lits] using this
      simp only [if_true] at hlen
      have h5 : ns.length ≤ len := by simpa using h4
      have h6 : ns.take len = ns := List.take_of_length_le h5
      rw [h6] at h3
      subst h3
      obtain rfl : cap = ns.length := by omega
      obtain rfl : len = ns.length := by omega
      refine ⟨_, e2, some a, ns.length, rfl, ?_⟩
      by_cases h0 : ns = []
      · exact .inl h0
      · have hp : 0 < ns.length := List.length_pos_iff.2 h0
        refine .inr ⟨a, rfl, ?_, hcell⟩
        have h7 := hcell 0 hp
        unfold World.cell? at h7
        rcases Nat.lt_or_ge (a.add 0).block w.heap.size with hl | hl
        · rwa [add_block] at hl
        · rw [Array.getElem?_eq_none hl] at h7; cases h7
theorem cellsI : Tryz.prog.cellsOf 3 = 1 := by kernel_rfl
theorem cellsS : Tryz.prog.cellsOf 41 = 1 := by kernel_rfl
theorem gSG : Tryz.prog.globalNamed "loop.example/kilnyard/impl.millBuiltSigns" = some 2 := by kernel_rfl
theorem gSGType : (Tryz.prog.globals[2]?).map (·.type) = some 188 := by kernel_rfl
theorem cellsSG : Tryz.prog.cellsOf 187 = 2 := by kernel_rfl
theorem gIR : Tryz.prog.globalNamed "loop.example/kilnyard/impl.millInsRows" = some 1 := by kernel_rfl
theorem gIRType : (Tryz.prog.globals[1]?).map (·.type) = some 166 := by kernel_rfl
theorem cellsIR : Tryz.prog.cellsOf 165 = 3 := by kernel_rfl
def sgD {H : Type} (z : Option (List Int) × Int) : DataW H := .agg [rowD z.1, .lit (.int .i64 z.2)]
def irD {H : Type} (z : Int × Option (List Int) × Int) : DataW H := .agg [.lit (.int .i64 z.1), rowD z.2.1, .lit (.int .i64 z.2.2)]
def signs : List (Option (List Int) × Int) := [(none, 0), (some [2], 2), (some [2], 1), (some [2], 2), (some [2, 2], 2), (none, 2), (some [2], 10), (some [2, 10], 3), (some [2, 10, 10], 2), (some [2, 2], 10), (some [3], 2), (some [-1], 2), (some [2], 10)]
def irows : List (Int × Option (List Int) × Int) := [(0, none, 0), (1, none, 1), (2, none, 2), (2, some [-2], 0), (0, some [-2], 0), (3, some [-2], 3), (4, some [-2, -2], 4), (5, some [-1], 1), (6, none, 5), (7, none, 6), (8, none, 0), (8, some [1], 0), (9, none, 0), (0, some [2], 0), (0, some [2, 2], 0), (0, some [2], 0), (0, none, 0)]
theorem var_cells {W : World} {n : String} {g : Nat} {cs : Array Value} (hg : Tryz.prog.globalNamed n = some g) (h : W.var? Tryz.prog n = some cs) : g < W.heap.size ∧ ∀ i, W.cell? ⟨g, i, none⟩ = cs[i]? := by
  unfold World.var? at h
  rw [hg] at h
  simp only [Option.bind_some] at h
  split at h
  · rename_i cs' t fr hh
    cases h
    refine ⟨(Array.getElem?_eq_some_iff.1 hh).1, fun i => ?_⟩
    unfold World.cell?
    rw [hh]; rfl
  · cases h
theorem sign_of {W : World} {r : List (String × DataW Unit)} (h : laidMet Tryz.prog (("loop.example/kilnyard/impl.millBuiltSigns", Rows.laid_loop_example_kilnyard_impl_millBuiltSigns) :: r) W) :
    2 < W.heap.size ∧ ∀ (i : Nat) (z : Option (List Int) × Int), signs[i]? = some z → ∃ v, W.cell? ⟨2, i * 2, none⟩ = some v ∧ W.cell? ⟨2, i * 2 + 1, none⟩ = some (.int .i64 z.2) ∧ PartA W v (z.1.getD []) := by
  obtain ⟨ps, ⟨g', t', cs, fuel, p, q, hg', ht', hvar, hd, _, _⟩, _⟩ := h
  obtain rfl := Option.some.inj (gSG.symm.trans hg')
  obtain rfl := Option.some.inj (gSGType.symm.trans ht')
  obtain ⟨hlt, hcell⟩ := var_cells gSG hvar
  refine ⟨hlt, fun i z hz => ?_⟩
  obtain ⟨xs, m, _, hx, _, hl, hel⟩ := DataW.trod_array Tryz.underlying188 hd
  have hxs : xs.map (·.1) = signs.map sgD := by
    have h9 := congrArg Prod.fst hx
    have h8 : Rows.laid_loop_example_kilnyard_impl_millBuiltSigns (H := Unit) = .agg (signs.map sgD) := rfl
    rw [h8] at h9
    simpa using h9.symm
  have hi : i < 13 := (List.getElem?_eq_some_iff.1 hz).1
  have e1 := hel i hi
  rw [cellsSG] at e1
  obtain ⟨b, hb⟩ : ∃ b, xs[i]? = some b := ⟨xs[i]'(by omega), List.getElem?_eq_getElem (by omega)⟩
  rw [hb] at e1
  have hb1 : b.1 = sgD z := by
    have := congrArg (·[i]?) hxs
    simpa [hb, hz] using this
  obtain ⟨ys, m2, _, hbx, _, hyl, hyf⟩ := DataW.trod_struct Tryz.underlying187 e1
  match ys, hyl with
  | [y0, y1], _ =>
    have g0 := hyf 0 _ rfl
    have g1 := hyf 1 _ rfl
    simp only [List.getElem?_cons_zero] at g0
    simp only [List.getElem?_cons_succ, List.getElem?_cons_zero] at g1
    obtain ⟨v, hv, hyv, _⟩ := DataW.trod_int Tryz.underlying3 g1
    rw [hbx] at hb1
    simp only [sgD, List.map_cons, List.map_nil, DataW.agg.injEq, List.cons.injEq, and_true] at hb1
    obtain ⟨v0, hv0, hp⟩ := row_of Tryz.underlying41 Tryz.underlying3 cellsI g0 hb1.1
    have hv2 : v = z.2 := by
      have := hb1.2
      rw [hyv] at this
      simpa using this
    subst hv2
    refine ⟨v0, ?_, ?_, hp⟩
    · rw [hcell]
      have := congrArg (·[0]?) hv0
      simpa [List.getElem?_take, List.getElem?_drop, cellsI, cellsS] using this
    · rw [hcell]
      have := congrArg (·[0]?) hv
      simpa [List.getElem?_take, List.getElem?_drop, cellsI, cellsS] using this
theorem irow_of {W : World} {r : List (String × DataW Unit)} (h : laidMet Tryz.prog (("loop.example/kilnyard/impl.millInsRows", Rows.laid_loop_example_kilnyard_impl_millInsRows) :: r) W) :
    1 < W.heap.size ∧ ∀ (i : Nat) (z : Int × Option (List Int) × Int), irows[i]? = some z → ∃ v, W.cell? ⟨1, i * 3, none⟩ = some (.int .i64 z.1) ∧ W.cell? ⟨1, i * 3 + 1, none⟩ = some v ∧ W.cell? ⟨1, i * 3 + 2, none⟩ = some (.int .i64 z.2.2) ∧ PartA W v (z.2.1.getD []) := by
  obtain ⟨ps, ⟨g', t', cs, fuel, p, q, hg', ht', hvar, hd, _, _⟩, _⟩ := h
  obtain rfl := Option.some.inj (gIR.symm.trans hg')
  obtain rfl := Option.some.inj (gIRType.symm.trans ht')
  obtain ⟨hlt, hcell⟩ := var_cells gIR hvar
  refine ⟨hlt, fun i z hz => ?_⟩
  obtain ⟨xs, m, _, hx, _, hl, hel⟩ := DataW.trod_array Tryz.underlying166 hd
  have hxs : xs.map (·.1) = irows.map irD := by
    have h9 := congrArg Prod.fst hx
    have h8 : Rows.laid_loop_example_kilnyard_impl_millInsRows (H := Unit) = .agg (irows.map irD) := rfl
    rw [h8] at h9
    simpa using h9.symm
  have hi : i < 17 := (List.getElem?_eq_some_iff.1 hz).1
  have e1 := hel i hi
  rw [cellsIR] at e1
  obtain ⟨b, hb⟩ : ∃ b, xs[i]? = some b := ⟨xs[i]'(by omega), List.getElem?_eq_getElem (by omega)⟩
  rw [hb] at e1
  have hb1 : b.1 = irD z := by
    have := congrArg (·[i]?) hxs
    simpa [hb, hz] using this
  obtain ⟨ys, m2, _, hbx, _, hyl, hyf⟩ := DataW.trod_struct Tryz.underlying165 e1
  match ys, hyl with
  | [y0, y1, y2], _ =>
    have g0 := hyf 0 _ rfl
    have g1 := hyf 1 _ rfl
    have g2 := hyf 2 _ rfl
    simp only [List.getElem?_cons_zero] at g0
    simp only [List.getElem?_cons_succ, List.getElem?_cons_zero] at g1
    simp only [List.getElem?_cons_succ, List.getElem?_cons_zero] at g2
    obtain ⟨u, hu, hyu, _⟩ := DataW.trod_int Tryz.underlying3 g0
    obtain ⟨v, hv, hyv, _⟩ := DataW.trod_int Tryz.underlying3 g2
    rw [hbx] at hb1
    simp only [irD, List.map_cons, List.map_nil, DataW.agg.injEq, List.cons.injEq, and_true] at hb1
    obtain ⟨v0, hv0, hp⟩ := row_of Tryz.underlying41 Tryz.underlying3 cellsI g1 hb1.2.1
    have hu2 : u = z.1 := by
      have := hb1.1
      rw [hyu] at this
      simpa using this
    have hv2 : v = z.2.2 := by
      have := hb1.2.2
      rw [hyv] at this
      simpa using this
    subst hu2 hv2
    refine ⟨v0, ?_, ?_, ?_, hp⟩
    · rw [hcell]
      have := congrArg (·[0]?) hu
      simpa [List.getElem?_take, List.getElem?_drop, cellsI, cellsS] using this
    · rw [hcell]
      have := congrArg (·[0]?) hv0
      simpa [List.getElem?_take, List.getElem?_drop, cellsI, cellsS] using this
    · rw [hcell]
      have := congrArg (·[0]?) hv
      simpa [List.getElem?_take, List.getElem?_drop, cellsI, cellsS] using this
theorem envI_of {W : World} {r r' : List (String × DataW Unit)} (h : laidMet Tryz.prog (("loop.example/kilnyard/impl.millBuiltSigns", Rows.laid_loop_example_kilnyard_impl_millBuiltSigns) :: r) W) (h' : laidMet Tryz.prog (("loop.example/kilnyard/impl.millInsRows", Rows.laid_loop_example_kilnyard_impl_millInsRows) :: r') W) : EnvI W := by
  obtain ⟨l2, s2⟩ := sign_of h
  obtain ⟨l1, s1⟩ := irow_of h'
  refine ⟨l1, l2, fun o h1 h2 => ?_, fun k h1 h2 => ?_⟩
  · obtain rfl | rfl | rfl | rfl | rfl | rfl | rfl | rfl | rfl | rfl | rfl | rfl | rfl | rfl | rfl | rfl : o = 1 ∨ o = 2 ∨ o = 3 ∨ o = 4 ∨ o = 5 ∨ o = 6 ∨ o = 7 ∨ o = 8 ∨ o = 9 ∨ o = 10 ∨ o = 11 ∨ o = 12 ∨ o = 13 ∨ o = 14 ∨ o = 15 ∨ o = 16 := by omega
    · exact s1 1 _ rfl
    · exact s1 2 _ rfl
    · exact s1 3 _ rfl
    · exact s1 4 _ rfl
    · exact s1 5 _ rfl
    · exact s1 6 _ rfl
    · exact s1 7 _ rfl
    · exact s1 8 _ rfl
    · exact s1 9 _ rfl
    · exact s1 10 _ rfl
    · exact s1 11 _ rfl
    · exact s1 12 _ rfl
    · exact s1 13 _ rfl
    · exact s1 14 _ rfl
    · exact s1 15 _ rfl
    · exact s1 16 _ rfl
  · obtain rfl | rfl | rfl | rfl | rfl | rfl | rfl | rfl | rfl | rfl | rfl | rfl : k = 1 ∨ k = 2 ∨ k = 3 ∨ k = 4 ∨ k = 5 ∨ k = 6 ∨ k = 7 ∨ k = 8 ∨ k = 9 ∨ k = 10 ∨ k = 11 ∨ k = 12 := by omega
    · exact s2 1 _ rfl
    · exact s2 2 _ rfl
    · exact s2 3 _ rfl
    · exact s2 4 _ rfl
    · exact s2 5 _ rfl
    · exact s2 6 _ rfl
    · exact s2 7 _ rfl
    · exact s2 8 _ rfl
    · exact s2 9 _ rfl
    · exact s2 10 _ rfl
    · exact s2 11 _ rfl
    · exact s2 12 _ rfl
end Go.Proofs.YteeiblhjjeognaaGreatDoor.C
