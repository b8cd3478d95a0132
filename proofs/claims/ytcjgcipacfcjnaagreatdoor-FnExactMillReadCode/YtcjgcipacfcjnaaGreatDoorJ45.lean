import Derived.Test.YtcjgcipacfcjnaaGreatDoorCards
import Derived.Test.YtcjgcipacfcjnaaGreatDoorTie
import Derived.ProofKit
import Derived.Deep.Slices
import Derived.OpenShut
import Derived.Shelf.Vars
import Derived.Deep.DeepHandedRow
import Derived.OpenVars
import Derived.LaidHandle
import Derived.Stop.LaidErr
import Derived.Lib.LaidTab
import Derived.Test.YtcjgcipacfcjnaaGreatDoorJ35
import Derived.Test.YtcjgcipacfcjnaaGreatDoorJ40
import Derived.Test.YtcjgcipacfcjnaaGreatDoorJ20
import Derived.Test.YtcjgcipacfcjnaaGreatDoorJ44
namespace Go.Proofs.YtcjgcipacfcjnaaGreatDoor.C
open Go.ChangeShapes Go.WideShapes Go.ChangeAt Go.RowKit Go.Deep
set_option maxRecDepth 20000
theorem lits_inj {H : Type} {k : IntKind} : ∀ {l l' : List Int}, (lits k l : List (DataW H)) = lits k l' → l = l'
 | [], [], _ => rfl
 | [], _ :: _, h => by simp [lits] at h
 | _ :: _, [], h => by simp [lits] at h
 | x :: l, y :: l', h => by
  simp only [lits, List.map_cons, List.cons.injEq, DataW.lit.injEq, Lit.int.injEq, true_and] at h
  rw [h.1, lits_inj (k := k) (H := H) h.2]
def rowD {H : Type} (z : Option (List Int)) : DataW H := match z with | none => .nil | some l => .slice (lits .i64 l) []
theorem row_of {H : Type} {enc : TypeId × Value → H} {P : Program} {w : World} {base : Nat} {held : Bool} {fuel : Nat} {t ei : TypeId} {cl : List Value} {z : Option (List Int)} {p : DataW H × List MemPlace}
  (hsl : P.underlying t = some (.slice ei)) (hei : P.underlying ei = some (.int .i64)) (hcei : P.cellsOf ei = 1) (h : DataW.trod enc P w base (fun _ => true) held fuel t cl = some p) (hz : p.1 = rowD z) : ∃ v, cl = [v] ∧ PartA w v (z.getD []) := by
 rcases open_ints hsl hei hcei h with ⟨e2, h2⟩ | ⟨a, len, cap, ns, e2, _, hlc, _, hlen, h2, hcell, _⟩
 ·rw [h2] at hz
  cases z with
  | none => exact ⟨_, e2, none, 0, rfl, .inl rfl⟩
  | some l => cases hz
 ·rw [h2] at hz
  cases z with
  | none => cases hz
  | some l =>
   simp only [rowD, DataW.slice.injEq] at hz
   have h3 := lits_inj hz.1
   have h4 : ns.drop len = [] := by
    have := hz.2
    simpa [lits] using this
   simp only [if_true] at hlen
   have h5 : ns.length ≤ len := by simpa using h4
   have h6 : ns.take len = ns := List.take_of_length_le h5
   rw [h6] at h3
   subst h3
   obtain rfl : cap = ns.length := by omega
   obtain rfl : len = ns.length := by omega
   refine ⟨_, e2, some a, ns.length, rfl, ?_⟩
   by_cases h0 : ns = []
   ·exact .inl h0
   ·have hp : 0 < ns.length := List.length_pos_iff.2 h0
    refine .inr ⟨a, rfl, ?_, hcell⟩
    have h7 := hcell 0 hp
    unfold World.cell? at h7
    rcases Nat.lt_or_ge (a.add 0).block w.heap.size with hl | hl
    ·rwa [add_block] at hl
    ·rw [Array.getElem?_eq_none hl] at h7; cases h7
theorem cellsI : Tryz.prog.cellsOf 3 = 1 := by kernel_rfl
theorem cellsSg : Tryz.prog.cellsOf 54 = 1 := by kernel_rfl
theorem gSG : Tryz.prog.globalNamed "loop.example/kilnyard/impl.millBuiltSigns" = some 6 := by kernel_rfl
theorem gSGType : (Tryz.prog.globals[6]?).map (·.type) = some 229 := by kernel_rfl
theorem cellsSG : Tryz.prog.cellsOf 228 = 2 := by kernel_rfl
theorem gIR : Tryz.prog.globalNamed "loop.example/kilnyard/impl.millInsRows" = some 3 := by kernel_rfl
theorem gIRType : (Tryz.prog.globals[3]?).map (·.type) = some 138 := by kernel_rfl
theorem cellsIR : Tryz.prog.cellsOf 137 = 3 := by kernel_rfl
def sgD {H : Type} (z : Option (List Int) × Int) : DataW H := .agg [rowD z.1, .lit (.int .i64 z.2)]
def irD {H : Type} (z : Int × Option (List Int) × Int) : DataW H := .agg [.lit (.int .i64 z.1), rowD z.2.1, .lit (.int .i64 z.2.2)]
def signs : List (Option (List Int) × Int) := [(none, 0), (some [2], 2), (some [2], 1), (some [2], 2), (some [2, 2], 2), (none, 2), (some [2], 10), (some [2, 10], 3), (some [2, 10, 10], 2), (some [2, 2], 10), (some [3], 2), (some [-1], 2), (some [2], 10)]
def irows : List (Int × Option (List Int) × Int) := [(0, none, 0), (1, none, 1), (2, none, 2), (2, some [-2], 0), (0, some [-2], 0), (3, some [-2], 3), (4, some [-2, -2], 4), (5, some [-1], 1), (6, none, 5), (7, none, 6), (8, none, 0), (8, some [1], 0), (9, none, 0), (0, some [2], 0), (0, some [2, 2], 0), (0, some [2], 0), (0, none, 0)]
theorem var_cells {W : World} {n : String} {g : Nat} {cs : Array Value} (hg : Tryz.prog.globalNamed n = some g) (h : W.var? Tryz.prog n = some cs) : g < W.heap.size ∧ ∀ i, W.cell? ⟨g, i, none⟩ = cs[i]? := by
 unfold World.var? at h
 rw [hg] at h
 simp only [Option.bind_some] at h
 split at h
 ·rename_i cs' t fr hh
  cases h
  refine ⟨(Array.getElem?_eq_some_iff.1 hh).1, fun i => ?_⟩
  unfold World.cell?
  rw [hh]; rfl
 ·cases h
theorem sign_of {W : World} {r : List (String × DataW Unit)} (h : laidMet Tryz.prog (("loop.example/kilnyard/impl.millBuiltSigns", Rows.laid_loop_example_kilnyard_impl_millBuiltSigns) :: r) W) :
  6 < W.heap.size ∧ ∀ (i : Nat) (z : Option (List Int) × Int), signs[i]? = some z → ∃ v, W.cell? ⟨6, i * 2, none⟩ = some v ∧ W.cell? ⟨6, i * 2 + 1, none⟩ = some (.int .i64 z.2) ∧ PartA W v (z.1.getD []) := by
 obtain ⟨ps, ⟨g', t', cs, fuel, p, q, hg', ht', hvar, hd, _, _⟩, _⟩ := h
 obtain rfl := Option.some.inj (gSG.symm.trans hg')
 obtain rfl := Option.some.inj (gSGType.symm.trans ht')
 obtain ⟨hlt, hcell⟩ := var_cells gSG hvar
 refine ⟨hlt, fun i z hz => ?_⟩
 obtain ⟨xs, m, _, hx, _, hl, hel⟩ := DataW.trod_array Tryz.underlying229 hd
 have hxs : xs.map (·.1) = signs.map sgD := by
  have h9 := congrArg Prod.fst hx
  have h8 : Rows.laid_loop_example_kilnyard_impl_millBuiltSigns (H := Unit) = .agg (signs.map sgD) := rfl
  rw [h8] at h9
  simpa using h9.symm
 have hi : i < 13 := (List.getElem?_eq_some_iff.1 hz).1
 have e1 := hel i hi
 rw [cellsSG] at e1
 obtain ⟨b, hb⟩ : ∃ b, xs[i]? = some b := ⟨xs[i]'(by omega), List.getElem?_eq_getElem (by omega)⟩
 rw [hb] at e1
 have hb1 : b.1 = sgD z := by
  have := congrArg (·[i]?) hxs
  simpa [hb, hz] using this
 obtain ⟨ys, m2, _, hbx, _, hyl, hyf⟩ := DataW.trod_struct Tryz.underlying228 e1
 match ys, hyl with
 | [y0, y1], _ =>
  have g0 := hyf 0 _ rfl
  have g1 := hyf 1 _ rfl
  simp only [List.getElem?_cons_zero] at g0
  simp only [List.getElem?_cons_succ, List.getElem?_cons_zero] at g1
  obtain ⟨v, hv, hyv, _⟩ := DataW.trod_int Tryz.underlying3 g1
  rw [hbx] at hb1
  simp only [sgD, List.map_cons, List.map_nil, DataW.agg.injEq, List.cons.injEq, and_true] at hb1
  obtain ⟨v0, hv0, hp⟩ := row_of Tryz.underlying54 Tryz.underlying3 cellsI g0 hb1.1
  have hv2 : v = z.2 := by
   have := hb1.2
   rw [hyv] at this
   simpa using this
  subst hv2
  refine ⟨v0, ?_, ?_, hp⟩
  ·rw [hcell]
   have := congrArg (·[0]?) hv0
   simpa [List.getElem?_take, List.getElem?_drop, cellsI, cellsSg] using this
  ·rw [hcell]
   have := congrArg (·[0]?) hv
   simpa [List.getElem?_take, List.getElem?_drop, cellsI, cellsSg] using this
theorem irow_of {W : World} {r : List (String × DataW Unit)} (h : laidMet Tryz.prog (("loop.example/kilnyard/impl.millInsRows", Rows.laid_loop_example_kilnyard_impl_millInsRows) :: r) W) :
  3 < W.heap.size ∧ ∀ (i : Nat) (z : Int × Option (List Int) × Int), irows[i]? = some z → ∃ v, W.cell? ⟨3, i * 3, none⟩ = some (.int .i64 z.1) ∧ W.cell? ⟨3, i * 3 + 1, none⟩ = some v ∧ W.cell? ⟨3, i * 3 + 2, none⟩ = some (.int .i64 z.2.2) ∧ PartA W v (z.2.1.getD []) := by
 obtain ⟨ps, ⟨g', t', cs, fuel, p, q, hg', ht', hvar, hd, _, _⟩, _⟩ := h
 obtain rfl := Option.some.inj (gIR.symm.trans hg')
 obtain rfl := Option.some.inj (gIRType.symm.trans ht')
 obtain ⟨hlt, hcell⟩ := var_cells gIR hvar
 refine ⟨hlt, fun i z hz => ?_⟩
 obtain ⟨xs, m, _, hx, _, hl, hel⟩ := DataW.trod_array Tryz.underlying138 hd
 have hxs : xs.map (·.1) = irows.map irD := by
  have h9 := congrArg Prod.fst hx
  have h8 : Rows.laid_loop_example_kilnyard_impl_millInsRows (H := Unit) = .agg (irows.map irD) := rfl
  rw [h8] at h9
  simpa using h9.symm
 have hi : i < 17 := (List.getElem?_eq_some_iff.1 hz).1
 have e1 := hel i hi
 rw [cellsIR] at e1
 obtain ⟨b, hb⟩ : ∃ b, xs[i]? = some b := ⟨xs[i]'(by omega), List.getElem?_eq_getElem (by omega)⟩
 rw [hb] at e1
 have hb1 : b.1 = irD z := by
  have := congrArg (·[i]?) hxs
  simpa [hb, hz] using this
 obtain ⟨ys, m2, _, hbx, _, hyl, hyf⟩ := DataW.trod_struct Tryz.underlying137 e1
 match ys, hyl with
 | [y0, y1, y2], _ =>
  have g0 := hyf 0 _ rfl
  have g1 := hyf 1 _ rfl
  have g2 := hyf 2 _ rfl
  simp only [List.getElem?_cons_zero] at g0
  simp only [List.getElem?_cons_succ, List.getElem?_cons_zero] at g1
  simp only [List.getElem?_cons_succ, List.getElem?_cons_zero] at g2
  obtain ⟨u, hu, hyu, _⟩ := DataW.trod_int Tryz.underlying3 g0
  obtain ⟨v, hv, hyv, _⟩ := DataW.trod_int Tryz.underlying3 g2
  rw [hbx] at hb1
  simp only [irD, List.map_cons, List.map_nil, DataW.agg.injEq, List.cons.injEq, and_true] at hb1
  obtain ⟨v0, hv0, hp⟩ := row_of Tryz.underlying54 Tryz.underlying3 cellsI g1 hb1.2.1
  have hu2 : u = z.1 := by
   have := hb1.1
   rw [hyu] at this
   simpa using this
  have hv2 : v = z.2.2 := by
   have := hb1.2.2
   rw [hyv] at this
   simpa using this
  subst hu2 hv2
  refine ⟨v0, ?_, ?_, ?_, hp⟩
  ·rw [hcell]
   have := congrArg (·[0]?) hu
   simpa [List.getElem?_take, List.getElem?_drop, cellsI, cellsSg] using this
  ·rw [hcell]
   have := congrArg (·[0]?) hv0
   simpa [List.getElem?_take, List.getElem?_drop, cellsI, cellsSg] using this
  ·rw [hcell]
   have := congrArg (·[0]?) hv
   simpa [List.getElem?_take, List.getElem?_drop, cellsI, cellsSg] using this
theorem envI_of {W : World} {r r' : List (String × DataW Unit)} (h : laidMet Tryz.prog (("loop.example/kilnyard/impl.millBuiltSigns", Rows.laid_loop_example_kilnyard_impl_millBuiltSigns) :: r) W) (h' : laidMet Tryz.prog (("loop.example/kilnyard/impl.millInsRows", Rows.laid_loop_example_kilnyard_impl_millInsRows) :: r') W) : EnvI W := by
 obtain ⟨l2, s2⟩ := sign_of h
 obtain ⟨l1, s1⟩ := irow_of h'
 refine ⟨l1, l2, fun o h1 h2 => ?_, fun k h1 h2 => ?_⟩
 ·obtain rfl | rfl | rfl | rfl | rfl | rfl | rfl | rfl | rfl | rfl | rfl | rfl | rfl | rfl | rfl | rfl : o = 1 ∨ o = 2 ∨ o = 3 ∨ o = 4 ∨ o = 5 ∨ o = 6 ∨ o = 7 ∨ o = 8 ∨ o = 9 ∨ o = 10 ∨ o = 11 ∨ o = 12 ∨ o = 13 ∨ o = 14 ∨ o = 15 ∨ o = 16 := by omega
  ·exact s1 1 _ rfl
  ·exact s1 2 _ rfl
  ·exact s1 3 _ rfl
  ·exact s1 4 _ rfl
  ·exact s1 5 _ rfl
  ·exact s1 6 _ rfl
  ·exact s1 7 _ rfl
  ·exact s1 8 _ rfl
  ·exact s1 9 _ rfl
  ·exact s1 10 _ rfl
  ·exact s1 11 _ rfl
  ·exact s1 12 _ rfl
  ·exact s1 13 _ rfl
  ·exact s1 14 _ rfl
  ·exact s1 15 _ rfl
  ·exact s1 16 _ rfl
 ·obtain rfl | rfl | rfl | rfl | rfl | rfl | rfl | rfl | rfl | rfl | rfl | rfl : k = 1 ∨ k = 2 ∨ k = 3 ∨ k = 4 ∨ k = 5 ∨ k = 6 ∨ k = 7 ∨ k = 8 ∨ k = 9 ∨ k = 10 ∨ k = 11 ∨ k = 12 := by omega
  ·exact s2 1 _ rfl
  ·exact s2 2 _ rfl
  ·exact s2 3 _ rfl
  ·exact s2 4 _ rfl
  ·exact s2 5 _ rfl
  ·exact s2 6 _ rfl
  ·exact s2 7 _ rfl
  ·exact s2 8 _ rfl
  ·exact s2 9 _ rfl
  ·exact s2 10 _ rfl
  ·exact s2 11 _ rfl
  ·exact s2 12 _ rfl
end Go.Proofs.YtcjgcipacfcjnaaGreatDoor.C
namespace Go.Proofs.YtcjgcipacfcjnaaGreatDoor.C
open Go.RowKit
set_option maxRecDepth 20000
theorem IntRow.sl9 {W : World} {v : Value} {l : List Int} (h : IntRow W v l) : ∃ ad c, v = .slice ad l.length c := by
 obtain ⟨ad, c, e, _⟩ := h
 exact ⟨ad, c, e⟩
theorem InsRow.sl9 {W : World} {v : Value} {l : List In} (h : InsRow W v l) : ∃ ad c, v = .slice ad l.length c := by
 obtain ⟨ad, c, e, _⟩ := h
 exact ⟨ad, c, e⟩
theorem FnsRow.sl9 {W : World} {v : Value} {l : List Fn} (h : FnsRow W v l) : ∃ ad c, v = .slice ad l.length c := by
 obtain ⟨ad, c, e, _⟩ := h
 exact ⟨ad, c, e⟩
theorem IntRow.at9 {W : World} {ad : Option Addr} {n c : Nat} {l : List Int} (h : IntRow W (.slice ad n c) l) {i : Nat} (hi : i < l.length) : ∃ g, ad = some ⟨g, 0, none⟩ ∧ g < W.heap.size ∧ W.cell? ⟨g, i, none⟩ = some (.int .i64 (l.getD i 0)) := by
 obtain ⟨ad', c', e, _, _, h3⟩ := h
 injection e with e1 e2 e3
 subst e1
 rcases h3 with h3 | ⟨g, cur, e4, e5, e6⟩
 ·subst h3; cases hi
 ·exact ⟨g, e4, lt_hp e5, (R.row_cell e5 i).trans (e6 i hi)⟩
theorem InsRow.at9 {W : World} {ad : Option Addr} {n c : Nat} {l : List In} (h : InsRow W (.slice ad n c) l) {i : Nat} (hi : i < l.length) : ∃ g, ad = some ⟨g, 0, none⟩ ∧ g < W.heap.size ∧ W.cell? ⟨g, i * 4, none⟩ = some (.int .i64 (l.getD i in0).op) ∧ W.cell? ⟨g, i * 4 + 1, none⟩ = some (.int .i64 (l.getD i in0).a) ∧ W.cell? ⟨g, i * 4 + 2, none⟩ = some (.int .i64 (l.getD i in0).n) ∧ W.cell? ⟨g, i * 4 + 3, none⟩ = some (.string (l.getD i in0).text) := by
 obtain ⟨ad', c', e, _, _, h3⟩ := h
 injection e with e1 e2 e3
 subst e1
 rcases h3 with h3 | ⟨g, cur, e4, e5, e6⟩
 ·subst h3; cases hi
 ·obtain ⟨a0, a1, a2, a3⟩ := e6 i hi
  exact ⟨g, e4, lt_hp e5, (R.row_cell e5 _).trans a0, (R.row_cell e5 _).trans a1, (R.row_cell e5 _).trans a2, (R.row_cell e5 _).trans a3⟩
theorem FnsRow.at9 {W : World} {ad : Option Addr} {n c : Nat} {l : List Fn} (h : FnsRow W (.slice ad n c) l) {i : Nat} (hi : i < l.length) : ∃ g, ad = some ⟨g, 0, none⟩ ∧ g < W.heap.size ∧ ∃ pv iv, W.cell? ⟨g, i * 5, none⟩ = some (.string (l.getD i fn0).name) ∧ W.cell? ⟨g, i * 5 + 1, none⟩ = some pv ∧ W.cell? ⟨g, i * 5 + 2, none⟩ = some (.int .i64 (l.getD i fn0).result) ∧ W.cell? ⟨g, i * 5 + 3, none⟩ = some (.int .i64 (l.getD i fn0).slots) ∧ W.cell? ⟨g, i * 5 + 4, none⟩ = some iv ∧ IntRow W pv (l.getD i fn0).params ∧ InsRow W iv (l.getD i fn0).ins := by
 obtain ⟨ad', c', e, _, _, h3⟩ := h
 injection e with e1 e2 e3
 subst e1
 rcases h3 with h3 | ⟨g, e4, e5, e6⟩
 ·subst h3; cases hi
 ·exact ⟨g, e4, e5, e6 i hi⟩
namespace D
set_option maxHeartbeats 4000000 in
theorem eqSInt_row (l : List Int) {u v : Value} (w : World) (hx : l.length ≤ 1048576) (k0 : IntRow w u l) (l0 : IntRow w v l) :
  Calls Tryz.prog 74 #[u, v] w fun e w' => e = .returned (.bool true) ∧ Below w.heap.size w w' := by
 have H1 := hid k0
 have H2 := hid l0
 have HX := hid hx
 have hN : l.length ≤ 1048576 := hx
 obtain ⟨adu, cpu, rfl⟩ := k0.sl9
 obtain ⟨adv, cpv, rfl⟩ := l0.sl9
 clear k0 l0 hx
 have hne : ((l.length : Int) != (l.length : Int)) = false := by simp
 go_enter Tryz.func74, Tryz.ntmps74
 go_wp2
 go_loopw [5] (fun i wr => ∃ j : Nat, j ≤ l.length ∧ i = .int .i64 j ∧ Below w.heap.size w wr) (fun i _ => l.length - (intOf i).toNat)
 case atStart => exact ⟨0, Nat.zero_le _, rfl, Below.refl _ _⟩
 case round =>
  obtain ⟨j, hj, rfl, hbw⟩ := hrel
  have HBW := hid hbw
  clear hbw
  by_cases hlt : j < l.length
  ·obtain ⟨g, e9, _, a0⟩ := (H1.out.next HBW.out).at9 hlt
   subst e9
   obtain ⟨g2, e8, _, b0⟩ := (H2.out.next HBW.out).at9 hlt
   subst e8
   obtain ⟨x, hx⟩ : ∃ x, l.getD j 0 = x := ⟨_, rfl⟩
   rw [hx] at a0 b0
   clear hx
   have h5 : (x != x) = false := by simp
   go_wp2_with fail
   go_quiet (fail)
   go_wp2
   go_roundw
   case rel => exact ⟨j + 1, by omega, by go_num, below_drewN HBW.out nq⟩
   case measure => simp [intOf]; omega
  ·obtain rfl : j = l.length := by omega
   go_wp2
   go_ret
   exact ⟨rfl, HBW.out⟩
set_option maxHeartbeats 4000000 in
theorem eqSIn_row (l : List In) {u v : Value} (w : World) (hx : R.LoInS l) (k0 : InsRow w u l) (l0 : InsRow w v l) :
  Calls Tryz.prog 75 #[u, v] w fun e w' => e = .returned (.bool true) ∧ Below w.heap.size w w' := by
 have H1 := hid k0
 have H2 := hid l0
 have HX := hid hx
 have hN : l.length ≤ 1048576 := hx.1
 obtain ⟨adu, cpu, rfl⟩ := k0.sl9
 obtain ⟨adv, cpv, rfl⟩ := l0.sl9
 clear k0 l0 hx
 have hne : ((l.length : Int) != (l.length : Int)) = false := by simp
 go_enter Tryz.func75, Tryz.ntmps75
 go_wp2
 go_loopw [5] (fun i wr => ∃ j : Nat, j ≤ l.length ∧ i = .int .i64 j ∧ Below w.heap.size w wr) (fun i _ => l.length - (intOf i).toNat)
 case atStart => exact ⟨0, Nat.zero_le _, rfl, Below.refl _ _⟩
 case round =>
  obtain ⟨j, hj, rfl, hbw⟩ := hrel
  have HBW := hid hbw
  clear hbw
  by_cases hlt : j < l.length
  ·obtain ⟨g, e9, hgu, a0, a1, a2, a3⟩ := (H1.out.next HBW.out).at9 hlt
   subst e9
   obtain ⟨g2, e8, hgv, b0, b1, b2, b3⟩ := (H2.out.next HBW.out).at9 hlt
   subst e8
   have HLO := hid (HX.out.2 j hlt)
   obtain ⟨x, hx⟩ : ∃ x, l.getD j in0 = x := ⟨_, rfl⟩
   rw [hx] at HLO a0 b0 a1 b1 a2 b2 a3 b3
   clear hx
   have A0 := fun p : R.Gr wr => (p.h.cell (p := ⟨_, _, none⟩) hgu).trans a0
   have C0 := fun p : R.Gr wr => (p.h.cell (p := ⟨_, _, none⟩) hgv).trans b0
   have A1 := fun p : R.Gr wr => (p.h.cell (p := ⟨_, _, none⟩) hgu).trans a1
   have C1 := fun p : R.Gr wr => (p.h.cell (p := ⟨_, _, none⟩) hgv).trans b1
   have A2 := fun p : R.Gr wr => (p.h.cell (p := ⟨_, _, none⟩) hgu).trans a2
   have C2 := fun p : R.Gr wr => (p.h.cell (p := ⟨_, _, none⟩) hgv).trans b2
   have A3 := fun p : R.Gr wr => (p.h.cell (p := ⟨_, _, none⟩) hgu).trans a3
   have C3 := fun p : R.Gr wr => (p.h.cell (p := ⟨_, _, none⟩) hgv).trans b3
   clear a0 b0 a1 b1 a2 b2 a3 b3
   go_wp2_with fail
   have hne2 : Nonempty (R.Gr wr) := ⟨⟨wr, Below.refl _ _⟩⟩
   refine R.wp_region_gr (by kernel_rfl) (by kernel_rfl) ?_
   repeat (go_big_quiet_step (first | (go_at_call 103; refine R.Calls.gr_of (v := .bool true) fun hpw => ?_; exact R.eqIn_same x _)))
   refine wpQuiet_nil ?_
   intro _ hw'
   obtain ⟨pw, rfl⟩ := hw'
   have HB4 := hid (HBW.out.trans (pw.h.mono HBW.out.size))
   clear A0 C0 A1 C1 A2 C2 A3 C3
   go_wp2
   go_roundw
   case rel => exact ⟨j + 1, by omega, by go_num, HB4.out⟩
   case measure => simp [intOf]; omega
  ·obtain rfl : j = l.length := by omega
   go_wp2
   go_ret
   exact ⟨rfl, HBW.out⟩
set_option maxHeartbeats 4000000 in
theorem eqFn_row (x : Fn) {u0 v0 u1 v1 : Value} (w : World) (hx : R.LoFn x) (k0 : IntRow w u0 x.params) (l0 : IntRow w v0 x.params) (k1 : InsRow w u1 x.ins) (l1 : InsRow w v1 x.ins) :
  Calls Tryz.prog 44 #[.agg #[.string x.name, u0, .int .i64 x.result, .int .i64 x.slots, u1], .agg #[.string x.name, v0, .int .i64 x.result, .int .i64 x.slots, v1]] w fun e w' => e = .returned (.bool true) ∧ Below w.heap.size w w' := by
 have e0 : (x.name.toList != x.name.toList) = false := by simp
 have i0 : (x.result != x.result) = false := by simp
 have i1 : (x.slots != x.slots) = false := by simp
 have K0 := hid (And.intro k0 l0)
 obtain ⟨adu0, cpu0, rfl⟩ := k0.sl9
 obtain ⟨adv0, cpv0, rfl⟩ := l0.sl9
 clear k0 l0
 have K1 := hid (And.intro k1 l1)
 obtain ⟨adu1, cpu1, rfl⟩ := k1.sl9
 obtain ⟨adv1, cpv1, rfl⟩ := l1.sl9
 clear k1 l1
 have HLO := hid hx
 clear hx
 have HB0 := hid (R.B2.start w (.cells #[.string x.name, .slice adu0 x.params.length cpu0, .int .i64 x.result, .int .i64 x.slots, .slice adu1 x.ins.length cpu1] 57) (.cells #[.string x.name, .slice adv0 x.params.length cpv0, .int .i64 x.result, .int .i64 x.slots, .slice adv1 x.ins.length cpv1] 57))
 go_enter Tryz.func44, Tryz.ntmps44
 go_wp2_with fail
 refine (eqSInt_row x.params _ HLO.out.1 (K0.out.1.next HB0.out.lo) (K0.out.2.next HB0.out.lo)).mono ?_
 rintro e w1 ⟨rfl, hb0⟩
 have HB1 := hid (HB0.out.next hb0)
 clear hb0
 have p1_2 : w1.cell? ⟨w.heap.size, 2, none⟩ = some (.int .i64 x.result) := R.row_cell HB1.out.e 2
 have q1_2 : w1.cell? ⟨w.heap.size + 1, 2, none⟩ = some (.int .i64 x.result) := R.row_cell HB1.out.f 2
 have p1_3 : w1.cell? ⟨w.heap.size, 3, none⟩ = some (.int .i64 x.slots) := R.row_cell HB1.out.e 3
 have q1_3 : w1.cell? ⟨w.heap.size + 1, 3, none⟩ = some (.int .i64 x.slots) := R.row_cell HB1.out.f 3
 have p1_4 : w1.cell? ⟨w.heap.size, 4, none⟩ = some (.slice adu1 x.ins.length cpu1) := R.row_cell HB1.out.e 4
 have q1_4 : w1.cell? ⟨w.heap.size + 1, 4, none⟩ = some (.slice adv1 x.ins.length cpv1) := R.row_cell HB1.out.f 4
 go_wp2_with fail
 refine (eqSIn_row x.ins _ HLO.out.2 (K1.out.1.next HB1.out.lo) (K1.out.2.next HB1.out.lo)).mono ?_
 rintro e w2 ⟨rfl, hb1⟩
 have HB2 := hid (HB1.out.next hb1)
 clear hb1
 go_wp2
 go_ret
 exact ⟨rfl, HB2.out.lo⟩
set_option maxHeartbeats 4000000 in
theorem eqSFn_row (l : List Fn) {u v : Value} (w : World) (hx : R.LoFnS l) (k0 : FnsRow w u l) (l0 : FnsRow w v l) :
  Calls Tryz.prog 24 #[u, v] w fun e w' => e = .returned (.bool true) ∧ Below w.heap.size w w' := by
 have H1 := hid k0
 have H2 := hid l0
 have HX := hid hx
 have hN : l.length ≤ 1048576 := hx.1
 obtain ⟨adu, cpu, rfl⟩ := k0.sl9
 obtain ⟨adv, cpv, rfl⟩ := l0.sl9
 clear k0 l0 hx
 have hne : ((l.length : Int) != (l.length : Int)) = false := by simp
 go_enter Tryz.func24, Tryz.ntmps24
 go_wp2
 go_loopw [5] (fun i wr => ∃ j : Nat, j ≤ l.length ∧ i = .int .i64 j ∧ Below w.heap.size w wr) (fun i _ => l.length - (intOf i).toNat)
 case atStart => exact ⟨0, Nat.zero_le _, rfl, Below.refl _ _⟩
 case round =>
  obtain ⟨j, hj, rfl, hbw⟩ := hrel
  have HBW := hid hbw
  clear hbw
  by_cases hlt : j < l.length
  ·obtain ⟨g, e9, hgu, u0, u1, a0, a1, a2, a3, a4, r0, r1⟩ := (H1.out.next HBW.out).at9 hlt
   subst e9
   obtain ⟨g2, e8, hgv, v0, v1, b0, b1, b2, b3, b4, q0, q1⟩ := (H2.out.next HBW.out).at9 hlt
   subst e8
   have HLO := hid (HX.out.2 j hlt)
   obtain ⟨x, hx⟩ : ∃ x, l.getD j fn0 = x := ⟨_, rfl⟩
   rw [hx] at HLO a0 b0 a2 b2 a3 b3 r0 q0 r1 q1
   clear hx
   have HT0 := hid (And.intro r0 q0)
   obtain ⟨adr0, cpr0, rfl⟩ := r0.sl9
   obtain ⟨adq0, cpq0, rfl⟩ := q0.sl9
   clear r0 q0
   have HT1 := hid (And.intro r1 q1)
   obtain ⟨adr1, cpr1, rfl⟩ := r1.sl9
   obtain ⟨adq1, cpq1, rfl⟩ := q1.sl9
   clear r1 q1
   have A0 := fun p : R.Gr wr => (p.h.cell (p := ⟨_, _, none⟩) hgu).trans a0
   have C0 := fun p : R.Gr wr => (p.h.cell (p := ⟨_, _, none⟩) hgv).trans b0
   have A1 := fun p : R.Gr wr => (p.h.cell (p := ⟨_, _, none⟩) hgu).trans a1
   have C1 := fun p : R.Gr wr => (p.h.cell (p := ⟨_, _, none⟩) hgv).trans b1
   have A2 := fun p : R.Gr wr => (p.h.cell (p := ⟨_, _, none⟩) hgu).trans a2
   have C2 := fun p : R.Gr wr => (p.h.cell (p := ⟨_, _, none⟩) hgv).trans b2
   have A3 := fun p : R.Gr wr => (p.h.cell (p := ⟨_, _, none⟩) hgu).trans a3
   have C3 := fun p : R.Gr wr => (p.h.cell (p := ⟨_, _, none⟩) hgv).trans b3
   have A4 := fun p : R.Gr wr => (p.h.cell (p := ⟨_, _, none⟩) hgu).trans a4
   have C4 := fun p : R.Gr wr => (p.h.cell (p := ⟨_, _, none⟩) hgv).trans b4
   clear a0 b0 a1 b1 a2 b2 a3 b3 a4 b4
   go_wp2_with fail
   have hne2 : Nonempty (R.Gr wr) := ⟨⟨wr, Below.refl _ _⟩⟩
   refine R.wp_region_gr (by kernel_rfl) (by kernel_rfl) ?_
   repeat (go_big_quiet_step (first | (go_at_call 44; refine R.Calls.gr_of (v := .bool true) fun hpw => ?_; exact eqFn_row x _ HLO.out (HT0.out.1.next hpw) (HT0.out.2.next hpw) (HT1.out.1.next hpw) (HT1.out.2.next hpw))))
   refine wpQuiet_nil ?_
   intro _ hw'
   obtain ⟨pw, rfl⟩ := hw'
   have HB4 := hid (HBW.out.trans (pw.h.mono HBW.out.size))
   clear A0 C0 A1 C1 A2 C2 A3 C3 A4 C4
   go_wp2
   go_roundw
   case rel => exact ⟨j + 1, by omega, by go_num, HB4.out⟩
   case measure => simp [intOf]; omega
  ·obtain rfl : j = l.length := by omega
   go_wp2
   go_ret
   exact ⟨rfl, HBW.out⟩
set_option maxHeartbeats 4000000 in
theorem eqCd_row (x : R.Cd) {u0 v0 : Value} (w : World) (hx : R.LoCd x) (k0 : FnsRow w u0 x.fns) (l0 : FnsRow w v0 x.fns) :
  Calls Tryz.prog 9 #[.agg #[u0], .agg #[v0]] w fun e w' => e = .returned (.bool true) ∧ Below w.heap.size w w' := by
 have K0 := hid (And.intro k0 l0)
 obtain ⟨adu0, cpu0, rfl⟩ := k0.sl9
 obtain ⟨adv0, cpv0, rfl⟩ := l0.sl9
 clear k0 l0
 have HLO := hid hx
 clear hx
 have HB0 := hid (R.B2.start w (.cells #[.slice adu0 x.fns.length cpu0] 29) (.cells #[.slice adv0 x.fns.length cpv0] 29))
 go_enter Tryz.func9, Tryz.ntmps9
 go_wp2_with fail
 refine (eqSFn_row x.fns _ HLO.out (K0.out.1.next HB0.out.lo) (K0.out.2.next HB0.out.lo)).mono ?_
 rintro e w1 ⟨rfl, hb0⟩
 have HB1 := hid (HB0.out.next hb0)
 clear hb0
 go_wp2
 go_ret
 exact ⟨rfl, HB1.out.lo⟩
end D
end Go.Proofs.YtcjgcipacfcjnaaGreatDoor.C
namespace Go.Proofs.YtcjgcipacfcjnaaGreatDoor.C.D
open Go.RowKit
set_option maxRecDepth 20000
def ISerE (s : ByteArray) (r p : Nat) (w : World) (e : Ending) (w' : World) : Prop := ∃ q, RS w' r s q ∧ p ≤ q ∧ q ≤ s.size ∧ w.grownBy w' (some r) ∧ ((∃ (v : Value) (l : List FnE), e = .returned (.tuple #[v, .nilIface]) ∧ OwnE w.heap.size w' v l ∧ (∀ x ∈ (l.map FnE.f), FnW x) ∧ (l.map FnE.f).length ≤ 200000 ∧ q = p + (SerF fnF (l.map FnE.f)).length ∧ Fr (SerF fnF (l.map FnE.f)) ((bts s).drop p)) ∨ ∃ (a : Int) (t : TypeId) (u : Value), e = .returned (.tuple #[.slice none 0 0, .iface 70 (.agg #[.int .i64 a, .iface t u])]) ∧ ∀ l : List Fn, (∀ x ∈ l, FnW x) → l.length ≤ 200000 → ¬ Fr (SerF fnF l) ((bts s).drop p))
structure WIE (s : ByteArray) (r p many : Nat) (w : World) (v : Value) (l : List FnE) (q : Nat) (W : World) : Prop where
 rs : RS W r s q
 le : p ≤ q ∧ q ≤ s.size
 gr : w.grownBy W (some r)
 own : OwnE w.heap.size W v l
 si : SI fnF FnW s p many (l.map FnE.f) q
theorem WIE.step {s : ByteArray} {r p many q q' : Nat} {w W1 W2 W3 W9 : World} {v v9 pv iv : Value} {l : List FnE} {x : Fn} (h : WIE s r p many w v l q W1) (hr : r < w.heap.size) (hlt : l.length < many) (hd : RS W2 r s q') (hle : q ≤ q' ∧ q' ≤ s.size) (hg : W1.grownBy W2 (some r)) (hp : OwnI W1.heap.size W2 pv x.params) (hi : OwnN W1.heap.size W2 iv x.ins) (hx : FnW x) (hq : q' = q + (fnF x).length) (hf : Fr (fnF x) ((bts s).drop q)) (h3 : Below W2.heap.size W2 W3) (h4 : W3.grownBy W9 v.ownBlock) (ho : W9.ownsRow w.heap.size 57 5 v9 (l.length + 1) (cellsE l ++ [.string x.name, pv, .int .i64 x.result, .int .i64 x.slots, iv])) : WIE s r p many w v9 (l ++ [⟨x, pv, iv, W1.heap.size, W2.heap.size⟩]) q' W9 := by
 have h5 := (h.own.grow hg hr).next h3
 have e : (l ++ [(⟨x, pv, iv, W1.heap.size, W2.heap.size⟩ : FnE)]).map FnE.f = l.map FnE.f ++ [x] := by simp
 refine ⟨box_other (hd.next h3) h5.row (by decide) h4, ⟨by have := h.le; omega, hle.2⟩, grown_own (grown_below (grown_trans h.gr hg) h3) h5.row h4, h.own.more h.gr.size hg hr hp hi h3 h4 ho, ?_⟩
 rw [e]
 exact h.si.more (by rw [List.length_map]; exact hlt) hx hf hq
theorem lit_fiveI (W : World) (t : TypeId) (a b c e f : Value) : ∀ j u, ([a, b, c, e, f] : List Value)[j]? = some u → (W.alloc (.cells #[a, b, c, e, f] t)).cell? ((⟨W.heap.size, 0, none⟩ : Addr).add j) = some u := fun j u hj => by
 match j, hj with
 | 0, hj => simp at hj; subst hj; simp [Addr.add]
 | 1, hj => simp at hj; subst hj; simp [Addr.add]
 | 2, hj => simp at hj; subst hj; simp [Addr.add]
 | 3, hj => simp at hj; subst hj; simp [Addr.add]
 | 4, hj => simp at hj; subst hj; simp [Addr.add]
theorem lit_fiveI1 (W : World) (o : Obj) (t : TypeId) (a b c e f : Value) : ∀ j u, ([a, b, c, e, f] : List Value)[j]? = some u → ((W.alloc o).alloc (.cells #[a, b, c, e, f] t)).cell? ((⟨W.heap.size + 1, 0, none⟩ : Addr).add j) = some u := fun j u hj => by
 have := lit_fiveI (W.alloc o) t a b c e f j u hj
 rwa [World.size_alloc] at this
theorem one_fiveI (n : ByteArray) (pa ia : Option Addr) (pn pc im ic : Nat) (o a : Int) : ∀ u ∈ ([Value.string n, .slice pa pn pc, .int .i64 o, .int .i64 a, .slice ia im ic] : List Value), u.oneCell' = true := fun u hu => by
 simp at hu
 rcases hu with rfl | rfl | rfl | rfl | rfl <;> rfl
theorem WIE.own3 {s : ByteArray} {r p many q : Nat} {w W1 W2 W3 : World} {v : Value} {l : List FnE} (h : WIE s r p many w v l q W1) (hr : r < w.heap.size) (hg : W1.grownBy W2 (some r)) (h3 : Below W2.heap.size W2 W3) : W3.ownsRow w.heap.size 57 5 v l.length (cellsE l) := own_next (own_growD h.own.row hg hr) h3
set_option maxHeartbeats 8000000 in
theorem iSerE_any {s : ByteArray} {r p : Nat} {w : World} (h : RS w r s p) (hev : EnvF w) (hf : FarG r) (hp : p ≤ s.size) (hs : s.size ≤ 200000) :
  Calls Tryz.prog 50 #[.pointer (some ⟨r, 0, none⟩), .func (.func 51) #[.pointer (some ⟨r, 0, none⟩)] #[]] w (ISerE s r p w) := by
 have HN := hid (iSize_any h hev hf hp hs)
 have HEV := hid hev
 have HF := hid hf
 have HRL := hid (lt_hp h)
 obtain ⟨j0, hi0, hz0, hs0, hb0⟩ := info_fn
 have HHJ := hid (And.intro hi0 (And.intro hz0 (And.intro hs0 hb0)))
 clear h hev hf hi0 hz0 hs0 hb0
 go_enter Tryz.func50, Tryz.ntmps50
 go_wp2_with fail
 refine HN.out.mono ?_
 rintro e w1 ⟨q1, hd1, h11, h12, hg1, hc1⟩
 clear HN
 rcases hc1 with ⟨many, rfl, hmany, hq1, hfr1⟩ | ⟨m, a, t, u, rfl, hno⟩
 ·have HST : Hid (WIE s r p many w (.slice none 0 0) [] q1 w1) := hid ⟨hd1, ⟨h11, h12⟩, hg1, OwnE.nil _ _, SI.start hfr1 hq1⟩
  clear hd1 h11 h12 hg1 hq1 hfr1
  go_wp2
  go_loopw [8, 20] (fun v i wr => ∃ (l : List FnE) (q : Nat), i = .int .i64 l.length ∧ WIE s r p many w v l q wr) (fun _ i _ => many - (intOf i).toNat)
  case atStart => exact ⟨[], q1, rfl, HST.out⟩
  case round =>
   obtain ⟨l, q, rfl, hwi⟩ := hrel
   have HP := hid hwi
   obtain ⟨av, cv, rfl⟩ := hwi.own.sl
   have hqs := hwi.le.2
   have hlm : l.length ≤ many := (by have h9 := HP.out.si.le; rw [List.length_map] at h9; exact h9)
   have HR := hid (iFn_any hwi.rs (HEV.out.grow hwi.gr HF.out) HF.out hqs hs)
   clear hwi HST
   by_cases hlt : l.length < many
   ·have hlti : (l.length : Int) < (many : Int) := by omega
    go_wp2_with fail
    refine HR.out.mono ?_
    rintro e w1 ⟨q2, hd, h1, h2, hg, hc⟩
    have HD := hid hd
    have HG := hid hg
    clear hd hg HR
    rcases hc with ⟨x, pa, pn, pc, ia, im, ic, rfl, hpv, hiv, hx, hq2, hfr⟩ | ⟨nm, pa, pn, pc, rr, sl, ia, im, ic, a, t, u, rfl, hno⟩
    ·have HQ2 := hid hq2
     have HFR := hid hfr
     clear hq2 hfr
     have HX := hid hx
     have HPV := hid hpv
     have HIV := hid hiv
     clear hx hpv hiv
     have HB3 : Hid (Below w1.heap.size w1 ((w1.alloc (.cells #[.string x.name, .slice pa pn pc, .int .i64 x.result, .int .i64 x.slots, .slice ia im ic] 57)).alloc (.cells #[.string x.name, .slice pa pn pc, .int .i64 x.result, .int .i64 x.slots, .slice ia im ic] 57))) := hid (((Below.refl w1.heap.size w1).alloc (Nat.le_refl _) _).alloc (by simp) _)
     have HO3 := hid (WIE.own3 HP.out HRL.out HG.out HB3.out)
     go_upto_region 11 with (at_builtin;  refine wpList_append_own_at _ rfl (.tmp 30) (.tmp 32) 27 rfl w.heap.size 57 j0 (.agg #[.string ⟨#[]⟩, .slice none 0 0, .int .i64 0, .int .i64 0, .slice none 0 0]) 5 80 Tryz.underlying27 HHJ.out.1 HHJ.out.2.1 HHJ.out.2.2.1 HHJ.out.2.2.2 rfl (by decide) (.slice av l.length cv) l.length (cellsE l) rfl HO3.out ⟨(w1.heap.size + 1), 0, none⟩ 1 1 [.string x.name, .slice pa pn pc, .int .i64 x.result, .int .i64 x.slots, .slice ia im ic] rfl rfl (lit_fiveI1 _ _ _ _ _ _ _ _) (one_fiveI _ _ _ _ _ _ _ _ _) (by unfold maxLen; omega) (by omega) (Nat.le_trans HP.out.gr.size (Nat.le_trans HG.out.size HB3.out.size)) ?_; intro v9 w9 o9 g9 _ _; have HW9 := hid (HP.out.step HRL.out hlt HD.out ⟨h1, h2⟩ HG.out HPV.out HIV.out HX.out HQ2.out HFR.out (HB3.out) g9 o9); obtain ⟨a9, c9, rfl⟩ := own_slN o9; clear o9 g9)
     go_wp2
     go_roundw
     case rel => exact ⟨_, q2, by rw [List.length_append]; go_num, HW9.out⟩
     case measure => simp [intOf]; omega
    ·have HNO := hid hno
     clear hno
     go_wp2
     go_ret2
     exact ⟨q2, HD.out.next ((Below.refl _ _).alloc (Nat.le_refl _) _), by have := HP.out.le.1; omega, h2, grown_below (grown_trans HP.out.gr HG.out) ((Below.refl _ _).alloc (Nat.le_refl _) _), .inr ⟨_, _, _, rfl, fun m hm _ => HP.out.si.no fn_pre (by rw [List.length_map]; exact hlt) (HNO.out) m hm⟩⟩
   ·have HDN := hid (HP.out.si.done (by rw [List.length_map]; exact hlt))
    go_wp2
    go_ret2
    exact ⟨q, HP.out.rs, HP.out.le.1, hqs, HP.out.gr, .inl ⟨_, l, rfl, HP.out.own, HP.out.si.all, HP.out.si.small hmany, HDN.out.2, HDN.out.1⟩⟩
 ·have HNO := hid hno
  clear hno
  go_wp2
  go_ret2
  exact ⟨q1, hd1, h11, h12, hg1, .inr ⟨_, _, _, rfl, fun l _ hl => ser_no HNO.out l hl⟩⟩
set_option maxHeartbeats 4000000 in
theorem markN_nil (K : Nat) (w : World) :
  Calls Tryz.prog 58 #[.slice none 0 0, .int .i64 K] w fun e w' => e = .returned (.int .i64 K) ∧ w' = w := by
 go_enter Tryz.func58, Tryz.ntmps58
 go_wp2
 go_loop [1, 5] (fun k i => k = .int .i64 K ∧ i = .int .i64 0) (fun _ _ => 0)
 case atStart => exact ⟨rfl, rfl⟩
 case round =>
  obtain ⟨rfl, rfl⟩ := hrel
  go_wp2
  go_ret
  exact ⟨rfl, rfl⟩
set_option maxHeartbeats 4000000 in
theorem heldN_nil (K : Nat) (w : World) :
  Calls Tryz.prog 60 #[.slice none 0 0, .int .i64 K] w fun e w' => e = .returned (.int .i64 K) ∧ w' = w := by
 go_enter Tryz.func60, Tryz.ntmps60
 go_wp2
 go_loop [1, 5] (fun k i => k = .int .i64 K ∧ i = .int .i64 0) (fun _ _ => 0)
 case atStart => exact ⟨rfl, rfl⟩
 case round =>
  obtain ⟨rfl, rfl⟩ := hrel
  go_wp2
  go_ret
  exact ⟨rfl, rfl⟩
theorem markN_own {B K : Nat} {v : Value} {l : List In} (w : World) (h : OwnN B w v l) (hn : l.length ≤ 200000) (hK : 0 < K) (hK2 : K ≤ 5000000) :
  Calls Tryz.prog 58 #[v, .int .i64 K] w fun e w' => e = .returned (.int .i64 (K + 4 * l.length : Nat)) ∧ w.grownBy w' v.ownBlock ∧ OwnN B w' v (mkN K l.length) := by
 rcases own_open h with ⟨rfl, h0, _⟩ | ⟨g, cap, cur, rfl, hB, hc, h1, h2, h3, h4, h5⟩
 ·refine (markN_nil K w).mono ?_
  rintro e w' ⟨rfl, rfl⟩
  rw [h0]
  exact ⟨rfl, grown_none rfl _, OwnN.nil _ _⟩
 ·refine (markN_row w hn h1 hK hK2 ⟨cur, hc, h3, fun i hi => absurd hi (Nat.not_lt_zero _)⟩).mono ?_
  rintro e w' ⟨rfl, hg, hm⟩
  refine ⟨rfl, hg, ?_⟩
  obtain ⟨cu, e1, e2, e3⟩ := hm.e
  unfold OwnN
  rw [mkN_len]
  refine own_cells hB e1 h1 h2 e2 (by rw [insC_len, mkN_len]) fun i hi => ?_
  obtain ⟨q, r, rfl, hr⟩ : ∃ q r, i = q * 4 + r ∧ r < 4 := ⟨i / 4, i % 4, by omega, by omega⟩
  have hq : q < l.length := by omega
  obtain ⟨a0, a1, a2, a3⟩ := e3 q hq
  obtain ⟨b0, b1, b2, b3⟩ := mkN_at K l.length hq
  obtain rfl | rfl | rfl | rfl : r = 0 ∨ r = 1 ∨ r = 2 ∨ r = 3 := by omega
  ·exact a0.trans b0.symm
  ·exact a1.trans b1.symm
  ·exact a2.trans b2.symm
  ·exact a3.trans b3.symm
theorem heldN_own {B K n : Nat} {v : Value} (w : World) (h : OwnN B w v (mkN K n)) (hn : n ≤ 200000) (hK : 0 < K) (hK2 : K ≤ 5000000) :
  Calls Tryz.prog 60 #[v, .int .i64 K] w fun e w' => e = .returned (.int .i64 (K + 4 * n : Nat)) ∧ Below w.heap.size w w' := by
 unfold OwnN at h
 rw [mkN_len] at h
 rcases own_open h with ⟨rfl, h0, _⟩ | ⟨g, cap, cur, rfl, hB, hc, h1, h2, h3, h4, h5⟩
 ·subst h0
  refine (heldN_nil K w).mono ?_
  rintro e w' ⟨rfl, rfl⟩
  exact ⟨rfl, Below.refl _ _⟩
 ·refine heldN_row w hn hK hK2 ⟨cur, hc, h3, fun i hi => ?_⟩
  obtain ⟨b0, b1, b2, b3⟩ := mkN_at K n hi
  exact ⟨(h5 _ (by omega)).trans b0, (h5 _ (by omega)).trans b1, (h5 _ (by omega)).trans b2, (h5 _ (by omega)).trans b3⟩
def wE (x : FnE) : Nat := 3 + x.f.params.length + 4 * x.f.ins.length
def mkFn (k : Nat) (f : Fn) : Fn := ⟨mtxt k, mkI (k + 1) f.params.length, ((k + 1 + f.params.length : Nat) : Int), ((k + 2 + f.params.length : Nat) : Int), mkN (k + 3 + f.params.length) f.ins.length⟩
def mkX (k : Nat) (x : FnE) : FnE := ⟨mkFn k x.f, x.pv, x.iv, x.lo, x.hi⟩
def mkE : Nat → List FnE → List FnE
 | _, [] => []
 | k, x :: L => mkX k x :: mkE (k + wE x) L
def kE : List FnE → Nat
 | [] => 0
 | x :: L => wE x + kE L
theorem mkE_snoc : ∀ (A : List FnE) (k : Nat) (x : FnE), mkE k (A ++ [x]) = mkE k A ++ [mkX (k + kE A) x]
 | [], k, x => by simp [mkE, kE]
 | y :: A, k, x => by
  simp only [List.cons_append, mkE, kE]
  rw [mkE_snoc A (k + wE y) x, Nat.add_assoc]
theorem kE_snoc : ∀ (A : List FnE) (x : FnE), kE (A ++ [x]) = kE A + wE x
 | [], x => by simp [kE]
 | y :: A, x => by
  simp only [List.cons_append, kE]
  rw [kE_snoc A x, Nat.add_assoc]
theorem mkE_len : ∀ (A : List FnE) (k : Nat), (mkE k A).length = A.length
 | [], _ => rfl
 | x :: A, k => by simp [mkE, mkE_len A]
theorem kE_app : ∀ (A C : List FnE), kE (A ++ C) = kE A + kE C
 | [], C => by simp [kE]
 | x :: A, C => by simp only [List.cons_append, kE]; rw [kE_app A C, Nat.add_assoc]
theorem cellsE_len : ∀ (A : List FnE), (cellsE A).length = A.length * 5
 | [] => rfl
 | x :: A => by
  have := cellsE_len A
  simp [cellsE] at this ⊢
  omega
theorem cellsE_app (A C : List FnE) : cellsE (A ++ C) = cellsE A ++ cellsE C := by simp [cellsE]
theorem cellsE_cons (x : FnE) (C : List FnE) : cellsE (x :: C) = [.string x.f.name, x.pv, .int .i64 x.f.result, .int .i64 x.f.slots, x.iv] ++ cellsE C := by simp [cellsE]
theorem own_set1 {W : World} {B e k n g cap : Nat} {xs : List Value} (h : W.ownsRow B e k (.slice (some ⟨g, 0, none⟩) n cap) n xs) (i : Nat) (u : Value) : (W.setCell ⟨g, i, none⟩ u).ownsRow B e k (.slice (some ⟨g, 0, none⟩) n cap) n (xs.set i u) := by
 rcases own_open h with ⟨hn, _⟩ | ⟨g', cap', cur, ev, hB, hc, h1, h2, h3, h4, h5⟩
 ·cases hn
 ·injection ev with e1 _ e2
  injection e1 with e1
  injection e1 with e1 _ _
  subst e1 e2
  refine own_cells hB (R.set_at (i := i) u hc) h1 h2 (by rw [Array.size_setIfInBounds]; exact h3) (by rw [List.length_set]; exact h4) fun j hj => ?_
  have hjc : j < cur.size := by rw [h3]; exact Nat.lt_of_lt_of_le hj (Nat.mul_le_mul_right k h1)
  by_cases e : i = j
  ·subst e
   rw [Array.getElem?_setIfInBounds_self_of_lt hjc, List.getElem?_set_self (by omega)]
  ·rw [Array.getElem?_setIfInBounds_ne e, List.getElem?_set_ne e]
   exact h5 j hj
theorem set_at5 {A : List Value} {a b c d e u : Value} {C : List Value} {n : Nat} (hA : A.length = n) : (A ++ ([a, b, c, d, e] ++ C)).set n u = A ++ ([u, b, c, d, e] ++ C) ∧ (A ++ ([a, b, c, d, e] ++ C)).set (n + 2) u = A ++ ([a, b, u, d, e] ++ C) ∧ (A ++ ([a, b, c, d, e] ++ C)).set (n + 3) u = A ++ ([a, b, c, u, e] ++ C) := by
 subst hA
 refine ⟨?_, ?_, ?_⟩
 ·rw [List.set_append_right _ _ (by omega)]; simp
 ·rw [List.set_append_right _ _ (by omega)]; simp
 ·rw [List.set_append_right _ _ (by omega)]; simp
theorem OwnE.upd {B : Nat} {W V : World} {v : Value} {A C : List FnE} {x y : FnE} (h : OwnE B W v (A ++ x :: C)) (hsz : W.heap.size ≤ V.heap.size) (hrow : V.ownsRow B 57 5 v (A ++ y :: C).length (cellsE (A ++ y :: C))) (hlo : y.lo = x.lo) (hhi : y.hi = x.hi) (hy : RowE V y) (ho : ∀ z, z ∈ A ∨ z ∈ C → RowE V z) : OwnE B V v (A ++ y :: C) := by
 refine ⟨hrow, fun z hz => ?_, ?_⟩
 ·rcases List.mem_append.1 hz with hz | hz
  ·obtain ⟨a1, a2, _⟩ := h.ins z (List.mem_append_left _ hz)
   exact ⟨a1, Nat.le_trans a2 hsz, ho z (.inl hz)⟩
  ·rcases List.mem_cons.1 hz with rfl | hz
   ·obtain ⟨a1, a2, _⟩ := h.ins x (List.mem_append_right _ List.mem_cons_self)
    rw [hlo, hhi]
    exact ⟨a1, Nat.le_trans a2 hsz, hy⟩
   ·obtain ⟨a1, a2, _⟩ := h.ins z (List.mem_append_right _ (List.mem_cons_of_mem _ hz))
    exact ⟨a1, Nat.le_trans a2 hsz, ho z (.inr hz)⟩
 ·have ha := h.asc
  rw [List.pairwise_append, List.pairwise_cons] at ha ⊢
  obtain ⟨h1, ⟨h2, h3⟩, h4⟩ := ha
  refine ⟨h1, ⟨fun z hz => by rw [hhi]; exact h2 z hz, h3⟩, fun z hz u hu => ?_⟩
  rcases List.mem_cons.1 hu with rfl | hu
  ·rw [hlo]
   exact h4 z hz x List.mem_cons_self
  ·exact h4 z hz u (List.mem_cons_of_mem _ hu)
theorem RowE.setF {W : World} {x : FnE} {g i : Nat} {cu : Array Value} {u : Value} (h : RowE W x) (hc : W.heap[g]? = some (.cells cu 57 (0, 0))) : RowE (W.setCell ⟨g, i, none⟩ u) x :=
 h.keep fun b cur t _ ht hb => set_other _ _ _ _ _ fun ee => by
  subst ee
  rw [hc] at hb
  injection hb with hb
  injection hb with _ hb _
  subst hb
  rcases ht with ht | ht <;> revert ht <;> decide
theorem OwnE.cur {B g n cap : Nat} {W : World} {L : List FnE} (h : OwnE B W (.slice (some ⟨g, 0, none⟩) n cap) L) : ∃ cu, W.heap[g]? = some (.cells cu 57 (0, 0)) ∧ B ≤ g ∧ n = L.length ∧ L.length * 5 ≤ cu.size ∧ ∀ i, i < L.length * 5 → cu[i]? = (cellsE L)[i]? := by
 rcases own_open h.row with ⟨hn, _⟩ | ⟨g', cap', cur, ev, hB, hc, h1, h2, h3, h4, h5⟩
 ·cases hn
 ·injection ev with e1 e3 e2
  injection e1 with e1
  injection e1 with e1 _ _
  subst e1 e2
  exact ⟨cur, hc, hB, e3, by rw [h3]; exact Nat.mul_le_mul_right 5 h1, h5⟩
theorem OwnE.own {B g n cap : Nat} {W : World} {L : List FnE} (h : OwnE B W (.slice (some ⟨g, 0, none⟩) n cap) L) : W.ownsRow B 57 5 (.slice (some ⟨g, 0, none⟩) n cap) n (cellsE L) := by
 obtain ⟨_, _, _, e, _⟩ := h.cur
 have := h.row
 rw [e] at this ⊢
 exact this
theorem OwnE.setName {B g n cap : Nat} {W : World} {A C : List FnE} {x : FnE} (h : OwnE B W (.slice (some ⟨g, 0, none⟩) n cap) (A ++ x :: C)) (t : ByteArray) : OwnE B (W.setCell ⟨g, A.length * 5, none⟩ (.string t)) (.slice (some ⟨g, 0, none⟩) n cap) (A ++ ⟨⟨t, x.f.params, x.f.result, x.f.slots, x.f.ins⟩, x.pv, x.iv, x.lo, x.hi⟩ :: C) := by
 obtain ⟨cu, hc, hB, hn, _⟩ := h.cur
 have hx := (h.ins x (List.mem_append_right _ List.mem_cons_self)).2.2
 refine h.upd (by rw [set_size]; exact Nat.le_refl _) ?_ rfl rfl ?_ fun z hz => ?_
 ·have h1 := own_set1 h.own (A.length * 5) (.string t)
  rw [cellsE_app, cellsE_cons, (set_at5 (cellsE_len A)).1] at h1
  rw [cellsE_app, cellsE_cons]
  have e : n = (A ++ ⟨⟨t, x.f.params, x.f.result, x.f.slots, x.f.ins⟩, x.pv, x.iv, x.lo, x.hi⟩ :: C).length := by rw [hn]; simp
  rw [e] at h1 ⊢
  exact h1
 ·exact ⟨(hx.setF hc).p, (hx.setF hc).i, hx.ph, hx.ih⟩
 ·have hz' : z ∈ A ++ x :: C := by
   rcases hz with hz | hz
   ·exact List.mem_append_left _ hz
   ·exact List.mem_append_right _ (List.mem_cons_of_mem _ hz)
  exact (h.ins z hz').2.2.setF hc
theorem OwnE.setRes {B g n cap : Nat} {W : World} {A C : List FnE} {x : FnE} (h : OwnE B W (.slice (some ⟨g, 0, none⟩) n cap) (A ++ x :: C)) (t : Int) : OwnE B (W.setCell ⟨g, A.length * 5 + 2, none⟩ (.int .i64 t)) (.slice (some ⟨g, 0, none⟩) n cap) (A ++ ⟨⟨x.f.name, x.f.params, t, x.f.slots, x.f.ins⟩, x.pv, x.iv, x.lo, x.hi⟩ :: C) := by
 obtain ⟨cu, hc, hB, hn, _⟩ := h.cur
 have hx := (h.ins x (List.mem_append_right _ List.mem_cons_self)).2.2
 refine h.upd (by rw [set_size]; exact Nat.le_refl _) ?_ rfl rfl ?_ fun z hz => ?_
 ·have h1 := own_set1 h.own (A.length * 5 + 2) (.int .i64 t)
  rw [cellsE_app, cellsE_cons, (set_at5 (cellsE_len A)).2.1] at h1
  rw [cellsE_app, cellsE_cons]
  have e : n = (A ++ ⟨⟨x.f.name, x.f.params, t, x.f.slots, x.f.ins⟩, x.pv, x.iv, x.lo, x.hi⟩ :: C).length := by rw [hn]; simp
  rw [e] at h1 ⊢
  exact h1
 ·exact ⟨(hx.setF hc).p, (hx.setF hc).i, hx.ph, hx.ih⟩
 ·have hz' : z ∈ A ++ x :: C := by
   rcases hz with hz | hz
   ·exact List.mem_append_left _ hz
   ·exact List.mem_append_right _ (List.mem_cons_of_mem _ hz)
  exact (h.ins z hz').2.2.setF hc
theorem OwnE.setSlots {B g n cap : Nat} {W : World} {A C : List FnE} {x : FnE} (h : OwnE B W (.slice (some ⟨g, 0, none⟩) n cap) (A ++ x :: C)) (t : Int) : OwnE B (W.setCell ⟨g, A.length * 5 + 3, none⟩ (.int .i64 t)) (.slice (some ⟨g, 0, none⟩) n cap) (A ++ ⟨⟨x.f.name, x.f.params, x.f.result, t, x.f.ins⟩, x.pv, x.iv, x.lo, x.hi⟩ :: C) := by
 obtain ⟨cu, hc, hB, hn, _⟩ := h.cur
 have hx := (h.ins x (List.mem_append_right _ List.mem_cons_self)).2.2
 refine h.upd (by rw [set_size]; exact Nat.le_refl _) ?_ rfl rfl ?_ fun z hz => ?_
 ·have h1 := own_set1 h.own (A.length * 5 + 3) (.int .i64 t)
  rw [cellsE_app, cellsE_cons, (set_at5 (cellsE_len A)).2.2] at h1
  rw [cellsE_app, cellsE_cons]
  have e : n = (A ++ ⟨⟨x.f.name, x.f.params, x.f.result, t, x.f.ins⟩, x.pv, x.iv, x.lo, x.hi⟩ :: C).length := by rw [hn]; simp
  rw [e] at h1 ⊢
  exact h1
 ·exact ⟨(hx.setF hc).p, (hx.setF hc).i, hx.ph, hx.ih⟩
 ·have hz' : z ∈ A ++ x :: C := by
   rcases hz with hz | hz
   ·exact List.mem_append_left _ hz
   ·exact List.mem_append_right _ (List.mem_cons_of_mem _ hz)
  exact (h.ins z hz').2.2.setF hc
theorem own_lo {B e k n : Nat} {W : World} {v : Value} {xs : List Value} (h : W.ownsRow B e k v n xs) : ∀ g, v.ownBlock = some g → B ≤ g := fun g hg => (h.lt g hg).1
theorem OwnE.apart {B : Nat} {W : World} {v : Value} {A C : List FnE} {x z : FnE} (h : OwnE B W v (A ++ x :: C)) (hz : z ∈ A ∨ z ∈ C) : z.hi ≤ x.lo ∨ x.hi ≤ z.lo := by
 have ha := h.asc
 rw [List.pairwise_append, List.pairwise_cons] at ha
 obtain ⟨h1, ⟨h2, h3⟩, h4⟩ := ha
 rcases hz with hz | hz
 ·exact .inl (h4 z hz x List.mem_cons_self)
 ·exact .inr (h2 z hz)
theorem OwnE.setPar {B : Nat} {W V : World} {v : Value} {A C : List FnE} {x : FnE} (h : OwnE B W v (A ++ x :: C)) (hg : W.grownBy V x.pv.ownBlock) {l : List Int} (hp : OwnI x.lo V x.pv l) : OwnE B V v (A ++ ⟨⟨x.f.name, l, x.f.result, x.f.slots, x.f.ins⟩, x.pv, x.iv, x.lo, x.hi⟩ :: C) := by
 have hx := (h.ins x (List.mem_append_right _ List.mem_cons_self)).2.2
 refine h.upd hg.size ?_ rfl rfl ⟨hp, own_otherT hx.i hx.p (by decide) hg, hx.ph, hx.ih⟩ fun z hz => ?_
 ·have h1 := own_otherT h.row hx.p (by decide) hg
  have e1 : (A ++ x :: C).length = (A ++ (⟨⟨x.f.name, l, x.f.result, x.f.slots, x.f.ins⟩, x.pv, x.iv, x.lo, x.hi⟩ : FnE) :: C).length := by simp
  have e2 : cellsE (A ++ x :: C) = cellsE (A ++ (⟨⟨x.f.name, l, x.f.result, x.f.slots, x.f.ins⟩, x.pv, x.iv, x.lo, x.hi⟩ : FnE) :: C) := by rw [cellsE_app, cellsE_cons, cellsE_app, cellsE_cons]
  rw [e1, e2] at h1
  exact h1
 ·have hz' : z ∈ A ++ x :: C := by
   rcases hz with hz | hz
   ·exact List.mem_append_left _ hz
   ·exact List.mem_append_right _ (List.mem_cons_of_mem _ hz)
  obtain ⟨_, _, hr⟩ := h.ins z hz'
  refine ⟨own_keepB hr.p fun g hgz => hg.block g (own_hi hr.p g hgz) fun e => ?_, own_otherT hr.i hx.p (by decide) hg, hr.ph, hr.ih⟩
  have a1 := own_lo hr.p g hgz
  have a2 := hr.ph g hgz
  have b1 := own_lo hx.p g e.symm
  have b2 := hx.ph g e.symm
  have := h.apart hz
  omega
theorem OwnE.setIns {B : Nat} {W V : World} {v : Value} {A C : List FnE} {x : FnE} (h : OwnE B W v (A ++ x :: C)) (hg : W.grownBy V x.iv.ownBlock) {l : List In} (hp : OwnN x.lo V x.iv l) : OwnE B V v (A ++ ⟨⟨x.f.name, x.f.params, x.f.result, x.f.slots, l⟩, x.pv, x.iv, x.lo, x.hi⟩ :: C) := by
 have hx := (h.ins x (List.mem_append_right _ List.mem_cons_self)).2.2
 refine h.upd hg.size ?_ rfl rfl ⟨own_otherT hx.p hx.i (by decide) hg, hp, hx.ph, hx.ih⟩ fun z hz => ?_
 ·have h1 := own_otherT h.row hx.i (by decide) hg
  have e1 : (A ++ x :: C).length = (A ++ (⟨⟨x.f.name, x.f.params, x.f.result, x.f.slots, l⟩, x.pv, x.iv, x.lo, x.hi⟩ : FnE) :: C).length := by simp
  have e2 : cellsE (A ++ x :: C) = cellsE (A ++ (⟨⟨x.f.name, x.f.params, x.f.result, x.f.slots, l⟩, x.pv, x.iv, x.lo, x.hi⟩ : FnE) :: C) := by rw [cellsE_app, cellsE_cons, cellsE_app, cellsE_cons]
  rw [e1, e2] at h1
  exact h1
 ·have hz' : z ∈ A ++ x :: C := by
   rcases hz with hz | hz
   ·exact List.mem_append_left _ hz
   ·exact List.mem_append_right _ (List.mem_cons_of_mem _ hz)
  obtain ⟨_, _, hr⟩ := h.ins z hz'
  refine ⟨own_otherT hr.p hx.i (by decide) hg, own_keepB hr.i fun g hgz => hg.block g (own_hi hr.i g hgz) fun e => ?_, hr.ph, hr.ih⟩
  have a1 := own_lo hr.i g hgz
  have a2 := hr.ih g hgz
  have b1 := own_lo hx.i g e.symm
  have b2 := hx.ih g e.symm
  have := h.apart hz
  omega
end Go.Proofs.YtcjgcipacfcjnaaGreatDoor.C.D
