import Derived.Test.YtfookokepnnmoaaDoorCards
import Derived.Test.YtfookokepnnmoaaDoorTie
import Derived.WalkKit
import Derived.ProofKit
import Derived.OpenShut
import Derived.Deep.DeepHandedRow
import Derived.Lib.LaidTab
import Derived.OpenVars
import Derived.Test.YtfookokepnnmoaaDoorJQuiet
import Derived.Test.YtfookokepnnmoaaDoorJUSz
namespace Go.Proofs.YtfookokepnnmoaaDoor
open Go.ChangeShapes Go.WideShapes Go.ChangeAt Go.RowKit
theorem own : ownKnob Tryd.prog.godebug = none := by kernel_rfl
theorem laidOut : laidOutB Tryd.prog = true := by kernel_rfl
theorem readV : Tryd.prog.readableRec 34 = true := by kernel_rfl
theorem gSO : Tryd.prog.globalNamed "loop.example/kilnyard/impl.claySizeOne" = some 0 := by kernel_rfl
theorem gSOType : (Tryd.prog.globals[0]?).map (·.type) = some 68 := by kernel_rfl
theorem cellsSO : Tryd.prog.cellsOf 68 = 2 := by kernel_rfl
theorem varsOk : varsRowed Tryd.prog ["loop.example/kilnyard/impl.claySizeOne"] = true := by kernel_rfl
/-- What the row's list gives. -/
theorem one_of_laid {W : World} (h : laidMetH Tryd.prog [("loop.example/kilnyard/impl.claySizeOne", Rows.laid_loop_example_kilnyard_impl_claySizeOne)] W) : One W := by
  have h1 : laidMet Tryd.prog [("loop.example/kilnyard/impl.claySizeOne", Rows.laid_loop_example_kilnyard_impl_claySizeOne)] W := h
  obtain ⟨ps, ⟨g', t', cs, fuel, p, q, hg', ht', hvar, hd, _, _⟩, _⟩ := h1
  obtain rfl := Option.some.inj (gSO.symm.trans hg')
  obtain rfl := Option.some.inj (gSOType.symm.trans ht')
  obtain ⟨xs, m, _, hxx, hl, hlen, hf⟩ := DataW.trod_struct Tryd.underlying68 hd
  rw [cellsSO] at hl
  obtain ⟨c0, c1, hcs⟩ : ∃ c0 c1, cs.toList = [c0, c1] := by
    match hh : cs.toList, hl with
    | [c0, c1], _ => exact ⟨c0, c1, rfl⟩
  obtain ⟨y0, y1, rfl⟩ : ∃ y0 y1, xs = [y0, y1] := by
    match xs, hlen with
    | [y0, y1], _ => exact ⟨y0, y1, rfl⟩
  have f0 := hf 0 _ rfl
  have f1 := hf 1 _ rfl
  rw [hcs] at f0 f1
  simp [cellsInt] at f0 f1
  obtain ⟨k0, e0, z0, _⟩ := DataW.trod_int Tryd.underlying3 f0
  obtain ⟨k1, e1, z1, _⟩ := DataW.trod_int Tryd.underlying3 f1
  subst z0 z1
  have hx1 := congrArg Prod.fst hxx
  simp [Rows.laid_loop_example_kilnyard_impl_claySizeOne] at hx1
  obtain ⟨rfl, rfl⟩ := hx1
  cases e0
  cases e1
  have e2 : cs = #[.int .i64 1, .int .i64 0] := by rw [← Array.toList_inj, hcs]
  unfold World.var? at hvar
  rw [gSO] at hvar
  simp only [Option.bind_some] at hvar
  split at hvar
  · rename_i cs' t fr hh
    cases hvar
    have hc : ∀ i, W.cell? ⟨0, i, none⟩ = cs[i]? := fun i => by unfold World.cell?; rw [hh]; rfl
    exact ⟨by rw [hc, e2]; rfl, by rw [hc, e2]; rfl, (Array.getElem?_eq_some_iff.1 hh).1⟩
  · cases hvar
def putCells (cs : Array Value) : Obj → Obj
  | .cells _ t frozen => .cells cs t frozen
  | o => o
def tabSO : Array Value := #[.int .i64 1, .int .i64 0]
def startIn : Input := ⟨#[], #[], []⟩
end Go.Proofs.YtfookokepnnmoaaDoor
