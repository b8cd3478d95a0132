import Derived.Test.YtabefhpgeaihgaaGreatDoorCards
import Derived.Test.YtabefhpgeaihgaaGreatDoorTie
import Derived.WalkKit
import Derived.ProofKit
import Derived.Deep.Slices
import Derived.OpenShut
import Derived.Shelf.Vars
import Derived.Deep.DeepHandedRow
import Derived.OpenVars
import Derived.Stop.LaidErr
import Derived.Lib.LaidTab
import Derived.Test.YtabefhpgeaihgaaGreatDoorJ45
import Derived.Test.YtabefhpgeaihgaaGreatDoorJ03
/-! What came in: a row of values; the variables that the law's row lists. -/
namespace Go.Proofs.YtabefhpgeaihgaaGreatDoor.V
open Go.ChangeShapes Go.WideShapes Go.ChangeAt Go.RowKit Go.Deep
set_option maxRecDepth 20000
theorem vadd_one (a : Addr) (n : Nat) (h : n ≠ 0) : a.add n = ⟨a.block, a.off + n, none⟩ := by unfold Addr.add; rw [if_neg h]
def sgD {H : Type} (z : Option (List Int) × Int) : DataW H := .agg [match z.1 with | none => .nil | some l => .slice (lits .i64 l) [], .lit (.int .i64 z.2)]
theorem lits_inj {H : Type} {k : IntKind} : ∀ {l l' : List Int}, (lits k l : List (DataW H)) = lits k l' → l = l'
  | [], [], _ => rfl
  | [], _ :: _, h => by simp [lits] at h
  | _ :: _, [], h => by simp [lits] at h
  | x :: l, y :: l', h => by
    simp only [lits, List.map_cons, List.cons.injEq, DataW.lit.injEq, Lit.int.injEq, true_and] at h
    rw [h.1, lits_inj (k := k) (H := H) h.2]
/-- An array of rows of numbers, each with a number. -/
theorem signs_of {H : Type} {enc : TypeId × Value → H} {P : Program} {w : World} {base : Nat} {held : Bool} {fuel : Nat} {t e ei : TypeId} {n : Nat} {cs : List Value} {zs : List (Option (List Int) × Int)} {p : List MemPlace} {fs : Array Field} {f0 f : Field}
    (ht : P.underlying t = some (.array n e)) (he : P.underlying e = some (.struct fs)) (hfs : fs.size = 2) (hf0 : fs[0]? = some f0) (hfo0 : f0.offset = 0) (hf1 : fs[1]? = some f) (hfo : f.offset = 1)
    (hsl : P.underlying f0.type = some (.slice ei)) (hei : P.underlying ei = some (.int .i64)) (hcei : P.cellsOf ei = 1) (hcf0 : P.cellsOf f0.type = 1) (hfi : P.underlying f.type = some (.int .i64)) (hcf : P.cellsOf f.type = 1) (hce : P.cellsOf e = 2)
    (h : DataW.trod enc P w base (fun _ => true) held fuel t cs = some (.agg (zs.map sgD), p)) : ∀ (i : Nat) (l : List Int) (z : Int), zs[i]? = some (some l, z) →
      cs[i * 2 + 1]? = some (.int .i64 z) ∧ ∃ a : Addr, cs[i * 2]? = some (.slice (some a) l.length l.length) ∧ ∀ k, k < l.length → w.cell? (a.add k) = some (.int .i64 (l.getD k 0)) := by
  obtain ⟨xs, m, rfl, hx, _, hl, hel⟩ := DataW.trod_array ht h
  have hxs : xs.map (·.1) = zs.map sgD := by
    have := congrArg Prod.fst hx
    simpa using this.symm
  have hzl : zs.length = n := by
    have := congrArg List.length hxs
    simp at this
    omega
  intro i l z hz
  have hi : i < n := by
    have := (List.getElem?_eq_some_iff.1 hz).1
    omega
  have e1 := hel i hi
  rw [hce] at e1
  obtain ⟨b, hb⟩ : ∃ b, xs[i]? = some b := ⟨xs[i]'(by omega), List.getElem?_eq_getElem (by omega)⟩
  rw [hb] at e1
  have hb1 : b.1 = sgD (some l, z) := by
    have := congrArg (·[i]?) hxs
    simpa [hb, hz] using this
  obtain ⟨ys, m2, _, hbx, _, hyl, hyf⟩ := DataW.trod_struct he e1
  have g0 := hyf 0 f0 hf0
  rw [hfo0, hcf0] at g0
  have g1 := hyf 1 f hf1
  rw [hfo, hcf] at g1
  obtain ⟨y0, hy0⟩ : ∃ y, ys[0]? = some y := ⟨ys[0]'(by omega), List.getElem?_eq_getElem (by omega)⟩
  obtain ⟨y, hy⟩ : ∃ y, ys[1]? = some y := ⟨ys[1]'(by omega), List.getElem?_eq_getElem (by omega)⟩
  rw [hy] at g1
  rw [hy0] at g0
  obtain ⟨v, hv, hyv, _⟩ := DataW.trod_int hfi g1
  rw [hbx] at hb1
  simp only [sgD, DataW.agg.injEq] at hb1
  have hv2 : v = z := by
    have := congrArg (·[1]?) hb1
    simpa [hy, hyv] using this
  subst hv2
  have hs0 : y0.1 = DataW.slice (lits .i64 l) [] := by
    have := congrArg (·[0]?) hb1
    simpa [hy0] using this
  refine ⟨?_, ?_⟩
  · have := congrArg (·[0]?) hv
    simpa [List.getElem?_take, List.getElem?_drop] using this
  · rcases open_ints hsl hei hcei g0 with ⟨_, h2⟩ | ⟨a, len, cap, ns, e2, _, hlc, _, hlen, h2, hcell, _⟩
    · rw [h2] at hs0; cases hs0
    · rw [h2] at hs0
      simp only [DataW.slice.injEq] at hs0
      have h3 := lits_inj hs0.1
      have h4 : ns.drop len = [] := by
        have := hs0.2
        simpa [lits] using this
      simp only [if_true] at hlen
      have h5 : ns.length ≤ len := by simpa using h4
      have h6 : ns.take len = ns := List.take_of_length_le h5
      rw [h6] at h3
      subst h3
      obtain rfl : cap = ns.length := by omega
      obtain rfl : len = ns.length := by omega
      refine ⟨a, ?_, hcell⟩
      have := congrArg (·[0]?) e2
      simpa [List.getElem?_take, List.getElem?_drop] using this
theorem gSG : Tryz.prog.globalNamed "loop.example/kilnyard/impl.millBuiltSigns" = some 4 := by kernel_rfl
theorem gSGType : (Tryz.prog.globals[4]?).map (·.type) = some 120 := by kernel_rfl
theorem cellsSG : Tryz.prog.cellsOf 119 = 2 := by kernel_rfl
theorem cellsSl : Tryz.prog.cellsOf 83 = 1 := by kernel_rfl
def signs : List (Option (List Int) × Int) := [(none, 0), (some [2], 2), (some [2], 1), (some [2], 2), (some [2, 2], 2), (none, 2), (some [2], 10), (some [2, 10], 3), (some [2, 10, 10], 2), (some [2, 2], 10), (some [3], 2), (some [-1], 2), (some [2], 10)]
theorem vlt {W : World} {p : Addr} {v : Value} (h : W.cell? p = some v) : p.block < W.heap.size := by
  unfold World.cell? at h
  rcases Nat.lt_or_ge p.block W.heap.size with hl | hl
  · exact hl
  · rw [Array.getElem?_eq_none hl] at h; cases h
theorem envG_of {W : World} {r : List (String × DataW Unit)} (h : laidMet Tryz.prog (("loop.example/kilnyard/impl.millBuiltSigns", Rows.laid_loop_example_kilnyard_impl_millBuiltSigns) :: r) W) : EnvG W := by
  obtain ⟨ps, ⟨g', t', cs, fuel, p, q, hg', ht', hvar, hd, _, _⟩, _⟩ := h
  obtain rfl := Option.some.inj (gSG.symm.trans hg')
  obtain rfl := Option.some.inj (gSGType.symm.trans ht')
  have hc := signs_of (zs := signs) Tryz.underlying120 Tryz.underlying119 rfl rfl rfl rfl rfl Tryz.underlying83 Tryz.underlying3 cellsInt cellsSl Tryz.underlying3 cellsInt cellsSG hd
  unfold World.var? at hvar
  rw [gSG] at hvar
  simp only [Option.bind_some] at hvar
  split at hvar
  · rename_i cs' t fr hh
    cases hvar
    have hcell : ∀ i, W.cell? ⟨4, i, none⟩ = cs[i]? := fun i => by
      unfold World.cell?
      rw [hh]; rfl
    have hk : ∀ (i : Nat) (l : List Int) (z : Int), signs[i]? = some (some l, z) → 0 < l.length → ∃ ka : Addr, W.cell? ⟨4, i * 2, none⟩ = some (.slice (some ka) l.length l.length) ∧ W.cell? ⟨4, i * 2 + 1, none⟩ = some (.int .i64 z) ∧ ka.block < W.heap.size ∧ IntsA W ka l := fun i l z hz hl => by
      obtain ⟨h1, a, h2, h3⟩ := hc i l z hz
      refine ⟨a, ?_, ?_, ?_, h3⟩
      · rw [hcell]; simpa using h2
      · rw [hcell]; simpa using h1
      · have := vlt (h3 0 hl); rwa [vadd_block] at this
    refine ⟨(Array.getElem?_eq_some_iff.1 hh).1, fun op h6 h12 => ?_⟩
    obtain rfl | rfl | rfl | rfl | rfl | rfl | rfl : op = 6 ∨ op = 7 ∨ op = 8 ∨ op = 9 ∨ op = 10 ∨ op = 11 ∨ op = 12 := by omega
    · exact hk 6 [2] 10 rfl (by decide)
    · exact hk 7 [2, 10] 3 rfl (by decide)
    · exact hk 8 [2, 10, 10] 2 rfl (by decide)
    · exact hk 9 [2, 2] 10 rfl (by decide)
    · exact hk 10 [3] 2 rfl (by decide)
    · exact hk 11 [-1] 2 rfl (by decide)
    · exact hk 12 [2] 10 rfl (by decide)
  · cases hvar
end Go.Proofs.YtabefhpgeaihgaaGreatDoor.V
