import Derived.Test.YtpobfklbbkdglaaDoorCards
import Derived.Test.YtpobfklbbkdglaaDoorTie
import Derived.WalkKit
import Derived.ProofKit
import Derived.OpenShut
import Derived.Deep.DeepHandedRow
import Derived.Lib.LaidTab
import Derived.OpenVars
import Derived.Test.YtpobfklbbkdglaaDoorJScope
import Derived.Test.YtpobfklbbkdglaaDoorJTree
namespace Go.Proofs.YtpobfklbbkdglaaDoor
open Go.ChangeShapes Go.WideShapes Go.ChangeAt Go.RowKit
theorem own : ownKnob Tryd.prog.godebug = none := by kernel_rfl
theorem laidOut : laidOutB Tryd.prog = true := by kernel_rfl
theorem readT : Tryd.prog.readableRec 24 = true := by kernel_rfl
theorem gBN : Tryd.prog.globalNamed "loop.example/kilnyard/impl.clayBuiltNames" = some 0 := by kernel_rfl
theorem gBNType : (Tryd.prog.globals[0]?).map (·.type) = some 110 := by kernel_rfl
theorem cellsBN : Tryd.prog.cellsOf 110 = 15 := by kernel_rfl
theorem varsOk : varsRowed Tryd.prog ["loop.example/kilnyard/impl.clayBuiltNames"] = true := by kernel_rfl
/-- An array of strings that reads as these holds just these. -/
theorem cells_of_strs {H : Type} {enc : TypeId × Value → H} {P : Program} {w : World} {base : Nat} {sp : Nat → Bool} {held : Bool} {fuel : Nat} {t e : TypeId} {n : Nat} {cs : List Value} {zs : List (List UInt8)} {p : List MemPlace}
    (ht : P.underlying t = some (.array n e)) (he : P.underlying e = some .string) (hce : P.cellsOf e = 1) (hct : P.cellsOf t = n)
    (h : DataW.trod enc P w base sp held fuel t cs = some (.agg (zs.map fun z => .lit (.string z)), p)) : cs = zs.map fun z => Value.string ⟨z.toArray⟩ := by
  cases fuel with
  | zero => simp [DataW.trod] at h
  | succ fuel =>
    simp only [DataW.trod, ht, hce, hct, Nat.mul_one] at h
    split at h
    · rename_i hl
      obtain ⟨xs, hm, hx⟩ := Option.map_eq_some_iff.1 h
      have hxs : xs.map (·.1) = zs.map fun z => (DataW.lit (.string z) : DataW H) := by
        have := congrArg Prod.fst hx
        simpa using this
      have hxl : xs.length = n := by simpa using Lib.mapM_length hm
      have hzl : zs.length = n := by
        have := congrArg List.length hxs
        simp at this
        omega
      apply List.ext_getElem?
      intro i
      by_cases hi : i < n
      · obtain ⟨b, hb, hf⟩ := Lib.mapM_at hm i i (by simp [hi])
        obtain ⟨z, hc, rfl, _⟩ := DataW.trod_string he hf
        have h1 : cs[i]? = some (.string z) := by
          have := congrArg (·[0]?) hc
          simpa [List.getElem?_take, List.getElem?_drop] using this
        have h2 : (xs.map (·.1))[i]? = some (DataW.lit (.string z.data.toList) : DataW H) := by simp [hb]
        rw [hxs] at h2
        simp only [List.getElem?_map, Option.map_eq_some_iff, DataW.lit.injEq, Lit.string.injEq] at h2
        obtain ⟨z', hz', e⟩ := h2
        simp [h1, hz', e]
      · rw [List.getElem?_eq_none (by omega), List.getElem?_eq_none (by simp; omega)]
    · cases h
/-- What the row's list gives. -/
theorem env_of_laid {W : World} (h : laidMetH Tryd.prog [("loop.example/kilnyard/impl.clayBuiltNames", Rows.laid_loop_example_kilnyard_impl_clayBuiltNames)] W) : BEnv W := by
  have h1 : laidMet Tryd.prog [("loop.example/kilnyard/impl.clayBuiltNames", Rows.laid_loop_example_kilnyard_impl_clayBuiltNames)] W := h
  obtain ⟨ps, ⟨g', t', cs, fuel, p, q, hg', ht', hvar, hd, _, _⟩, _⟩ := h1
  obtain rfl := Option.some.inj (gBN.symm.trans hg')
  obtain rfl := Option.some.inj (gBNType.symm.trans ht')
  have e : cs.toList = builts.map fun z => Value.string ⟨z.toArray⟩ := cells_of_strs Tryd.underlying110 Tryd.underlying9 cellsStr cellsBN hd
  have e2 : cs = builtArr := by unfold builtArr; rw [← e]
  unfold World.var? at hvar
  rw [gBN] at hvar
  simp only [Option.bind_some] at hvar
  split at hvar
  · rename_i cs' t fr hh
    cases hvar
    exact ⟨t, fr, by rw [← e2]; exact hh⟩
  · cases hvar
def putCells (cs : Array Value) : Obj → Obj
  | .cells _ t frozen => .cells cs t frozen
  | o => o
def tabBN : Array Value := #[.string ⟨#[108, 101, 110]⟩, .string ⟨#[116, 101, 120, 116]⟩, .string ⟨#[105, 110, 116]⟩, .string ⟨#[114, 97, 110, 103, 101]⟩, .string ⟨#[115, 111, 114, 116, 101, 100]⟩, .string ⟨#[117, 110, 105, 113, 117, 101]⟩, .string ⟨#[106, 111, 105, 110]⟩, .string ⟨#[115, 112, 108, 105, 116]⟩, .string ⟨#[107, 101, 121, 115]⟩, .string ⟨#[114, 101, 99, 111, 114, 100]⟩, .string ⟨#[119, 105, 116, 104, 111, 117, 116]⟩, .string ⟨#[98, 101, 103, 105, 110, 115]⟩, .string ⟨#[99, 117, 116]⟩, .string ⟨#[102, 105, 108, 101, 115]⟩, .string ⟨#[102, 97, 105, 108]⟩]
def startIn : Input := ⟨#[], #[], []⟩
end Go.Proofs.YtpobfklbbkdglaaDoor
