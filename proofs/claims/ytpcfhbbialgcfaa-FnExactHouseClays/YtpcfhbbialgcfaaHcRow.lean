import Derived.Test.YtpcfhbbialgcfaaRows
import Derived.Test.YtpcfhbbialgcfaaHcLaw
import Derived.Test.YtpcfhbbialgcfaaRkOp
import Derived.ProofKit
import Derived.Deep.Slices
/-! The row of FnExactHouseClays. Out of millplace PlPV. -/
namespace Go.Proofs.Ytpcfhbbialgcfaa.P
open Go.ChangeShapes Go.WideShapes Go.ChangeAt Go.RowKit Go.Deep
set_option maxRecDepth 20000
theorem ownV : ownKnob Try.prog.godebug = none := by kernel_rfl
theorem laidOutV : laidOutB Try.prog = true := by kernel_rfl
theorem readV0 : Try.prog.readableRec 24 = true := by kernel_rfl
theorem place_openV {H : Type} {enc : TypeId × Value → H} {W : World} {base : Nat} {v : Value} {d : DataW H} {ps : List MemPlace} (hv : Value.okWide Try.prog W .any base 24 v) (h : DataW.Trod enc Try.prog W 0 (fun _ => true) true 24 v d ps) :
    ∃ cv l, v = .agg #[cv] ∧ R.SFlA W cv l ∧ R.OkFlS l := by
  obtain ⟨cs, rfl, hsz⟩ := okWide_struct Try.underlying24 hv
  rw [R.cellsPl] at hsz
  obtain ⟨v0, rfl⟩ : ∃ v0, cs = #[v0] := by
    match cs, hsz with
    | ⟨[a]⟩, _ => exact ⟨a, rfl⟩
  obtain ⟨fuel, hf⟩ := h
  obtain ⟨x, c0, e, h1, h2⟩ := R.Pl_open hf
  simp [Value.cells] at e
  subst e
  exact ⟨_, x.files, rfl, h1, h2⟩
set_option maxHeartbeats 2000000 in
set_option maxRecDepth 100000 in
theorem liftedV (os : Os) (started : os.Started) (H : Type) (enc : TypeId × Value → H) :
    ReturnsInHanded {} Try.checked os 3 .any (Rows.fnExactHouseClaysSpec.pre6 enc Try.prog Try.f3 Rows.fnExactHouseClaysRow.domain false) (Rows.fnExactHouseClaysSpec.post enc Try.prog Try.f3 false true false false) := by
  refine returnsInHanded_of_change (C := Try.checked) ownV started (by kernel_rfl) Try.func3
    (ChangeSpec.witness6 (enc := enc) (C := Try.checked) false ⟨#[], #[.agg #[.slice none 0 0]], []⟩ 8 (by kernel_rfl) (by kernel_rfl) (by kernel_rfl) (by kernel_rfl)) ?_
  intro W base args ds gs before hval0 hW hcnd _
  have hval : ∀ (j : Nat) t v, Try.f3.params[j]? = some t → args[j]? = some v → Value.okWide Try.prog W .any base t v := hval0
  have hW' := hW
  obtain ⟨p, q, hA0, hV, rfl, hfz, hnd⟩ := hW
  have hA : DataW.TrodAll enc Try.prog W 0 (fun _ => true) true Try.f3.params.toList args.toList ds p := hA0
  rw [Try.params3] at hA hval
  obtain ⟨v0, vs0, d0, ds0, p0, q0, hargs, rfl, rfl, h0, r0⟩ := trodAll_cons hA
  obtain ⟨rfl, rfl, rfl⟩ := trodAll_nil r0
  obtain rfl : args = #[v0] := by cases args; simp_all
  obtain ⟨rfl, rfl⟩ := trodVars_none hV
  obtain ⟨cv, l, rfl, hF, hO⟩ := place_openV (hval 0 24 v0 rfl rfl) h0
  have hlt0 : ∀ x ∈ p0, x.block < W.heap.size := fun x hx => DataW.TrodAll.lt hA x (by simp [hx])
  clear hA0 hval0
  simp only [List.append_nil] at hW'
  refine (law_clays hF hO).mono fun e W' ⟨he, hnx⟩ => ?_
  subst he
  refine ⟨_, rfl, _, _, _, [], p0, [], hW', ?_, ?_, ?_, hnx.frame _, fun h => by cases h⟩
  · exact trodAll_mk1 (shut_bool Try.underlying4 _)
  · exact trodAll_mk1 (hnx.trod laidOutV readV0 (of_decide_eq_true (by kernel_rfl)) h0 hlt0)
  · rfl
end Go.Proofs.Ytpcfhbbialgcfaa.P
namespace Go.Proofs.Ytpcfhbbialgcfaa
open Go.ChangeShapes Go.WideShapes Go.ChangeAt Go.RowKit
theorem said_fnExactHouseClays : Rows.FnExactHouseClaysSaid :=
  OpenClaim.holds_of_wide 3 Try.f3 rfl rfl rfl rfl rfl rfl rfl ⟨rfl, rfl, rfl, rfl, rfl⟩ rfl rfl rfl rfl rfl (by kernel_rfl) Try.func3 (by kernel_rfl)
    (of_decide_eq_true (by kernel_rfl)) (by unfold Func.isWrapper; first | (rw [if_pos (by decide +kernel)]; kernel_rfl) | (rw [if_neg (by decide +kernel)]; exact ⟨rfl, rfl⟩))
    (fun os started H enc _ => P.liftedV os started H enc)
#print axioms said_fnExactHouseClays
end Go.Proofs.Ytpcfhbbialgcfaa
