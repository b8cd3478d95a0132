import Derived.Test.YtpligndiomblhaaRows
import Derived.Test.YtpligndiomblhaaPlLawH
import Derived.Test.YtpligndiomblhaaRkOp
import Derived.ProofKit
import Derived.Deep.Slices
/-! The row of FnExactMillHolds. Printed by gen_plp.py. -/
namespace Go.Proofs.Ytpligndiomblhaa.P
open Go.ChangeShapes Go.WideShapes Go.ChangeAt Go.RowKit Go.Deep
set_option maxRecDepth 20000
theorem ownH : ownKnob Try.prog.godebug = none := by kernel_rfl
theorem laidOutH : laidOutB Try.prog = true := by kernel_rfl
theorem readH0 : Try.prog.readableRec 24 = true := by kernel_rfl
theorem readH1 : Try.prog.readableRec 38 = true := by kernel_rfl
theorem place_openH {H : Type} {enc : TypeId × Value → H} {W : World} {base : Nat} {v : Value} {d : DataW H} {ps : List MemPlace} (hv : Value.okWide Try.prog W .any base 24 v) (h : DataW.Trod enc Try.prog W 0 (fun _ => true) true 24 v d ps) :
    ∃ cv l, v = .agg #[cv] ∧ R.SFlA W cv l ∧ R.OkFlS l := by
  obtain ⟨cs, rfl, hsz⟩ := okWide_struct Try.underlying24 hv
  rw [R.cellsPl] at hsz
  obtain ⟨v0, rfl⟩ : ∃ v0, cs = #[v0] := by
    match cs, hsz with
    | ⟨[a]⟩, _ => exact ⟨a, rfl⟩
  obtain ⟨fuel, hf⟩ := h
  obtain ⟨x, c0, e, h1, h2⟩ := R.Pl_open hf
  simp [Value.cells] at e
  subst e
  exact ⟨_, x.files, rfl, h1, h2⟩
theorem seen_open {H : Type} {enc : TypeId × Value → H} {W : World} {base : Nat} {v : Value} {d : DataW H} {ps : List MemPlace} (hv : Value.okWide Try.prog W .any base 38 v) (h : DataW.Trod enc Try.prog W 0 (fun _ => true) true 38 v d ps) : ∃ ls, R.SSnA W v ls ∧ R.OkSnS ls := by
  obtain ⟨a1, n1, c1, rfl⟩ := okWide_slice Try.underlying38 hv
  obtain ⟨fuel, hf⟩ := h
  have hf' : DataW.trod enc Try.prog W 0 (fun _ => true) true fuel 38 [.slice a1 n1 c1] = some (d, ps) := hf
  exact R.SSn_open hf'
set_option maxHeartbeats 2000000 in
set_option maxRecDepth 100000 in
theorem liftedH (os : Os) (started : os.Started) (H : Type) (enc : TypeId × Value → H) :
    ReturnsInHanded {} Try.checked os 5 .any (Rows.fnExactMillHoldsSpec.pre6 enc Try.prog Try.f5 Rows.fnExactMillHoldsRow.domain false) (Rows.fnExactMillHoldsSpec.post enc Try.prog Try.f5 false true false false) := by
  refine returnsInHanded_of_change (C := Try.checked) ownH started (by kernel_rfl) Try.func5
    (ChangeSpec.witness6 (enc := enc) (C := Try.checked) false ⟨#[], #[.agg #[.slice none 0 0], .slice none 0 0], []⟩ 8 (by kernel_rfl) (by kernel_rfl) (by kernel_rfl) (by kernel_rfl)) ?_
  intro W base args ds gs before hval0 hW hcnd _
  have hval : ∀ (j : Nat) t v, Try.f5.params[j]? = some t → args[j]? = some v → Value.okWide Try.prog W .any base t v := hval0
  have hW' := hW
  obtain ⟨p, q, hA0, hV, rfl, hfz, hnd⟩ := hW
  have hA : DataW.TrodAll enc Try.prog W 0 (fun _ => true) true Try.f5.params.toList args.toList ds p := hA0
  rw [Try.params5] at hA hval
  obtain ⟨v0, vs0, d0, ds0, p0, q0, hargs, rfl, rfl, h0, r0⟩ := trodAll_cons hA
  obtain ⟨v1, vs1, d1, ds1, p1, q1, rfl, rfl, rfl, h1, r1⟩ := trodAll_cons r0
  obtain ⟨rfl, rfl, rfl⟩ := trodAll_nil r1
  obtain rfl : args = #[v0, v1] := by cases args; simp_all
  obtain ⟨rfl, rfl⟩ := trodVars_none hV
  obtain ⟨cv, l, rfl, hF, hO⟩ := place_openH (hval 0 24 v0 rfl rfl) h0
  obtain ⟨ls, hF1, hO1⟩ := seen_open (hval 1 38 v1 rfl rfl) h1
  have hlt0 : ∀ x ∈ p0, x.block < W.heap.size := fun x hx => DataW.TrodAll.lt hA x (by simp [hx])
  have hlt1 : ∀ x ∈ p1, x.block < W.heap.size := fun x hx => DataW.TrodAll.lt hA x (by simp [hx])
  clear hA0 hval0
  simp only [List.append_nil] at hW'
  refine (law_holds hF hO hF1 hO1).mono fun e W' ⟨he, hnx⟩ => ?_
  subst he
  refine ⟨_, rfl, _, _, _, [], p0 ++ (p1), [], hW', ?_, ?_, ?_, hnx.frame _, fun h => by cases h⟩
  · exact trodAll_mk1 (shut_bool Try.underlying4 _)
  · exact trodAll_mk2 (hnx.trod laidOutH readH0 (of_decide_eq_true (by kernel_rfl)) h0 hlt0) (hnx.trod laidOutH readH1 (of_decide_eq_true (by kernel_rfl)) h1 hlt1)
  · rfl
end Go.Proofs.Ytpligndiomblhaa.P
namespace Go.Proofs.Ytpligndiomblhaa
open Go.ChangeShapes Go.WideShapes Go.ChangeAt Go.RowKit
theorem said_fnExactMillHolds : Rows.FnExactMillHoldsSaid :=
  OpenClaim.holds_of_wide 5 Try.f5 rfl rfl rfl rfl rfl rfl rfl ⟨rfl, rfl, rfl, rfl, rfl⟩ rfl rfl rfl rfl rfl (by kernel_rfl) Try.func5 (by kernel_rfl)
    (of_decide_eq_true (by kernel_rfl)) (by unfold Func.isWrapper; first | (rw [if_pos (by decide +kernel)]; kernel_rfl) | (rw [if_neg (by decide +kernel)]; exact ⟨rfl, rfl⟩))
    (fun os started H enc _ => P.liftedH os started H enc)
#print axioms said_fnExactMillHolds
end Go.Proofs.Ytpligndiomblhaa
