import Derived.Test.YtpligndiomblhaaRows
import Derived.Test.YtpligndiomblhaaPlLawL
import Derived.Test.YtpligndiomblhaaRkOp
import Derived.ProofKit
import Derived.Deep.Slices
/-! The row of FnExactMillLay. Printed by gen_plp.py. -/
namespace Go.Proofs.Ytpligndiomblhaa.P
open Go.ChangeShapes Go.WideShapes Go.ChangeAt Go.RowKit Go.Deep
set_option maxRecDepth 20000
theorem ownL : ownKnob Try.prog.godebug = none := by kernel_rfl
theorem laidOutL : laidOutB Try.prog = true := by kernel_rfl
theorem readL0 : Try.prog.readableRec 24 = true := by kernel_rfl
theorem readL1 : Try.prog.readableRec 22 = true := by kernel_rfl
theorem place_openL {H : Type} {enc : TypeId × Value → H} {W : World} {base : Nat} {v : Value} {d : DataW H} {ps : List MemPlace} (hv : Value.okWide Try.prog W .any base 24 v) (h : DataW.Trod enc Try.prog W 0 (fun _ => true) true 24 v d ps) :
    ∃ cv l, v = .agg #[cv] ∧ R.SFlA W cv l ∧ R.OkFlS l := by
  obtain ⟨cs, rfl, hsz⟩ := okWide_struct Try.underlying24 hv
  rw [R.cellsPl] at hsz
  obtain ⟨v0, rfl⟩ : ∃ v0, cs = #[v0] := by
    match cs, hsz with
    | ⟨[a]⟩, _ => exact ⟨a, rfl⟩
  obtain ⟨fuel, hf⟩ := h
  obtain ⟨x, c0, e, h1, h2⟩ := R.Pl_open hf
  simp [Value.cells] at e
  subst e
  exact ⟨_, x.files, rfl, h1, h2⟩
theorem files_open {H : Type} {enc : TypeId × Value → H} {W : World} {base : Nat} {v : Value} {d : DataW H} {ps : List MemPlace} (hv : Value.okWide Try.prog W .any base 22 v) (h : DataW.Trod enc Try.prog W 0 (fun _ => true) true 22 v d ps) : ∃ ls, R.SFlA W v ls ∧ R.OkFlS ls := by
  obtain ⟨a1, n1, c1, rfl⟩ := okWide_slice Try.underlying22 hv
  obtain ⟨fuel, hf⟩ := h
  have hf' : DataW.trod enc Try.prog W 0 (fun _ => true) true fuel 22 [.slice a1 n1 c1] = some (d, ps) := hf
  exact R.SFl_open hf'
set_option maxHeartbeats 2000000 in
set_option maxRecDepth 100000 in
theorem liftedL (os : Os) (started : os.Started) (H : Type) (enc : TypeId × Value → H) :
    ReturnsInHanded {} Try.checked os 6 .any (Rows.fnExactMillLaySpec.pre6 enc Try.prog Try.f6 Rows.fnExactMillLayRow.domain false) (Rows.fnExactMillLaySpec.post enc Try.prog Try.f6 false true false false) := by
  refine returnsInHanded_of_change (C := Try.checked) ownL started (by kernel_rfl) Try.func6
    (ChangeSpec.witness6 (enc := enc) (C := Try.checked) false ⟨#[], #[.agg #[.slice none 0 0], .slice none 0 0], []⟩ 8 (by kernel_rfl) (by kernel_rfl) (by kernel_rfl) (by kernel_rfl)) ?_
  intro W base args ds gs before hval0 hW hcnd _
  have hval : ∀ (j : Nat) t v, Try.f6.params[j]? = some t → args[j]? = some v → Value.okWide Try.prog W .any base t v := hval0
  have hW' := hW
  obtain ⟨p, q, hA0, hV, rfl, hfz, hnd⟩ := hW
  have hA : DataW.TrodAll enc Try.prog W 0 (fun _ => true) true Try.f6.params.toList args.toList ds p := hA0
  rw [Try.params6] at hA hval
  obtain ⟨v0, vs0, d0, ds0, p0, q0, hargs, rfl, rfl, h0, r0⟩ := trodAll_cons hA
  obtain ⟨v1, vs1, d1, ds1, p1, q1, rfl, rfl, rfl, h1, r1⟩ := trodAll_cons r0
  obtain ⟨rfl, rfl, rfl⟩ := trodAll_nil r1
  obtain rfl : args = #[v0, v1] := by cases args; simp_all
  obtain ⟨rfl, rfl⟩ := trodVars_none hV
  obtain ⟨cv, l, rfl, hF, hO⟩ := place_openL (hval 0 24 v0 rfl rfl) h0
  obtain ⟨ls, hF1, hO1⟩ := files_open (hval 1 22 v1 rfl rfl) h1
  have hlt0 : ∀ x ∈ p0, x.block < W.heap.size := fun x hx => DataW.TrodAll.lt hA x (by simp [hx])
  have hlt1 : ∀ x ∈ p1, x.block < W.heap.size := fun x hx => DataW.TrodAll.lt hA x (by simp [hx])
  clear hA0 hval0
  simp only [List.append_nil] at hW'
  refine (law_lay hF hO hF1 hO1).mono fun e W' ⟨he, hnx⟩ => ?_
  subst he
  refine ⟨_, rfl, _, _, _, [], p0 ++ (p1), [], hW', ?_, ?_, ?_, hnx.frame _, fun h => by cases h⟩
  · exact trodAll_mk1 (shut_bool Try.underlying4 _)
  · exact trodAll_mk2 (hnx.trod laidOutL readL0 (of_decide_eq_true (by kernel_rfl)) h0 hlt0) (hnx.trod laidOutL readL1 (of_decide_eq_true (by kernel_rfl)) h1 hlt1)
  · rfl
end Go.Proofs.Ytpligndiomblhaa.P
namespace Go.Proofs.Ytpligndiomblhaa
open Go.ChangeShapes Go.WideShapes Go.ChangeAt Go.RowKit
theorem said_fnExactMillLay : Rows.FnExactMillLaySaid :=
  OpenClaim.holds_of_wide 6 Try.f6 rfl rfl rfl rfl rfl rfl rfl ⟨rfl, rfl, rfl, rfl, rfl⟩ rfl rfl rfl rfl rfl (by kernel_rfl) Try.func6 (by kernel_rfl)
    (of_decide_eq_true (by kernel_rfl)) (by unfold Func.isWrapper; first | (rw [if_pos (by decide +kernel)]; kernel_rfl) | (rw [if_neg (by decide +kernel)]; exact ⟨rfl, rfl⟩))
    (fun os started H enc _ => P.liftedL os started H enc)
#print axioms said_fnExactMillLay
end Go.Proofs.Ytpligndiomblhaa
