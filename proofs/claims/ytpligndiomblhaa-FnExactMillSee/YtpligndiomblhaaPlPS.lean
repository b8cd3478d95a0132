import Derived.Test.YtpligndiomblhaaRows
import Derived.Test.YtpligndiomblhaaPlLawS
import Derived.Test.YtpligndiomblhaaRkOp
import Derived.ProofKit
import Derived.Deep.Slices
/-! The row of FnExactMillSee. Printed by gen_plp.py. -/
namespace Go.Proofs.Ytpligndiomblhaa.P
open Go.ChangeShapes Go.WideShapes Go.ChangeAt Go.RowKit Go.Deep
set_option maxRecDepth 20000
theorem ownS : ownKnob Try.prog.godebug = none := by kernel_rfl
theorem laidOutS : laidOutB Try.prog = true := by kernel_rfl
theorem readS0 : Try.prog.readableRec 24 = true := by kernel_rfl
theorem readS1 : Try.prog.readableRec 3 = true := by kernel_rfl
theorem readS2 : Try.prog.readableRec 9 = true := by kernel_rfl
theorem place_openS {H : Type} {enc : TypeId × Value → H} {W : World} {base : Nat} {v : Value} {d : DataW H} {ps : List MemPlace} (hv : Value.okWide Try.prog W .any base 24 v) (h : DataW.Trod enc Try.prog W 0 (fun _ => true) true 24 v d ps) :
    ∃ cv l, v = .agg #[cv] ∧ R.SFlA W cv l ∧ R.OkFlS l := by
  obtain ⟨cs, rfl, hsz⟩ := okWide_struct Try.underlying24 hv
  rw [R.cellsPl] at hsz
  obtain ⟨v0, rfl⟩ : ∃ v0, cs = #[v0] := by
    match cs, hsz with
    | ⟨[a]⟩, _ => exact ⟨a, rfl⟩
  obtain ⟨fuel, hf⟩ := h
  obtain ⟨x, c0, e, h1, h2⟩ := R.Pl_open hf
  simp [Value.cells] at e
  subst e
  exact ⟨_, x.files, rfl, h1, h2⟩
theorem str_open {H : Type} {enc : TypeId × Value → H} {W : World} {base : Nat} {v : Value} {d : DataW H} {ps : List MemPlace} (hv : Value.okWide Try.prog W .any base 9 v) (h : DataW.Trod enc Try.prog W 0 (fun _ => true) true 9 v d ps) : ∃ s, v = .string s ∧ s.size ≤ maxLen := by
  obtain ⟨s, rfl⟩ := okWide_string Try.underlying9 hv
  obtain ⟨fuel, hf⟩ := h
  obtain ⟨x, e, _, hx⟩ := DataW.trod_string Try.underlying9 hf
  simp [Value.cells] at e
  subst e
  exact ⟨_, rfl, hx⟩
set_option maxHeartbeats 2000000 in
set_option maxRecDepth 100000 in
theorem liftedS (os : Os) (started : os.Started) (H : Type) (enc : TypeId × Value → H) :
    ReturnsInHanded {} Try.checked os 4 .any (Rows.fnExactMillSeeSpec.pre6 enc Try.prog Try.f4 Rows.fnExactMillSeeRow.domain false) (Rows.fnExactMillSeeSpec.post enc Try.prog Try.f4 false true false false) := by
  refine returnsInHanded_of_change (C := Try.checked) ownS started (by kernel_rfl) Try.func4
    (ChangeSpec.witness6 (enc := enc) (C := Try.checked) false ⟨#[], #[.agg #[.slice none 0 0], .int .i64 0, .string ⟨#[]⟩], []⟩ 8 (by kernel_rfl) (by kernel_rfl) (by kernel_rfl) (by kernel_rfl)) ?_
  intro W base args ds gs before hval0 hW hcnd _
  have hval : ∀ (j : Nat) t v, Try.f4.params[j]? = some t → args[j]? = some v → Value.okWide Try.prog W .any base t v := hval0
  have hW' := hW
  obtain ⟨p, q, hA0, hV, rfl, hfz, hnd⟩ := hW
  have hA : DataW.TrodAll enc Try.prog W 0 (fun _ => true) true Try.f4.params.toList args.toList ds p := hA0
  rw [Try.params4] at hA hval
  obtain ⟨v0, vs0, d0, ds0, p0, q0, hargs, rfl, rfl, h0, r0⟩ := trodAll_cons hA
  obtain ⟨v1, vs1, d1, ds1, p1, q1, rfl, rfl, rfl, h1, r1⟩ := trodAll_cons r0
  obtain ⟨v2, vs2, d2, ds2, p2, q2, rfl, rfl, rfl, h2, r2⟩ := trodAll_cons r1
  obtain ⟨rfl, rfl, rfl⟩ := trodAll_nil r2
  obtain rfl : args = #[v0, v1, v2] := by cases args; simp_all
  obtain ⟨rfl, rfl⟩ := trodVars_none hV
  obtain ⟨cv, l, rfl, hF, hO⟩ := place_openS (hval 0 24 v0 rfl rfl) h0
  obtain ⟨k1, rfl, _, _, hk1⟩ := open_int Try.underlying3 (hval 1 3 v1 rfl rfl) h1
  obtain ⟨s2, rfl, hs2⟩ := str_open (hval 2 9 v2 rfl rfl) h2
  have hlt0 : ∀ x ∈ p0, x.block < W.heap.size := fun x hx => DataW.TrodAll.lt hA x (by simp [hx])
  have hlt1 : ∀ x ∈ p1, x.block < W.heap.size := fun x hx => DataW.TrodAll.lt hA x (by simp [hx])
  have hlt2 : ∀ x ∈ p2, x.block < W.heap.size := fun x hx => DataW.TrodAll.lt hA x (by simp [hx])
  clear hA0 hval0
  simp only [List.append_nil] at hW'
  refine (law_see k1 s2 hF hO hs2).mono fun e W' ⟨he, hnx⟩ => ?_
  subst he
  refine ⟨_, rfl, _, _, _, [], p0 ++ (p1 ++ (p2)), [], hW', ?_, ?_, ?_, hnx.frame _, fun h => by cases h⟩
  · exact trodAll_mk1 (shut_bool Try.underlying4 _)
  · exact trodAll_mk3 (hnx.trod laidOutS readS0 (of_decide_eq_true (by kernel_rfl)) h0 hlt0) (hnx.trod laidOutS readS1 (of_decide_eq_true (by kernel_rfl)) h1 hlt1) (hnx.trod laidOutS readS2 (of_decide_eq_true (by kernel_rfl)) h2 hlt2)
  · rfl
end Go.Proofs.Ytpligndiomblhaa.P
namespace Go.Proofs.Ytpligndiomblhaa
open Go.ChangeShapes Go.WideShapes Go.ChangeAt Go.RowKit
theorem said_fnExactMillSee : Rows.FnExactMillSeeSaid :=
  OpenClaim.holds_of_wide 4 Try.f4 rfl rfl rfl rfl rfl rfl rfl ⟨rfl, rfl, rfl, rfl, rfl⟩ rfl rfl rfl rfl rfl (by kernel_rfl) Try.func4 (by kernel_rfl)
    (of_decide_eq_true (by kernel_rfl)) (by unfold Func.isWrapper; first | (rw [if_pos (by decide +kernel)]; kernel_rfl) | (rw [if_neg (by decide +kernel)]; exact ⟨rfl, rfl⟩))
    (fun os started H enc _ => P.liftedS os started H enc)
#print axioms said_fnExactMillSee
end Go.Proofs.Ytpligndiomblhaa
