import Derived.Test.YtmhcmbhhcmmakaaDoorCBase
import Derived.Test.YtmhcmbhhcmmakaaDoorLOrd
namespace Go.Proofs.YtmhcmbhhcmmakaaDoor
open Go.ChangeShapes Go.WideShapes Go.ChangeAt Go.RowKit
set_option maxRecDepth 100000 in
theorem contract_fnExactClayOrder (H : Type) (enc : TypeId × Value → H) (W : World) (base : Nat) (args : Array Value) (ds gs : List (DataW H)) (before : List MemPlace)
    (hval : ∀ (j : Nat) t v, Tryd.f4.params[j]? = some t → args[j]? = some v → Value.okWide Tryd.prog W .any base t v)
    (hW : DataW.Whole enc Tryd.prog Tryd.f4.params.toList Rows.fnExactClayOrderSpec.vars false W args.toList ds gs before) (hL : laidMetH Tryd.prog Rows.fnExactClayOrderRow.laid W) :
    Calls Tryd.prog 4 args W fun e W' => ∃ v, e = .returned v ∧ Rows.fnExactClayOrderSpec.post enc Tryd.prog Tryd.f4 false true false false W args v W' := by
  have hW' := hW
  obtain ⟨p, q, hA0, hV, rfl, hfz, hnd⟩ := hW
  have hA : DataW.TrodAll enc Tryd.prog W 0 (fun _ => true) true Tryd.f4.params.toList args.toList ds p := hA0
  rw [Tryd.params4] at hA hval
  obtain ⟨v0, vs0, d0, ds0, p0, q0, hargs, rfl, rfl, h0, r0⟩ := trodAll_cons hA
  obtain ⟨v1, vs1, d1, ds1, p1, q1, rfl, rfl, rfl, h1, r1⟩ := trodAll_cons r0
  obtain ⟨rfl, rfl, rfl⟩ := trodAll_nil r1
  obtain rfl : args = #[v0, v1] := by cases args; simp_all
  obtain ⟨ad, l, N, cap, rfl, hl, hN, hn, ht⟩ := value_open (hval 0 24 v0 rfl rfl) h0
  obtain ⟨ad', l', N', cap', rfl, hl', hN', hn', ht'⟩ := value_open (hval 1 24 v1 rfl rfl) h1
  have hlt : ∀ x ∈ p0, x.block < W.heap.size := fun x hx => DataW.TrodAll.lt hA x (by simp [hx])
  have hlt' : ∀ x ∈ p1, x.block < W.heap.size := fun x hx => DataW.TrodAll.lt hA x (by simp [hx])
  clear hA0
  obtain ⟨g1, hg1⟩ : ∃ g1, gs = [g1] := by
    obtain ⟨_, _, _, _, d, _, e, _⟩ := trodVars_one hV
    exact ⟨d, e⟩
  subst hg1
  simp only [List.append_nil] at hW'
  refine (law_order ad ad' l l' N cap N' cap' W (one_of_laid hL) hl hl' hN hN' hn hn' ht ht').mono fun e W' ⟨he, hnx⟩ => ?_
  subst he
  refine ⟨_, rfl, _, _, _, [], p0 ++ p1, q, hW', ?_, ?_, ?_, hnx.frame _, fun h => by cases h⟩
  · exact trodAll_mk1 (shut_bool Tryd.underlying4 _)
  · exact trodAll_mk2 (hnx.trod laidOut readV (of_decide_eq_true (by kernel_rfl)) h0 hlt) (hnx.trod laidOut readV (of_decide_eq_true (by kernel_rfl)) h1 hlt')
  · exact hnx.trodVars laidOut varsOk hV
theorem laid_met_fnExactClayOrder (os : Os) : laidMet Tryd.prog Rows.fnExactClayOrderRow.laid (({ World.holding Tryd.prog os startIn with heap := ((World.holding Tryd.prog os startIn).heap.modify 0 (putCells tabSO)) } : World).forCall (fun _ _ => 0) ⟨#[], #[.agg #[.slice none 0 0], .agg #[.slice none 0 0]], []⟩).memory :=
  laidMet_of_run' 8 (by kernel_rfl) (by kernel_rfl)
theorem reads_fnExactClayOrder (os : Os) {H : Type} (enc : TypeId × Value → H) : ∃ places, DataW.whole enc Tryd.prog (({ World.holding Tryd.prog os startIn with heap := ((World.holding Tryd.prog os startIn).heap.modify 0 (putCells tabSO)) } : World).forCall (fun _ _ => 0) ⟨#[], #[.agg #[.slice none 0 0], .agg #[.slice none 0 0]], []⟩).memory Tryd.f4.params.toList Rows.fnExactClayOrderSpec.vars false #[Value.agg #[.slice none 0 0], Value.agg #[.slice none 0 0]].toList 8 = some ([.agg [.nil], .agg [.nil]], [Rows.laid_loop_example_kilnyard_impl_claySizeOne], places) :=
  ⟨MemPlace.row ⟨0, 0, none⟩ 2, by kernel_rfl⟩
set_option maxRecDepth 100000 in
theorem lifted_fnExactClayOrder (os : Os) (started : os.Started) (H : Type) (enc : TypeId × Value → H) (F : Stop.Interp) :
    ReturnsInHanded {} Tryd.checked os 4 .any ((OpenSpec.ofChange Rows.fnExactClayOrderSpec).preRow enc Tryd.prog Tryd.f4 Rows.fnExactClayOrderRow.domain false Rows.fnExactClayOrderRow.laid) (((OpenSpec.ofChange Rows.fnExactClayOrderSpec).at F).post enc Tryd.prog Tryd.f4 false true false false) := by
  obtain ⟨places, hx⟩ := reads_fnExactClayOrder os enc
  refine returnsInHanded_of_row (C := Tryd.checked) (s := OpenSpec.ofChange Rows.fnExactClayOrderSpec) own started (by kernel_rfl) Tryd.func4
    (witness_row_at (enc := enc) (C := Tryd.checked) false ({ World.holding Tryd.prog os startIn with heap := ((World.holding Tryd.prog os startIn).heap.modify 0 (putCells tabSO)) } : World) #[.agg #[.slice none 0 0], .agg #[.slice none 0 0]] rfl (by kernel_rfl) (by kernel_rfl) (by kernel_rfl)
      (OpenSpec.preRow_of_cond 8 hx (by kernel_rfl) (fun k hk => by cases hk) (by kernel_rfl) (laid_met_fnExactClayOrder os))) ?_
  intro W base args ds gs before hval hW _ _ _ hL _ _
  exact contract_fnExactClayOrder H enc W base args ds gs before hval hW hL
theorem said_fnExactClayOrder : Rows.FnExactClayOrderSaid :=
  OpenClaim.holds_of_cond 4 Tryd.f4 rfl rfl rfl rfl rfl rfl rfl ⟨rfl, rfl, rfl, rfl, rfl⟩ rfl rfl rfl rfl rfl (by kernel_rfl) Tryd.func4 (by kernel_rfl)
    (of_decide_eq_true (by kernel_rfl)) (by unfold Func.isWrapper; first | (rw [if_pos (by decide +kernel)]; kernel_rfl) | (rw [if_neg (by decide +kernel)]; exact ⟨rfl, rfl⟩))
    (fun os started H enc _ F => by rw [OpenClaim.pre_eq_preRow]; exact lifted_fnExactClayOrder os started H enc F)
/-- No parameter wants a stand-in; the program's own looks are off: what the card asks. -/
theorem plain_fnExactClayOrder (f : FuncId) (fn : Func) (hf : Tryd.pinned.checked.prog.funcNamed "loop.example/kilnyard/laws.FnExactClayOrder" = some f) (hfn : Tryd.pinned.checked.prog.funcs[f]? = some fn) :
    true = Tryd.pinned.checked.prog.looks [] ∧ ∀ (j : Nat) t, fn.params[j]? = some t → Tryd.pinned.checked.prog.wantsStandIn t = false := by
  obtain rfl : f = 4 := Option.some.inj ((show Tryd.prog.funcNamed "loop.example/kilnyard/laws.FnExactClayOrder" = some 4 by kernel_rfl).symm.trans hf) |>.symm
  obtain rfl : fn = Tryd.f4 := (Option.some.inj (Tryd.func4.symm.trans hfn)).symm
  refine ⟨by kernel_rfl, fun j t ht => ?_⟩
  rw [Tryd.params4] at ht
  obtain rfl : t = 24 := by simpa using Array.mem_of_getElem? ht
  exact (show Tryd.prog.wantsStandIn 24 = false by kernel_rfl)
/-- The card. -/
theorem card_fnExactClayOrder : Rows.FnExactClayOrderCardSaid :=
  Claim7.holds_tied_plain_at .later [] _ _ _ _ said_fnExactClayOrder (fun _ h => by cases h) (by kernel_rfl) (fun _ h => by cases h) fnExactClayOrder_row_tie rfl ⟨rfl, rfl⟩ (by kernel_rfl) rfl plain_fnExactClayOrder (by kernel_rfl)
#print axioms card_fnExactClayOrder
end Go.Proofs.YtmhcmbhhcmmakaaDoor
