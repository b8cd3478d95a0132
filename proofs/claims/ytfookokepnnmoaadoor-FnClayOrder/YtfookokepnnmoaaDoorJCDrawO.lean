import Derived.Deep.Slices
import Derived.Test.YtfookokepnnmoaaDoorJCBase
import Derived.Test.YtfookokepnnmoaaDoorJLDrawO
namespace Go.Proofs.YtfookokepnnmoaaDoor
open Go.ChangeShapes Go.WideShapes Go.ChangeAt Go.RowKit Go.Deep
theorem cellsU8 : Tryd.prog.cellsOf 5 = 1 := by kernel_rfl
theorem readB : Tryd.prog.readableRec 22 = true := by kernel_rfl
set_option maxRecDepth 20000 in
theorem code_open {H : Type} {enc : TypeId × Value → H} {W : World} {base : Nat} {v : Value} {d : DataW H} {ps : List MemPlace} (hv : Value.okWide Tryd.prog W .any base 22 v) (h : DataW.Trod enc Tryd.prog W 0 (fun _ => true) true 22 v d ps) :
    ∃ ad n cap, v = .slice ad n cap ∧ n ≤ cap ∧ cap ≤ 9223372036854775807 ∧ CodeA W ad n ∧ (ad = none → n = 0 ∧ cap = 0) := by
  obtain ⟨a1, n1, c1, rfl⟩ := okWide_slice Tryd.underlying22 hv
  obtain ⟨fuel, hf⟩ := h
  rcases open_slice Tryd.underlying22 hf with ⟨e, _⟩ | ⟨a, len, cap, m, n2, D, Pl, e, _, hlc, hcm, hm, _, hel⟩
  · simp [Value.cells] at e
    obtain ⟨rfl, rfl, rfl⟩ := e
    exact ⟨none, 0, 0, rfl, Nat.le_refl _, by omega, .inl rfl, fun _ => ⟨rfl, rfl⟩⟩
  · simp [Value.cells] at e
    obtain ⟨rfl, rfl, rfl⟩ := e
    refine ⟨some a, n1, c1, rfl, hlc, by unfold maxLen at hcm; omega, ?_, fun h => by cases h⟩
    by_cases h0 : n1 = 0
    · exact .inl h0
    have hm2 : n1 ≤ m := by rw [hm]; simp; exact hlc
    have hall : ∀ i, i < n1 → (∃ x : UInt8, W.cell? (a.add i) = some (.int .u8 x.toNat)) ∧ a.block < W.heap.size := fun i hi => by
      obtain ⟨cs', hc, ht⟩ := hel i (by omega)
      rw [cellsU8, Nat.mul_one] at hc
      have hbl := World.cells?_block hc (by omega)
      rw [add_block] at hbl
      obtain ⟨z, rfl, _, hw⟩ := DataW.trod_int Tryd.underlying5 ht
      simp [Lit.wf, IntKind.min, IntKind.max, IntKind.signed, IntKind.bits] at hw
      refine ⟨⟨UInt8.ofNat z.toNat, ?_⟩, hbl⟩
      rw [cell_of_cells?_one hc]
      have : z.toNat < 256 := by omega
      simp [Nat.mod_eq_of_lt this]
      omega
    exact .inr ⟨a, rfl, (hall 0 (by omega)).2, fun i hi => (hall i hi).1⟩
set_option maxRecDepth 100000 in
theorem contract_fnClayOrder (H : Type) (enc : TypeId × Value → H) (W : World) (base : Nat) (args : Array Value) (ds gs : List (DataW H)) (before : List MemPlace)
    (hval : ∀ (j : Nat) t v, Tryd.f3.params[j]? = some t → args[j]? = some v → Value.okWide Tryd.prog W .any base t v)
    (hW : DataW.Whole enc Tryd.prog Tryd.f3.params.toList Rows.fnClayOrderSpec.vars false W args.toList ds gs before) (hL : laidMetH Tryd.prog Rows.fnClayOrderRow.laid W) :
    Calls Tryd.prog 3 args W fun e W' => ∃ v, e = .returned v ∧ Rows.fnClayOrderSpec.post enc Tryd.prog Tryd.f3 false true false false W args v W' := by
  have hW' := hW
  obtain ⟨p, q, hA0, hV, rfl, hfz, hnd⟩ := hW
  have hA : DataW.TrodAll enc Tryd.prog W 0 (fun _ => true) true Tryd.f3.params.toList args.toList ds p := hA0
  rw [Tryd.params3] at hA hval
  obtain ⟨v0, vs0, d0, ds0, p0, q0, hargs, rfl, rfl, h0, r0⟩ := trodAll_cons hA
  obtain ⟨v1, vs1, d1, ds1, p1, q1, rfl, rfl, rfl, h1, r1⟩ := trodAll_cons r0
  obtain ⟨rfl, rfl, rfl⟩ := trodAll_nil r1
  obtain rfl : args = #[v0, v1] := by cases args; simp_all
  obtain ⟨ad, n, cap, rfl, hc, hcm, hn, hnil⟩ := code_open (hval 0 22 v0 rfl rfl) h0
  obtain ⟨ad', n', cap', rfl, hc', hcm', hn', hnil'⟩ := code_open (hval 1 22 v1 rfl rfl) h1
  have hlt : ∀ x ∈ p0, x.block < W.heap.size := fun x hx => DataW.TrodAll.lt hA x (by simp [hx])
  have hlt' : ∀ x ∈ p1, x.block < W.heap.size := fun x hx => DataW.TrodAll.lt hA x (by simp [hx])
  clear hA0
  obtain ⟨g1, hg1⟩ : ∃ g1, gs = [g1] := by
    obtain ⟨_, _, _, _, d, _, e, _⟩ := trodVars_one hV
    exact ⟨d, e⟩
  subst hg1
  simp only [List.append_nil] at hW'
  refine (law_draw_order ad ad' n cap n' cap' W (one_of_laid hL) hc hcm hc' hcm' (fun _ => hn) (fun _ => hn') hnil hnil').mono fun e W' ⟨he, hnx⟩ => ?_
  subst he
  refine ⟨_, rfl, _, _, _, [], p0 ++ p1, q, hW', ?_, ?_, ?_, hnx.frame _, fun h => by cases h⟩
  · exact trodAll_mk1 (shut_bool Tryd.underlying4 _)
  · exact trodAll_mk2 (hnx.trod laidOut readB (of_decide_eq_true (by kernel_rfl)) h0 hlt) (hnx.trod laidOut readB (of_decide_eq_true (by kernel_rfl)) h1 hlt')
  · exact hnx.trodVars laidOut varsOk hV
theorem laid_met_fnClayOrder (os : Os) : laidMet Tryd.prog Rows.fnClayOrderRow.laid (({ World.holding Tryd.prog os startIn with heap := ((World.holding Tryd.prog os startIn).heap.modify 0 (putCells tabSO)) } : World).forCall (fun _ _ => 0) ⟨#[], #[.slice none 0 0, .slice none 0 0], []⟩).memory :=
  laidMet_of_run' 8 (by kernel_rfl) (by kernel_rfl)
theorem reads_fnClayOrder (os : Os) {H : Type} (enc : TypeId × Value → H) : ∃ places, DataW.whole enc Tryd.prog (({ World.holding Tryd.prog os startIn with heap := ((World.holding Tryd.prog os startIn).heap.modify 0 (putCells tabSO)) } : World).forCall (fun _ _ => 0) ⟨#[], #[.slice none 0 0, .slice none 0 0], []⟩).memory Tryd.f3.params.toList Rows.fnClayOrderSpec.vars false #[Value.slice none 0 0, Value.slice none 0 0].toList 8 = some ([.nil, .nil], [Rows.laid_loop_example_kilnyard_impl_claySizeOne], places) :=
  ⟨MemPlace.row ⟨0, 0, none⟩ 2, by kernel_rfl⟩
set_option maxRecDepth 100000 in
theorem lifted_fnClayOrder (os : Os) (started : os.Started) (H : Type) (enc : TypeId × Value → H) (F : Stop.Interp) :
    ReturnsInHanded {} Tryd.checked os 3 .any ((OpenSpec.ofChange Rows.fnClayOrderSpec).preRow enc Tryd.prog Tryd.f3 Rows.fnClayOrderRow.domain false Rows.fnClayOrderRow.laid) (((OpenSpec.ofChange Rows.fnClayOrderSpec).at F).post enc Tryd.prog Tryd.f3 false true false false) := by
  obtain ⟨places, hx⟩ := reads_fnClayOrder os enc
  refine returnsInHanded_of_row (C := Tryd.checked) (s := OpenSpec.ofChange Rows.fnClayOrderSpec) own started (by kernel_rfl) Tryd.func3
    (witness_row_at (enc := enc) (C := Tryd.checked) false ({ World.holding Tryd.prog os startIn with heap := ((World.holding Tryd.prog os startIn).heap.modify 0 (putCells tabSO)) } : World) #[.slice none 0 0, .slice none 0 0] rfl (by kernel_rfl) (by kernel_rfl) (by kernel_rfl)
      (OpenSpec.preRow_of_cond 8 hx (by kernel_rfl) (fun k hk => by cases hk) (by kernel_rfl) (laid_met_fnClayOrder os))) ?_
  intro W base args ds gs before hval hW _ _ _ hL _ _
  exact contract_fnClayOrder H enc W base args ds gs before hval hW hL
theorem said_fnClayOrder : Rows.FnClayOrderSaid :=
  OpenClaim.holds_of_cond 3 Tryd.f3 rfl rfl rfl rfl rfl rfl rfl ⟨rfl, rfl, rfl, rfl, rfl⟩ rfl rfl rfl rfl rfl (by kernel_rfl) Tryd.func3 (by kernel_rfl)
    (of_decide_eq_true (by kernel_rfl)) (by unfold Func.isWrapper; first | (rw [if_pos (by decide +kernel)]; kernel_rfl) | (rw [if_neg (by decide +kernel)]; exact ⟨rfl, rfl⟩))
    (fun os started H enc _ F => by rw [OpenClaim.pre_eq_preRow]; exact lifted_fnClayOrder os started H enc F)
/-- No parameter wants a stand-in; the program's own looks are off: what the card asks. -/
theorem plain_fnClayOrder (f : FuncId) (fn : Func) (hf : Tryd.pinned.checked.prog.funcNamed "loop.example/kilnyard/laws.FnClayOrder" = some f) (hfn : Tryd.pinned.checked.prog.funcs[f]? = some fn) :
    true = Tryd.pinned.checked.prog.looks [] ∧ ∀ (j : Nat) t, fn.params[j]? = some t → Tryd.pinned.checked.prog.wantsStandIn t = false := by
  obtain rfl : f = 3 := Option.some.inj ((show Tryd.prog.funcNamed "loop.example/kilnyard/laws.FnClayOrder" = some 3 by kernel_rfl).symm.trans hf) |>.symm
  obtain rfl : fn = Tryd.f3 := (Option.some.inj (Tryd.func3.symm.trans hfn)).symm
  refine ⟨by kernel_rfl, fun j t ht => ?_⟩
  rw [Tryd.params3] at ht
  obtain rfl : t = 22 := by simpa using Array.mem_of_getElem? ht
  exact (show Tryd.prog.wantsStandIn 22 = false by kernel_rfl)
/-- The card. -/
theorem card_fnClayOrder : Rows.FnClayOrderCardSaid :=
  Claim7.holds_tied_plain_at .later [] _ _ _ _ said_fnClayOrder (fun _ h => by cases h) (by kernel_rfl) (fun _ h => by cases h) fnClayOrder_row_tie rfl ⟨rfl, rfl⟩ (by kernel_rfl) rfl plain_fnClayOrder (by kernel_rfl)
#print axioms card_fnClayOrder
end Go.Proofs.YtfookokepnnmoaaDoor
