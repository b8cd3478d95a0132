import Derived.Deep.DeepWitnessRowRef
import Derived.Test.YtfndbnbnimhnaaaGreatDoorJ47
import Derived.Test.YtfndbnbnimhnaaaGreatDoorJ48
import Derived.Test.YtfndbnbnimhnaaaGreatDoorJ29
/-! The card of a code's form. Printed by gen_wccard.py. -/
namespace Go.Proofs.YtfndbnbnimhnaaaGreatDoor.C
open Go.ChangeShapes Go.WideShapes Go.ChangeAt Go.RowKit
set_option maxRecDepth 20000
theorem own : ownKnob Tryz.prog.godebug = none := by kernel_rfl
theorem laidOut : laidOutB Tryz.prog = true := by kernel_rfl
theorem read_code : Tryz.prog.readableRec 24 = true := by kernel_rfl
theorem code_open {H : Type} {enc : TypeId × Value → H} {W : World} {base : Nat} {v : Value} {d : DataW H} {ps : List MemPlace} (hv : Value.okWide Tryz.prog W .any base 24 v) (h : DataW.Trod enc Tryz.prog W 0 (fun _ => true) true 24 v d ps) :
    ∃ cv fns, v = .agg #[cv] ∧ R.SFnA W cv fns ∧ R.OkFnS fns := by
  obtain ⟨cs, rfl, hsz⟩ := okWide_struct Tryz.underlying24 hv
  rw [R.cellsCd] at hsz
  obtain ⟨v0, rfl⟩ : ∃ v0, cs = #[v0] := by
    match cs, hsz with
    | ⟨[a]⟩, _ => exact ⟨a, rfl⟩
  obtain ⟨fuel, hf⟩ := h
  obtain ⟨x, c0, e, h1, h2⟩ := R.Cd_open hf
  simp [Value.cells] at e
  subst e
  exact ⟨_, x.fns, rfl, h1, h2⟩
def putCells (cs : Array Value) : Obj → Obj
  | .cells _ t frozen => .cells cs t frozen
  | o => o
def startIn : Input := ⟨#[.cells #[.int .i64 2] 3, .cells #[.int .i64 2] 3, .cells #[.int .i64 2] 3, .cells #[.int .i64 2, .int .i64 2] 3, .cells #[.int .i64 2] 3, .cells #[.int .i64 2, .int .i64 10] 3, .cells #[.int .i64 2, .int .i64 10, .int .i64 10] 3, .cells #[.int .i64 2, .int .i64 2] 3, .cells #[.int .i64 3] 3, .cells #[.int .i64 (-1)] 3, .cells #[.int .i64 2] 3, .cells #[.int .i64 (-2)] 3, .cells #[.int .i64 (-2)] 3, .cells #[.int .i64 (-2)] 3, .cells #[.int .i64 (-2), .int .i64 (-2)] 3, .cells #[.int .i64 (-1)] 3, .cells #[.int .i64 1] 3, .cells #[.int .i64 2] 3, .cells #[.int .i64 2, .int .i64 2] 3, .cells #[.int .i64 2] 3], #[], []⟩
theorem trodVars_len {H : Type} {enc : TypeId × Value → H} {P : Program} {w : World} {spare : Nat → Bool} : ∀ (ns : List String) (gs : List (DataW H)) (ps : List MemPlace), DataW.TrodVars enc P w spare ns gs ps → gs.length = ns.length := by
  intro ns
  induction ns with
  | nil => intro gs ps h; obtain ⟨rfl, _⟩ := trodVars_none h; rfl
  | cons n ns ih =>
    intro gs ps h
    cases gs with
    | nil => simp [DataW.TrodVars] at h
    | cons d ds =>
      obtain ⟨g, t, cs, fuel, p, q, h1, h2, h3, h4, hs, e⟩ := h
      simp [ih ds q hs]
theorem varsOk : varsRowed Tryz.prog Rows.fnExactMillWriteCodeSpec.vars = true := by kernel_rfl
set_option maxHeartbeats 2000000 in
set_option maxRecDepth 100000 in
theorem contract (H : Type) (enc : TypeId × Value → H) (W : World) (base : Nat) (args : Array Value) (ds gs : List (DataW H)) (before : List MemPlace)
    (hval : ∀ (j : Nat) t v, Tryz.f3.params[j]? = some t → args[j]? = some v → Value.okWide Tryz.prog W .any base t v)
    (hW : DataW.Whole enc Tryz.prog Tryz.f3.params.toList Rows.fnExactMillWriteCodeSpec.vars false W args.toList ds gs before) (hL : laidMetH Tryz.prog Rows.fnExactMillWriteCodeRow.laid W) :
    Calls Tryz.prog 3 args W fun e W' => ∃ v, e = .returned v ∧ Rows.fnExactMillWriteCodeSpec.post enc Tryz.prog Tryz.f3 false true false false W args v W' := by
  have hW' := hW
  obtain ⟨p, q, hA0, hV, rfl, hfz, hnd⟩ := hW
  have hA : DataW.TrodAll enc Tryz.prog W 0 (fun _ => true) true Tryz.f3.params.toList args.toList ds p := hA0
  rw [Tryz.params3] at hA hval
  obtain ⟨v0, vs0, d0, ds0, p0, q0, hargs, rfl, rfl, h0, r0⟩ := trodAll_cons hA
  obtain ⟨rfl, rfl, rfl⟩ := trodAll_nil r0
  obtain rfl : args = #[v0] := by cases args; simp_all
  obtain ⟨cv, fns, rfl, hF, hO⟩ := code_open (hval 0 24 v0 rfl rfl) h0
  have hlt0 : ∀ x ∈ p0, x.block < W.heap.size := fun x hx => DataW.TrodAll.lt hA x (by simp [hx])
  clear hA0
  obtain ⟨g1, g2, hg1⟩ : ∃ g1 g2, gs = [g1, g2] := by
    have := trodVars_len _ _ _ hV
    match gs, this with
    | [g1, g2], _ => exact ⟨g1, g2, rfl⟩
  subst hg1
  simp only [List.append_nil] at hW'
  have hL2 : laidMet Tryz.prog [("loop.example/kilnyard/impl.millBuiltSigns", Rows.laid_loop_example_kilnyard_impl_millBuiltSigns), ("loop.example/kilnyard/impl.millInsRows", Rows.laid_loop_example_kilnyard_impl_millInsRows)] W := hL
  refine (law_write hF hO (envI_of hL2 hL2.tail)).mono fun e W' ⟨he, hnx⟩ => ?_
  subst he
  refine ⟨_, rfl, _, _, _, [], p0, q, hW', ?_, ?_, ?_, hnx.frame _, fun h => by cases h⟩
  · exact trodAll_mk1 (shut_bool Tryz.underlying4 _)
  · exact trodAll_mk1 (hnx.trod laidOut read_code (of_decide_eq_true (by kernel_rfl)) h0 hlt0)
  · exact hnx.trodVars laidOut varsOk hV
theorem laid_met (os : Os) : laidMet Tryz.prog Rows.fnExactMillWriteCodeRow.laid (({ World.holding Tryz.prog os startIn with heap := (((World.holding Tryz.prog os startIn).heap.modify 6 (putCells #[.slice none 0 0, .int .i64 0, .slice (some ⟨(World.holding Tryz.prog default ⟨#[], #[], []⟩).heap.size + 0, 0, none⟩) 1 1, .int .i64 2, .slice (some ⟨(World.holding Tryz.prog default ⟨#[], #[], []⟩).heap.size + 1, 0, none⟩) 1 1, .int .i64 1, .slice (some ⟨(World.holding Tryz.prog default ⟨#[], #[], []⟩).heap.size + 2, 0, none⟩) 1 1, .int .i64 2, .slice (some ⟨(World.holding Tryz.prog default ⟨#[], #[], []⟩).heap.size + 3, 0, none⟩) 2 2, .int .i64 2, .slice none 0 0, .int .i64 2, .slice (some ⟨(World.holding Tryz.prog default ⟨#[], #[], []⟩).heap.size + 4, 0, none⟩) 1 1, .int .i64 10, .slice (some ⟨(World.holding Tryz.prog default ⟨#[], #[], []⟩).heap.size + 5, 0, none⟩) 2 2, .int .i64 3, .slice (some ⟨(World.holding Tryz.prog default ⟨#[], #[], []⟩).heap.size + 6, 0, none⟩) 3 3, .int .i64 2, .slice (some ⟨(World.holding Tryz.prog default ⟨#[], #[], []⟩).heap.size + 7, 0, none⟩) 2 2, .int .i64 10, .slice (some ⟨(World.holding Tryz.prog default ⟨#[], #[], []⟩).heap.size + 8, 0, none⟩) 1 1, .int .i64 2, .slice (some ⟨(World.holding Tryz.prog default ⟨#[], #[], []⟩).heap.size + 9, 0, none⟩) 1 1, .int .i64 2, .slice (some ⟨(World.holding Tryz.prog default ⟨#[], #[], []⟩).heap.size + 10, 0, none⟩) 1 1, .int .i64 10])).modify 3 (putCells #[.int .i64 0, .slice none 0 0, .int .i64 0, .int .i64 1, .slice none 0 0, .int .i64 1, .int .i64 2, .slice none 0 0, .int .i64 2, .int .i64 2, .slice (some ⟨(World.holding Tryz.prog default ⟨#[], #[], []⟩).heap.size + 11, 0, none⟩) 1 1, .int .i64 0, .int .i64 0, .slice (some ⟨(World.holding Tryz.prog default ⟨#[], #[], []⟩).heap.size + 12, 0, none⟩) 1 1, .int .i64 0, .int .i64 3, .slice (some ⟨(World.holding Tryz.prog default ⟨#[], #[], []⟩).heap.size + 13, 0, none⟩) 1 1, .int .i64 3, .int .i64 4, .slice (some ⟨(World.holding Tryz.prog default ⟨#[], #[], []⟩).heap.size + 14, 0, none⟩) 2 2, .int .i64 4, .int .i64 5, .slice (some ⟨(World.holding Tryz.prog default ⟨#[], #[], []⟩).heap.size + 15, 0, none⟩) 1 1, .int .i64 1, .int .i64 6, .slice none 0 0, .int .i64 5, .int .i64 7, .slice none 0 0, .int .i64 6, .int .i64 8, .slice none 0 0, .int .i64 0, .int .i64 8, .slice (some ⟨(World.holding Tryz.prog default ⟨#[], #[], []⟩).heap.size + 16, 0, none⟩) 1 1, .int .i64 0, .int .i64 9, .slice none 0 0, .int .i64 0, .int .i64 0, .slice (some ⟨(World.holding Tryz.prog default ⟨#[], #[], []⟩).heap.size + 17, 0, none⟩) 1 1, .int .i64 0, .int .i64 0, .slice (some ⟨(World.holding Tryz.prog default ⟨#[], #[], []⟩).heap.size + 18, 0, none⟩) 2 2, .int .i64 0, .int .i64 0, .slice (some ⟨(World.holding Tryz.prog default ⟨#[], #[], []⟩).heap.size + 19, 0, none⟩) 1 1, .int .i64 0, .int .i64 0, .slice none 0 0, .int .i64 0])) } : World).forCall (fun _ _ => 0) ⟨#[], #[.agg #[.slice none 0 0]], []⟩).memory :=
  laidMet_of_run' 8 (by kernel_rfl) (by kernel_rfl)
theorem reads (os : Os) {H : Type} (enc : TypeId × Value → H) : ∃ gs places, DataW.whole enc Tryz.prog (({ World.holding Tryz.prog os startIn with heap := (((World.holding Tryz.prog os startIn).heap.modify 6 (putCells #[.slice none 0 0, .int .i64 0, .slice (some ⟨(World.holding Tryz.prog default ⟨#[], #[], []⟩).heap.size + 0, 0, none⟩) 1 1, .int .i64 2, .slice (some ⟨(World.holding Tryz.prog default ⟨#[], #[], []⟩).heap.size + 1, 0, none⟩) 1 1, .int .i64 1, .slice (some ⟨(World.holding Tryz.prog default ⟨#[], #[], []⟩).heap.size + 2, 0, none⟩) 1 1, .int .i64 2, .slice (some ⟨(World.holding Tryz.prog default ⟨#[], #[], []⟩).heap.size + 3, 0, none⟩) 2 2, .int .i64 2, .slice none 0 0, .int .i64 2, .slice (some ⟨(World.holding Tryz.prog default ⟨#[], #[], []⟩).heap.size + 4, 0, none⟩) 1 1, .int .i64 10, .slice (some ⟨(World.holding Tryz.prog default ⟨#[], #[], []⟩).heap.size + 5, 0, none⟩) 2 2, .int .i64 3, .slice (some ⟨(World.holding Tryz.prog default ⟨#[], #[], []⟩).heap.size + 6, 0, none⟩) 3 3, .int .i64 2, .slice (some ⟨(World.holding Tryz.prog default ⟨#[], #[], []⟩).heap.size + 7, 0, none⟩) 2 2, .int .i64 10, .slice (some ⟨(World.holding Tryz.prog default ⟨#[], #[], []⟩).heap.size + 8, 0, none⟩) 1 1, .int .i64 2, .slice (some ⟨(World.holding Tryz.prog default ⟨#[], #[], []⟩).heap.size + 9, 0, none⟩) 1 1, .int .i64 2, .slice (some ⟨(World.holding Tryz.prog default ⟨#[], #[], []⟩).heap.size + 10, 0, none⟩) 1 1, .int .i64 10])).modify 3 (putCells #[.int .i64 0, .slice none 0 0, .int .i64 0, .int .i64 1, .slice none 0 0, .int .i64 1, .int .i64 2, .slice none 0 0, .int .i64 2, .int .i64 2, .slice (some ⟨(World.holding Tryz.prog default ⟨#[], #[], []⟩).heap.size + 11, 0, none⟩) 1 1, .int .i64 0, .int .i64 0, .slice (some ⟨(World.holding Tryz.prog default ⟨#[], #[], []⟩).heap.size + 12, 0, none⟩) 1 1, .int .i64 0, .int .i64 3, .slice (some ⟨(World.holding Tryz.prog default ⟨#[], #[], []⟩).heap.size + 13, 0, none⟩) 1 1, .int .i64 3, .int .i64 4, .slice (some ⟨(World.holding Tryz.prog default ⟨#[], #[], []⟩).heap.size + 14, 0, none⟩) 2 2, .int .i64 4, .int .i64 5, .slice (some ⟨(World.holding Tryz.prog default ⟨#[], #[], []⟩).heap.size + 15, 0, none⟩) 1 1, .int .i64 1, .int .i64 6, .slice none 0 0, .int .i64 5, .int .i64 7, .slice none 0 0, .int .i64 6, .int .i64 8, .slice none 0 0, .int .i64 0, .int .i64 8, .slice (some ⟨(World.holding Tryz.prog default ⟨#[], #[], []⟩).heap.size + 16, 0, none⟩) 1 1, .int .i64 0, .int .i64 9, .slice none 0 0, .int .i64 0, .int .i64 0, .slice (some ⟨(World.holding Tryz.prog default ⟨#[], #[], []⟩).heap.size + 17, 0, none⟩) 1 1, .int .i64 0, .int .i64 0, .slice (some ⟨(World.holding Tryz.prog default ⟨#[], #[], []⟩).heap.size + 18, 0, none⟩) 2 2, .int .i64 0, .int .i64 0, .slice (some ⟨(World.holding Tryz.prog default ⟨#[], #[], []⟩).heap.size + 19, 0, none⟩) 1 1, .int .i64 0, .int .i64 0, .slice none 0 0, .int .i64 0])) } : World).forCall (fun _ _ => 0) ⟨#[], #[.agg #[.slice none 0 0]], []⟩).memory Tryz.f3.params.toList Rows.fnExactMillWriteCodeSpec.vars false #[Value.agg #[.slice none 0 0]].toList 8 = some ([.agg [.nil]], gs, places) := by
  have h : (DataW.whole enc Tryz.prog (({ World.holding Tryz.prog os startIn with heap := (((World.holding Tryz.prog os startIn).heap.modify 6 (putCells #[.slice none 0 0, .int .i64 0, .slice (some ⟨(World.holding Tryz.prog default ⟨#[], #[], []⟩).heap.size + 0, 0, none⟩) 1 1, .int .i64 2, .slice (some ⟨(World.holding Tryz.prog default ⟨#[], #[], []⟩).heap.size + 1, 0, none⟩) 1 1, .int .i64 1, .slice (some ⟨(World.holding Tryz.prog default ⟨#[], #[], []⟩).heap.size + 2, 0, none⟩) 1 1, .int .i64 2, .slice (some ⟨(World.holding Tryz.prog default ⟨#[], #[], []⟩).heap.size + 3, 0, none⟩) 2 2, .int .i64 2, .slice none 0 0, .int .i64 2, .slice (some ⟨(World.holding Tryz.prog default ⟨#[], #[], []⟩).heap.size + 4, 0, none⟩) 1 1, .int .i64 10, .slice (some ⟨(World.holding Tryz.prog default ⟨#[], #[], []⟩).heap.size + 5, 0, none⟩) 2 2, .int .i64 3, .slice (some ⟨(World.holding Tryz.prog default ⟨#[], #[], []⟩).heap.size + 6, 0, none⟩) 3 3, .int .i64 2, .slice (some ⟨(World.holding Tryz.prog default ⟨#[], #[], []⟩).heap.size + 7, 0, none⟩) 2 2, .int .i64 10, .slice (some ⟨(World.holding Tryz.prog default ⟨#[], #[], []⟩).heap.size + 8, 0, none⟩) 1 1, .int .i64 2, .slice (some ⟨(World.holding Tryz.prog default ⟨#[], #[], []⟩).heap.size + 9, 0, none⟩) 1 1, .int .i64 2, .slice (some ⟨(World.holding Tryz.prog default ⟨#[], #[], []⟩).heap.size + 10, 0, none⟩) 1 1, .int .i64 10])).modify 3 (putCells #[.int .i64 0, .slice none 0 0, .int .i64 0, .int .i64 1, .slice none 0 0, .int .i64 1, .int .i64 2, .slice none 0 0, .int .i64 2, .int .i64 2, .slice (some ⟨(World.holding Tryz.prog default ⟨#[], #[], []⟩).heap.size + 11, 0, none⟩) 1 1, .int .i64 0, .int .i64 0, .slice (some ⟨(World.holding Tryz.prog default ⟨#[], #[], []⟩).heap.size + 12, 0, none⟩) 1 1, .int .i64 0, .int .i64 3, .slice (some ⟨(World.holding Tryz.prog default ⟨#[], #[], []⟩).heap.size + 13, 0, none⟩) 1 1, .int .i64 3, .int .i64 4, .slice (some ⟨(World.holding Tryz.prog default ⟨#[], #[], []⟩).heap.size + 14, 0, none⟩) 2 2, .int .i64 4, .int .i64 5, .slice (some ⟨(World.holding Tryz.prog default ⟨#[], #[], []⟩).heap.size + 15, 0, none⟩) 1 1, .int .i64 1, .int .i64 6, .slice none 0 0, .int .i64 5, .int .i64 7, .slice none 0 0, .int .i64 6, .int .i64 8, .slice none 0 0, .int .i64 0, .int .i64 8, .slice (some ⟨(World.holding Tryz.prog default ⟨#[], #[], []⟩).heap.size + 16, 0, none⟩) 1 1, .int .i64 0, .int .i64 9, .slice none 0 0, .int .i64 0, .int .i64 0, .slice (some ⟨(World.holding Tryz.prog default ⟨#[], #[], []⟩).heap.size + 17, 0, none⟩) 1 1, .int .i64 0, .int .i64 0, .slice (some ⟨(World.holding Tryz.prog default ⟨#[], #[], []⟩).heap.size + 18, 0, none⟩) 2 2, .int .i64 0, .int .i64 0, .slice (some ⟨(World.holding Tryz.prog default ⟨#[], #[], []⟩).heap.size + 19, 0, none⟩) 1 1, .int .i64 0, .int .i64 0, .slice none 0 0, .int .i64 0])) } : World).forCall (fun _ _ => 0) ⟨#[], #[.agg #[.slice none 0 0]], []⟩).memory Tryz.f3.params.toList Rows.fnExactMillWriteCodeSpec.vars false #[Value.agg #[.slice none 0 0]].toList 8).map (·.1) = some [.agg [.nil]] := by kernel_rfl
  obtain ⟨⟨x, gs, places⟩, hx, rfl⟩ := Option.map_eq_some_iff.1 h
  exact ⟨gs, places, hx⟩
set_option maxRecDepth 100000 in
theorem lifted (os : Os) (started : os.Started) (H : Type) (enc : TypeId × Value → H) (F : Stop.Interp) :
    ReturnsInHanded {} Tryz.checked os 3 .any ((OpenSpec.ofChange Rows.fnExactMillWriteCodeSpec).preRow enc Tryz.prog Tryz.f3 Rows.fnExactMillWriteCodeRow.domain false Rows.fnExactMillWriteCodeRow.laid) (((OpenSpec.ofChange Rows.fnExactMillWriteCodeSpec).at F).post enc Tryz.prog Tryz.f3 false true false false) := by
  obtain ⟨gs, places, hx⟩ := reads os enc
  refine returnsInHanded_of_row (C := Tryz.checked) (s := OpenSpec.ofChange Rows.fnExactMillWriteCodeSpec) own started (by kernel_rfl) Tryz.func3
    (witness_row_atRef (enc := enc) (C := Tryz.checked) false ({ World.holding Tryz.prog os startIn with heap := (((World.holding Tryz.prog os startIn).heap.modify 6 (putCells #[.slice none 0 0, .int .i64 0, .slice (some ⟨(World.holding Tryz.prog default ⟨#[], #[], []⟩).heap.size + 0, 0, none⟩) 1 1, .int .i64 2, .slice (some ⟨(World.holding Tryz.prog default ⟨#[], #[], []⟩).heap.size + 1, 0, none⟩) 1 1, .int .i64 1, .slice (some ⟨(World.holding Tryz.prog default ⟨#[], #[], []⟩).heap.size + 2, 0, none⟩) 1 1, .int .i64 2, .slice (some ⟨(World.holding Tryz.prog default ⟨#[], #[], []⟩).heap.size + 3, 0, none⟩) 2 2, .int .i64 2, .slice none 0 0, .int .i64 2, .slice (some ⟨(World.holding Tryz.prog default ⟨#[], #[], []⟩).heap.size + 4, 0, none⟩) 1 1, .int .i64 10, .slice (some ⟨(World.holding Tryz.prog default ⟨#[], #[], []⟩).heap.size + 5, 0, none⟩) 2 2, .int .i64 3, .slice (some ⟨(World.holding Tryz.prog default ⟨#[], #[], []⟩).heap.size + 6, 0, none⟩) 3 3, .int .i64 2, .slice (some ⟨(World.holding Tryz.prog default ⟨#[], #[], []⟩).heap.size + 7, 0, none⟩) 2 2, .int .i64 10, .slice (some ⟨(World.holding Tryz.prog default ⟨#[], #[], []⟩).heap.size + 8, 0, none⟩) 1 1, .int .i64 2, .slice (some ⟨(World.holding Tryz.prog default ⟨#[], #[], []⟩).heap.size + 9, 0, none⟩) 1 1, .int .i64 2, .slice (some ⟨(World.holding Tryz.prog default ⟨#[], #[], []⟩).heap.size + 10, 0, none⟩) 1 1, .int .i64 10])).modify 3 (putCells #[.int .i64 0, .slice none 0 0, .int .i64 0, .int .i64 1, .slice none 0 0, .int .i64 1, .int .i64 2, .slice none 0 0, .int .i64 2, .int .i64 2, .slice (some ⟨(World.holding Tryz.prog default ⟨#[], #[], []⟩).heap.size + 11, 0, none⟩) 1 1, .int .i64 0, .int .i64 0, .slice (some ⟨(World.holding Tryz.prog default ⟨#[], #[], []⟩).heap.size + 12, 0, none⟩) 1 1, .int .i64 0, .int .i64 3, .slice (some ⟨(World.holding Tryz.prog default ⟨#[], #[], []⟩).heap.size + 13, 0, none⟩) 1 1, .int .i64 3, .int .i64 4, .slice (some ⟨(World.holding Tryz.prog default ⟨#[], #[], []⟩).heap.size + 14, 0, none⟩) 2 2, .int .i64 4, .int .i64 5, .slice (some ⟨(World.holding Tryz.prog default ⟨#[], #[], []⟩).heap.size + 15, 0, none⟩) 1 1, .int .i64 1, .int .i64 6, .slice none 0 0, .int .i64 5, .int .i64 7, .slice none 0 0, .int .i64 6, .int .i64 8, .slice none 0 0, .int .i64 0, .int .i64 8, .slice (some ⟨(World.holding Tryz.prog default ⟨#[], #[], []⟩).heap.size + 16, 0, none⟩) 1 1, .int .i64 0, .int .i64 9, .slice none 0 0, .int .i64 0, .int .i64 0, .slice (some ⟨(World.holding Tryz.prog default ⟨#[], #[], []⟩).heap.size + 17, 0, none⟩) 1 1, .int .i64 0, .int .i64 0, .slice (some ⟨(World.holding Tryz.prog default ⟨#[], #[], []⟩).heap.size + 18, 0, none⟩) 2 2, .int .i64 0, .int .i64 0, .slice (some ⟨(World.holding Tryz.prog default ⟨#[], #[], []⟩).heap.size + 19, 0, none⟩) 1 1, .int .i64 0, .int .i64 0, .slice none 0 0, .int .i64 0])) } : World) #[.agg #[.slice none 0 0]] rfl (by kernel_rfl) (by kernel_rfl) (by kernel_rfl)
      (OpenSpec.preRow_of_cond 8 hx (by kernel_rfl) (fun k hk => by cases hk) (by kernel_rfl) (laid_met os))) ?_
  intro W base args ds gs before hval hW _ _ _ hL _ _
  exact contract H enc W base args ds gs before hval hW hL
theorem said : Rows.FnExactMillWriteCodeSaid :=
  OpenClaim.holds_of_cond 3 Tryz.f3 rfl rfl rfl rfl rfl rfl rfl ⟨rfl, rfl, rfl, rfl, rfl⟩ rfl rfl rfl rfl rfl (by kernel_rfl) Tryz.func3 (by kernel_rfl)
    (of_decide_eq_true (by kernel_rfl)) (by unfold Func.isWrapper; first | (rw [if_pos (by decide +kernel)]; kernel_rfl) | (rw [if_neg (by decide +kernel)]; exact ⟨rfl, rfl⟩))
    (fun os started H enc _ F => by rw [OpenClaim.pre_eq_preRow]; exact lifted os started H enc F)
/-- No parameter wants a stand-in: what the card asks. -/
theorem plain (f : FuncId) (fn : Func) (hf : Tryz.pinned.checked.prog.funcNamed "loop.example/kilnyard/laws.FnExactMillWriteCode" = some f) (hfn : Tryz.pinned.checked.prog.funcs[f]? = some fn) :
    true = Tryz.pinned.checked.prog.looks [] ∧ ∀ (j : Nat) t, fn.params[j]? = some t → Tryz.pinned.checked.prog.wantsStandIn t = false := by
  obtain rfl : f = 3 := Option.some.inj ((show Tryz.prog.funcNamed "loop.example/kilnyard/laws.FnExactMillWriteCode" = some 3 by kernel_rfl).symm.trans hf) |>.symm
  obtain rfl : fn = Tryz.f3 := (Option.some.inj (Tryz.func3.symm.trans hfn)).symm
  refine ⟨by kernel_rfl, fun j t ht => ?_⟩
  rw [Tryz.params3] at ht
  obtain rfl : t = 24 := by simpa using Array.mem_of_getElem? ht
  exact (show Tryz.prog.wantsStandIn 24 = false by kernel_rfl)
/-- The card. -/
theorem card : Rows.FnExactMillWriteCodeCardSaid :=
  Claim7.holds_tied_plain_at .later [] _ _ _ _ said (fun _ h => by cases h) (by kernel_rfl) (fun _ h => by cases h) fnExactMillWriteCode_row_tie rfl ⟨rfl, rfl⟩ (by kernel_rfl) rfl plain (by kernel_rfl)
end Go.Proofs.YtfndbnbnimhnaaaGreatDoor.C
namespace Go.Proofs.YtfndbnbnimhnaaaGreatDoor
/-- The given card. -/
theorem card_fnExactMillWriteCode : Rows.FnExactMillWriteCodeCardSaid := C.card
#print axioms card_fnExactMillWriteCode
end Go.Proofs.YtfndbnbnimhnaaaGreatDoor
