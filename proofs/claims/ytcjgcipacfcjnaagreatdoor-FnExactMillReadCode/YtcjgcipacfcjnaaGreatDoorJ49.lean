import Derived.Deep.DeepWitnessRowRef
import Derived.Test.YtcjgcipacfcjnaaGreatDoorJ45
import Derived.Test.YtcjgcipacfcjnaaGreatDoorJ48
namespace Go.Proofs.YtcjgcipacfcjnaaGreatDoor.C.D
open Go.ChangeShapes Go.WideShapes Go.ChangeAt Go.RowKit
open Go.ChangeMaps (open_string shut_string)
set_option maxRecDepth 20000
theorem own : ownKnob Tryz.prog.godebug = none := by kernel_rfl
theorem laidOut : laidOutB Tryz.prog = true := by kernel_rfl
theorem cellsErr : Tryz.prog.cellsOf 260 = 1 := by kernel_rfl
theorem cellsStr : Tryz.prog.cellsOf 9 = 1 := by kernel_rfl
theorem star : "*" ++ "errors.errorString" = "*errors.errorString" := by decide
theorem rowErr (u : TypeId) (h : Tryz.prog.typeName? 3 u = some "*errors.errorString") : u = 241 :=
 typeName_ptr_named (nm := "errors.errorString") (by rw [star]; kernel_rfl) (by kernel_rfl) (by decide) u (by rw [star]; exact h)
theorem gBegins : Tryz.prog.globalNamed "loop.example/kilnyard/impl.errMillFormBegins" = some 1 := by kernel_rfl
theorem gBeginsType : (Tryz.prog.globals[1]?).map (·.type) = some 43 := by kernel_rfl
theorem gEnds : Tryz.prog.globalNamed "loop.example/kilnyard/impl.errMillFormEnds" = some 5 := by kernel_rfl
theorem gEndsType : (Tryz.prog.globals[5]?).map (·.type) = some 43 := by kernel_rfl
theorem gLong : Tryz.prog.globalNamed "loop.example/kilnyard/impl.errMillFormLong" = some 0 := by kernel_rfl
theorem gLongType : (Tryz.prog.globals[0]?).map (·.type) = some 43 := by kernel_rfl
theorem gNumber : Tryz.prog.globalNamed "loop.example/kilnyard/impl.errMillFormNumber" = some 4 := by kernel_rfl
theorem gNumberType : (Tryz.prog.globals[4]?).map (·.type) = some 43 := by kernel_rfl
theorem et : Tryz.prog.globalNamed "errors.errorType" = some 2 := by kernel_rfl
theorem rt : (Tryz.prog.cutTypes.find? (·.1 == "internal/reflectlite.rtype")).map (·.2) = some 151 := by kernel_rfl
theorem oneRow : ((List.range (371 - 100)).filter fun t => Tryz.prog.rowNamed t [101, 114, 114, 111, 114]) = [43] := by kernel_rfl
theorem tsize : Tryz.prog.types.size = 371 - 100 := by kernel_rfl
theorem errT_of {W : World} (h : laidMetH Tryz.prog Rows.fnExactMillReadCodeRow.laid W) : ErrT W ∧ laidMet Tryz.prog [("loop.example/kilnyard/impl.millBuiltSigns", Rows.laid_loop_example_kilnyard_impl_millBuiltSigns), ("loop.example/kilnyard/impl.errMillFormBegins", Rows.laid_loop_example_kilnyard_impl_errMillFormBegins), ("loop.example/kilnyard/impl.errMillFormEnds", Rows.laid_loop_example_kilnyard_impl_errMillFormEnds), ("loop.example/kilnyard/impl.errMillFormLong", Rows.laid_loop_example_kilnyard_impl_errMillFormLong), ("loop.example/kilnyard/impl.errMillFormNumber", Rows.laid_loop_example_kilnyard_impl_errMillFormNumber), ("loop.example/kilnyard/impl.millInsRows", Rows.laid_loop_example_kilnyard_impl_millInsRows)] W := by
 have h' : laidMet Tryz.prog [("loop.example/kilnyard/impl.millBuiltSigns", Rows.laid_loop_example_kilnyard_impl_millBuiltSigns), ("loop.example/kilnyard/impl.errMillFormBegins", Rows.laid_loop_example_kilnyard_impl_errMillFormBegins), ("loop.example/kilnyard/impl.errMillFormEnds", Rows.laid_loop_example_kilnyard_impl_errMillFormEnds), ("loop.example/kilnyard/impl.errMillFormLong", Rows.laid_loop_example_kilnyard_impl_errMillFormLong), ("loop.example/kilnyard/impl.errMillFormNumber", Rows.laid_loop_example_kilnyard_impl_errMillFormNumber), ("loop.example/kilnyard/impl.millInsRows", Rows.laid_loop_example_kilnyard_impl_millInsRows)] W ∧ handlesMet Tryz.prog [("errors.errorType", Rows.laid_errors_errorType)] W := h
 refine ⟨?_, h'.1⟩
 obtain ⟨name, u, ty, e1, e2, e3, e4, e5⟩ := h'.2 _ (List.mem_singleton.2 rfl)
 have en : name = [101, 114, 114, 111, 114] := (Option.some.inj e1).symm
 subst en
 obtain rfl := Option.some.inj (rt.symm.trans e2)
 have hm : ty ∈ (List.range (371 - 100)).filter fun t => Tryz.prog.rowNamed t [101, 114, 114, 111, 114] := List.mem_filter.2 ⟨List.mem_range.2 (by rw [← tsize]; exact e3), e4⟩
 rw [oneRow] at hm
 obtain rfl := List.mem_singleton.1 hm
 have hh : typeHandle Tryz.prog 43 = .pointer (some ⟨7, 43, none⟩) := by kernel_rfl
 rw [hh] at e5
 have h9 := World.var?_cell et e5 0
 unfold ErrT
 simpa using h9
theorem envF_of {W : World} (h : laidMet Tryz.prog [("loop.example/kilnyard/impl.millBuiltSigns", Rows.laid_loop_example_kilnyard_impl_millBuiltSigns), ("loop.example/kilnyard/impl.errMillFormBegins", Rows.laid_loop_example_kilnyard_impl_errMillFormBegins), ("loop.example/kilnyard/impl.errMillFormEnds", Rows.laid_loop_example_kilnyard_impl_errMillFormEnds), ("loop.example/kilnyard/impl.errMillFormLong", Rows.laid_loop_example_kilnyard_impl_errMillFormLong), ("loop.example/kilnyard/impl.errMillFormNumber", Rows.laid_loop_example_kilnyard_impl_errMillFormNumber), ("loop.example/kilnyard/impl.millInsRows", Rows.laid_loop_example_kilnyard_impl_millInsRows)] W) : EnvF W ∧ EnvI W := by
 have h1 := h.tail
 have h2 := h1.tail
 have h3 := h2.tail
 have h4 := h3.tail
 have h5 := h4.tail
 obtain ⟨a1, s1, v1, _⟩ := laid_sentinel h1 gBegins gBeginsType Tryz.underlying43 rowErr Tryz.underlying241 Tryz.underlying260 rfl rfl Tryz.underlying9 cellsErr cellsStr
 obtain ⟨a2, s2, v2, _⟩ := laid_sentinel h2 gEnds gEndsType Tryz.underlying43 rowErr Tryz.underlying241 Tryz.underlying260 rfl rfl Tryz.underlying9 cellsErr cellsStr
 obtain ⟨a3, s3, v3, _⟩ := laid_sentinel h3 gLong gLongType Tryz.underlying43 rowErr Tryz.underlying241 Tryz.underlying260 rfl rfl Tryz.underlying9 cellsErr cellsStr
 obtain ⟨a4, s4, v4, _⟩ := laid_sentinel h4 gNumber gNumberType Tryz.underlying43 rowErr Tryz.underlying241 Tryz.underlying260 rfl rfl Tryz.underlying9 cellsErr cellsStr
 have k1 := World.var?_cell gBegins v1 0
 have k2 := World.var?_cell gEnds v2 0
 have k3 := World.var?_cell gLong v3 0
 have k4 := World.var?_cell gNumber v4 0
 have hI := envI_of h h5
 exact ⟨⟨⟨_, _, by simpa using k3⟩, ⟨_, _, by simpa using k1⟩, ⟨_, _, by simpa using k2⟩, ⟨_, _, by simpa using k4⟩, fun o h1 h2 => by obtain ⟨_, a, _⟩ := hI.rows o h1 h2; exact a⟩, hI⟩
def putCells (cs : Array Value) : Obj → Obj
 | .cells _ t frozen => .cells cs t frozen
 | o => o
def startIn : Input := ⟨#[.cells #[.int .i64 2] 3, .cells #[.int .i64 2] 3, .cells #[.int .i64 2] 3, .cells #[.int .i64 2, .int .i64 2] 3, .cells #[.int .i64 2] 3, .cells #[.int .i64 2, .int .i64 10] 3, .cells #[.int .i64 2, .int .i64 10, .int .i64 10] 3, .cells #[.int .i64 2, .int .i64 2] 3, .cells #[.int .i64 3] 3, .cells #[.int .i64 (-1)] 3, .cells #[.int .i64 2] 3, .cells #[.int .i64 (-2)] 3, .cells #[.int .i64 (-2)] 3, .cells #[.int .i64 (-2)] 3, .cells #[.int .i64 (-2), .int .i64 (-2)] 3, .cells #[.int .i64 (-1)] 3, .cells #[.int .i64 1] 3, .cells #[.int .i64 2] 3, .cells #[.int .i64 2, .int .i64 2] 3, .cells #[.int .i64 2] 3, .cells #[.string ⟨#[105, 116, 32, 98, 101, 103, 105, 110, 115, 32, 111, 116, 104, 101, 114, 119, 105, 115, 101]⟩] 260, .cells #[.string ⟨#[105, 116, 32, 101, 110, 100, 115, 32, 116, 111, 111, 32, 101, 97, 114, 108, 121]⟩] 260, .cells #[.string ⟨#[105, 116, 32, 103, 111, 101, 115, 32, 111, 110, 32, 116, 111, 111, 32, 108, 111, 110, 103]⟩] 260, .cells #[.string ⟨#[116, 104, 101, 114, 101, 32, 105, 115, 32, 110, 111, 32, 115, 117, 99, 104, 32, 110, 117, 109, 98, 101, 114]⟩] 260], #[], []⟩
theorem trodVars_len {H : Type} {enc : TypeId × Value → H} {P : Program} {w : World} {spare : Nat → Bool} : ∀ (ns : List String) (gs : List (DataW H)) (ps : List MemPlace), DataW.TrodVars enc P w spare ns gs ps → gs.length = ns.length := by
 intro ns
 induction ns with
 | nil => intro gs ps h; obtain ⟨rfl, _⟩ := trodVars_none h; rfl
 | cons n ns ih =>
  intro gs ps h
  cases gs with
  | nil => simp [DataW.TrodVars] at h
  | cons d ds =>
   obtain ⟨g, t, cs, fuel, p, q, h1, h2, h3, h4, hs, e⟩ := h
   simp [ih ds q hs]
theorem varsOk : varsRowed Tryz.prog Rows.fnExactMillReadCodeSpec.vars = true := by kernel_rfl
set_option maxHeartbeats 2000000 in
set_option maxRecDepth 100000 in
theorem contract (H : Type) (enc : TypeId × Value → H) (W : World) (base : Nat) (args : Array Value) (ds gs : List (DataW H)) (before : List MemPlace)
  (hval : ∀ (j : Nat) t v, Tryz.f4.params[j]? = some t → args[j]? = some v → Value.okWide Tryz.prog W .any base t v)
  (hW : DataW.Whole enc Tryz.prog Tryz.f4.params.toList Rows.fnExactMillReadCodeSpec.vars false W args.toList ds gs before) (hL : laidMetH Tryz.prog Rows.fnExactMillReadCodeRow.laid W) :
  Calls Tryz.prog 4 args W fun e W' => ∃ v, e = .returned v ∧ Rows.fnExactMillReadCodeSpec.post enc Tryz.prog Tryz.f4 false true false false W args v W' := by
 have hW' := hW
 obtain ⟨p, q, hA0, hV, rfl, hfz, hnd⟩ := hW
 have hA : DataW.TrodAll enc Tryz.prog W 0 (fun _ => true) true Tryz.f4.params.toList args.toList ds p := hA0
 rw [Tryz.params4] at hA hval
 obtain ⟨v0, vs0, d0, ds0, p0, q0, hargs, rfl, rfl, h0, r0⟩ := trodAll_cons hA
 obtain ⟨rfl, rfl, rfl⟩ := trodAll_nil r0
 obtain rfl : args = #[v0] := by cases args; simp_all
 obtain ⟨s, rfl, rfl, rfl, hs⟩ := open_string Tryz.underlying9 (hval 0 9 v0 rfl rfl) h0
 clear hA0
 obtain ⟨g1, g2, g3, g4, g5, g6, hg1⟩ : ∃ g1 g2 g3 g4 g5 g6, gs = [g1, g2, g3, g4, g5, g6] := by
  have := trodVars_len _ _ _ hV
  match gs, this with
  | [g1, g2, g3, g4, g5, g6], _ => exact ⟨g1, g2, g3, g4, g5, g6, rfl⟩
 subst hg1
 simp only [List.append_nil, List.nil_append] at hW'
 obtain ⟨hT, hL2⟩ := errT_of hL
 refine (law_read s W (envF_of hL2).1 (envF_of hL2).2 hT).mono fun e W' ⟨he, hnx⟩ => ?_
 subst he
 refine ⟨_, rfl, _, _, _, [], [], q, hW', ?_, ?_, ?_, hnx.frame _, fun h => by cases h⟩
 ·exact trodAll_mk1 (shut_bool Tryz.underlying4 _)
 ·exact trodAll_mk1 (shut_string Tryz.underlying9 hs)
 ·exact hnx.trodVars laidOut varsOk hV
theorem laid_met (os : Os) : laidMetH Tryz.prog Rows.fnExactMillReadCodeRow.laid (({ World.holding Tryz.prog os startIn with heap := ((((((((World.holding Tryz.prog os startIn).heap.modify 1 (putCells #[.iface 241 (.pointer (some ⟨(World.holding Tryz.prog default ⟨#[], #[], []⟩).heap.size + 20, 0, none⟩))])).modify 5 (putCells #[.iface 241 (.pointer (some ⟨(World.holding Tryz.prog default ⟨#[], #[], []⟩).heap.size + 21, 0, none⟩))])).modify 0 (putCells #[.iface 241 (.pointer (some ⟨(World.holding Tryz.prog default ⟨#[], #[], []⟩).heap.size + 22, 0, none⟩))])).modify 4 (putCells #[.iface 241 (.pointer (some ⟨(World.holding Tryz.prog default ⟨#[], #[], []⟩).heap.size + 23, 0, none⟩))])).modify 2 (putCells #[.iface 151 (.agg #[.pointer (some ⟨7, 43, none⟩)])])).modify 6 (putCells #[.slice none 0 0, .int .i64 0, .slice (some ⟨(World.holding Tryz.prog default ⟨#[], #[], []⟩).heap.size + 0, 0, none⟩) 1 1, .int .i64 2, .slice (some ⟨(World.holding Tryz.prog default ⟨#[], #[], []⟩).heap.size + 1, 0, none⟩) 1 1, .int .i64 1, .slice (some ⟨(World.holding Tryz.prog default ⟨#[], #[], []⟩).heap.size + 2, 0, none⟩) 1 1, .int .i64 2, .slice (some ⟨(World.holding Tryz.prog default ⟨#[], #[], []⟩).heap.size + 3, 0, none⟩) 2 2, .int .i64 2, .slice none 0 0, .int .i64 2, .slice (some ⟨(World.holding Tryz.prog default ⟨#[], #[], []⟩).heap.size + 4, 0, none⟩) 1 1, .int .i64 10, .slice (some ⟨(World.holding Tryz.prog default ⟨#[], #[], []⟩).heap.size + 5, 0, none⟩) 2 2, .int .i64 3, .slice (some ⟨(World.holding Tryz.prog default ⟨#[], #[], []⟩).heap.size + 6, 0, none⟩) 3 3, .int .i64 2, .slice (some ⟨(World.holding Tryz.prog default ⟨#[], #[], []⟩).heap.size + 7, 0, none⟩) 2 2, .int .i64 10, .slice (some ⟨(World.holding Tryz.prog default ⟨#[], #[], []⟩).heap.size + 8, 0, none⟩) 1 1, .int .i64 2, .slice (some ⟨(World.holding Tryz.prog default ⟨#[], #[], []⟩).heap.size + 9, 0, none⟩) 1 1, .int .i64 2, .slice (some ⟨(World.holding Tryz.prog default ⟨#[], #[], []⟩).heap.size + 10, 0, none⟩) 1 1, .int .i64 10])).modify 3 (putCells #[.int .i64 0, .slice none 0 0, .int .i64 0, .int .i64 1, .slice none 0 0, .int .i64 1, .int .i64 2, .slice none 0 0, .int .i64 2, .int .i64 2, .slice (some ⟨(World.holding Tryz.prog default ⟨#[], #[], []⟩).heap.size + 11, 0, none⟩) 1 1, .int .i64 0, .int .i64 0, .slice (some ⟨(World.holding Tryz.prog default ⟨#[], #[], []⟩).heap.size + 12, 0, none⟩) 1 1, .int .i64 0, .int .i64 3, .slice (some ⟨(World.holding Tryz.prog default ⟨#[], #[], []⟩).heap.size + 13, 0, none⟩) 1 1, .int .i64 3, .int .i64 4, .slice (some ⟨(World.holding Tryz.prog default ⟨#[], #[], []⟩).heap.size + 14, 0, none⟩) 2 2, .int .i64 4, .int .i64 5, .slice (some ⟨(World.holding Tryz.prog default ⟨#[], #[], []⟩).heap.size + 15, 0, none⟩) 1 1, .int .i64 1, .int .i64 6, .slice none 0 0, .int .i64 5, .int .i64 7, .slice none 0 0, .int .i64 6, .int .i64 8, .slice none 0 0, .int .i64 0, .int .i64 8, .slice (some ⟨(World.holding Tryz.prog default ⟨#[], #[], []⟩).heap.size + 16, 0, none⟩) 1 1, .int .i64 0, .int .i64 9, .slice none 0 0, .int .i64 0, .int .i64 0, .slice (some ⟨(World.holding Tryz.prog default ⟨#[], #[], []⟩).heap.size + 17, 0, none⟩) 1 1, .int .i64 0, .int .i64 0, .slice (some ⟨(World.holding Tryz.prog default ⟨#[], #[], []⟩).heap.size + 18, 0, none⟩) 2 2, .int .i64 0, .int .i64 0, .slice (some ⟨(World.holding Tryz.prog default ⟨#[], #[], []⟩).heap.size + 19, 0, none⟩) 1 1, .int .i64 0, .int .i64 0, .slice none 0 0, .int .i64 0])) } : World).forCall (fun _ _ => 0) ⟨#[], #[.string ⟨#[]⟩], []⟩).memory :=
 laidMetH_of_parts (laidMet_of_run' 8 (by kernel_rfl) (by kernel_rfl)) (by kernel_rfl)
theorem reads (os : Os) {H : Type} (enc : TypeId × Value → H) : ∃ gs places, DataW.whole enc Tryz.prog (({ World.holding Tryz.prog os startIn with heap := ((((((((World.holding Tryz.prog os startIn).heap.modify 1 (putCells #[.iface 241 (.pointer (some ⟨(World.holding Tryz.prog default ⟨#[], #[], []⟩).heap.size + 20, 0, none⟩))])).modify 5 (putCells #[.iface 241 (.pointer (some ⟨(World.holding Tryz.prog default ⟨#[], #[], []⟩).heap.size + 21, 0, none⟩))])).modify 0 (putCells #[.iface 241 (.pointer (some ⟨(World.holding Tryz.prog default ⟨#[], #[], []⟩).heap.size + 22, 0, none⟩))])).modify 4 (putCells #[.iface 241 (.pointer (some ⟨(World.holding Tryz.prog default ⟨#[], #[], []⟩).heap.size + 23, 0, none⟩))])).modify 2 (putCells #[.iface 151 (.agg #[.pointer (some ⟨7, 43, none⟩)])])).modify 6 (putCells #[.slice none 0 0, .int .i64 0, .slice (some ⟨(World.holding Tryz.prog default ⟨#[], #[], []⟩).heap.size + 0, 0, none⟩) 1 1, .int .i64 2, .slice (some ⟨(World.holding Tryz.prog default ⟨#[], #[], []⟩).heap.size + 1, 0, none⟩) 1 1, .int .i64 1, .slice (some ⟨(World.holding Tryz.prog default ⟨#[], #[], []⟩).heap.size + 2, 0, none⟩) 1 1, .int .i64 2, .slice (some ⟨(World.holding Tryz.prog default ⟨#[], #[], []⟩).heap.size + 3, 0, none⟩) 2 2, .int .i64 2, .slice none 0 0, .int .i64 2, .slice (some ⟨(World.holding Tryz.prog default ⟨#[], #[], []⟩).heap.size + 4, 0, none⟩) 1 1, .int .i64 10, .slice (some ⟨(World.holding Tryz.prog default ⟨#[], #[], []⟩).heap.size + 5, 0, none⟩) 2 2, .int .i64 3, .slice (some ⟨(World.holding Tryz.prog default ⟨#[], #[], []⟩).heap.size + 6, 0, none⟩) 3 3, .int .i64 2, .slice (some ⟨(World.holding Tryz.prog default ⟨#[], #[], []⟩).heap.size + 7, 0, none⟩) 2 2, .int .i64 10, .slice (some ⟨(World.holding Tryz.prog default ⟨#[], #[], []⟩).heap.size + 8, 0, none⟩) 1 1, .int .i64 2, .slice (some ⟨(World.holding Tryz.prog default ⟨#[], #[], []⟩).heap.size + 9, 0, none⟩) 1 1, .int .i64 2, .slice (some ⟨(World.holding Tryz.prog default ⟨#[], #[], []⟩).heap.size + 10, 0, none⟩) 1 1, .int .i64 10])).modify 3 (putCells #[.int .i64 0, .slice none 0 0, .int .i64 0, .int .i64 1, .slice none 0 0, .int .i64 1, .int .i64 2, .slice none 0 0, .int .i64 2, .int .i64 2, .slice (some ⟨(World.holding Tryz.prog default ⟨#[], #[], []⟩).heap.size + 11, 0, none⟩) 1 1, .int .i64 0, .int .i64 0, .slice (some ⟨(World.holding Tryz.prog default ⟨#[], #[], []⟩).heap.size + 12, 0, none⟩) 1 1, .int .i64 0, .int .i64 3, .slice (some ⟨(World.holding Tryz.prog default ⟨#[], #[], []⟩).heap.size + 13, 0, none⟩) 1 1, .int .i64 3, .int .i64 4, .slice (some ⟨(World.holding Tryz.prog default ⟨#[], #[], []⟩).heap.size + 14, 0, none⟩) 2 2, .int .i64 4, .int .i64 5, .slice (some ⟨(World.holding Tryz.prog default ⟨#[], #[], []⟩).heap.size + 15, 0, none⟩) 1 1, .int .i64 1, .int .i64 6, .slice none 0 0, .int .i64 5, .int .i64 7, .slice none 0 0, .int .i64 6, .int .i64 8, .slice none 0 0, .int .i64 0, .int .i64 8, .slice (some ⟨(World.holding Tryz.prog default ⟨#[], #[], []⟩).heap.size + 16, 0, none⟩) 1 1, .int .i64 0, .int .i64 9, .slice none 0 0, .int .i64 0, .int .i64 0, .slice (some ⟨(World.holding Tryz.prog default ⟨#[], #[], []⟩).heap.size + 17, 0, none⟩) 1 1, .int .i64 0, .int .i64 0, .slice (some ⟨(World.holding Tryz.prog default ⟨#[], #[], []⟩).heap.size + 18, 0, none⟩) 2 2, .int .i64 0, .int .i64 0, .slice (some ⟨(World.holding Tryz.prog default ⟨#[], #[], []⟩).heap.size + 19, 0, none⟩) 1 1, .int .i64 0, .int .i64 0, .slice none 0 0, .int .i64 0])) } : World).forCall (fun _ _ => 0) ⟨#[], #[.string ⟨#[]⟩], []⟩).memory Tryz.f4.params.toList Rows.fnExactMillReadCodeSpec.vars false #[Value.string ⟨#[]⟩].toList 8 = some ([.lit (.string [])], gs, places) := by
 have h : (DataW.whole enc Tryz.prog (({ World.holding Tryz.prog os startIn with heap := ((((((((World.holding Tryz.prog os startIn).heap.modify 1 (putCells #[.iface 241 (.pointer (some ⟨(World.holding Tryz.prog default ⟨#[], #[], []⟩).heap.size + 20, 0, none⟩))])).modify 5 (putCells #[.iface 241 (.pointer (some ⟨(World.holding Tryz.prog default ⟨#[], #[], []⟩).heap.size + 21, 0, none⟩))])).modify 0 (putCells #[.iface 241 (.pointer (some ⟨(World.holding Tryz.prog default ⟨#[], #[], []⟩).heap.size + 22, 0, none⟩))])).modify 4 (putCells #[.iface 241 (.pointer (some ⟨(World.holding Tryz.prog default ⟨#[], #[], []⟩).heap.size + 23, 0, none⟩))])).modify 2 (putCells #[.iface 151 (.agg #[.pointer (some ⟨7, 43, none⟩)])])).modify 6 (putCells #[.slice none 0 0, .int .i64 0, .slice (some ⟨(World.holding Tryz.prog default ⟨#[], #[], []⟩).heap.size + 0, 0, none⟩) 1 1, .int .i64 2, .slice (some ⟨(World.holding Tryz.prog default ⟨#[], #[], []⟩).heap.size + 1, 0, none⟩) 1 1, .int .i64 1, .slice (some ⟨(World.holding Tryz.prog default ⟨#[], #[], []⟩).heap.size + 2, 0, none⟩) 1 1, .int .i64 2, .slice (some ⟨(World.holding Tryz.prog default ⟨#[], #[], []⟩).heap.size + 3, 0, none⟩) 2 2, .int .i64 2, .slice none 0 0, .int .i64 2, .slice (some ⟨(World.holding Tryz.prog default ⟨#[], #[], []⟩).heap.size + 4, 0, none⟩) 1 1, .int .i64 10, .slice (some ⟨(World.holding Tryz.prog default ⟨#[], #[], []⟩).heap.size + 5, 0, none⟩) 2 2, .int .i64 3, .slice (some ⟨(World.holding Tryz.prog default ⟨#[], #[], []⟩).heap.size + 6, 0, none⟩) 3 3, .int .i64 2, .slice (some ⟨(World.holding Tryz.prog default ⟨#[], #[], []⟩).heap.size + 7, 0, none⟩) 2 2, .int .i64 10, .slice (some ⟨(World.holding Tryz.prog default ⟨#[], #[], []⟩).heap.size + 8, 0, none⟩) 1 1, .int .i64 2, .slice (some ⟨(World.holding Tryz.prog default ⟨#[], #[], []⟩).heap.size + 9, 0, none⟩) 1 1, .int .i64 2, .slice (some ⟨(World.holding Tryz.prog default ⟨#[], #[], []⟩).heap.size + 10, 0, none⟩) 1 1, .int .i64 10])).modify 3 (putCells #[.int .i64 0, .slice none 0 0, .int .i64 0, .int .i64 1, .slice none 0 0, .int .i64 1, .int .i64 2, .slice none 0 0, .int .i64 2, .int .i64 2, .slice (some ⟨(World.holding Tryz.prog default ⟨#[], #[], []⟩).heap.size + 11, 0, none⟩) 1 1, .int .i64 0, .int .i64 0, .slice (some ⟨(World.holding Tryz.prog default ⟨#[], #[], []⟩).heap.size + 12, 0, none⟩) 1 1, .int .i64 0, .int .i64 3, .slice (some ⟨(World.holding Tryz.prog default ⟨#[], #[], []⟩).heap.size + 13, 0, none⟩) 1 1, .int .i64 3, .int .i64 4, .slice (some ⟨(World.holding Tryz.prog default ⟨#[], #[], []⟩).heap.size + 14, 0, none⟩) 2 2, .int .i64 4, .int .i64 5, .slice (some ⟨(World.holding Tryz.prog default ⟨#[], #[], []⟩).heap.size + 15, 0, none⟩) 1 1, .int .i64 1, .int .i64 6, .slice none 0 0, .int .i64 5, .int .i64 7, .slice none 0 0, .int .i64 6, .int .i64 8, .slice none 0 0, .int .i64 0, .int .i64 8, .slice (some ⟨(World.holding Tryz.prog default ⟨#[], #[], []⟩).heap.size + 16, 0, none⟩) 1 1, .int .i64 0, .int .i64 9, .slice none 0 0, .int .i64 0, .int .i64 0, .slice (some ⟨(World.holding Tryz.prog default ⟨#[], #[], []⟩).heap.size + 17, 0, none⟩) 1 1, .int .i64 0, .int .i64 0, .slice (some ⟨(World.holding Tryz.prog default ⟨#[], #[], []⟩).heap.size + 18, 0, none⟩) 2 2, .int .i64 0, .int .i64 0, .slice (some ⟨(World.holding Tryz.prog default ⟨#[], #[], []⟩).heap.size + 19, 0, none⟩) 1 1, .int .i64 0, .int .i64 0, .slice none 0 0, .int .i64 0])) } : World).forCall (fun _ _ => 0) ⟨#[], #[.string ⟨#[]⟩], []⟩).memory Tryz.f4.params.toList Rows.fnExactMillReadCodeSpec.vars false #[Value.string ⟨#[]⟩].toList 8).map (·.1) = some [.lit (.string [])] := by kernel_rfl
 obtain ⟨⟨x, gs, places⟩, hx, rfl⟩ := Option.map_eq_some_iff.1 h
 exact ⟨gs, places, hx⟩
set_option maxRecDepth 100000 in
theorem lifted (os : Os) (started : os.Started) (H : Type) (enc : TypeId × Value → H) (F : Stop.Interp) :
  ReturnsInHanded {} Tryz.checked os 4 .any ((OpenSpec.ofChange Rows.fnExactMillReadCodeSpec).preRow enc Tryz.prog Tryz.f4 Rows.fnExactMillReadCodeRow.domain false Rows.fnExactMillReadCodeRow.laid) (((OpenSpec.ofChange Rows.fnExactMillReadCodeSpec).at F).post enc Tryz.prog Tryz.f4 false true false false) := by
 obtain ⟨gs, places, hx⟩ := reads os enc
 refine returnsInHanded_of_row (C := Tryz.checked) (s := OpenSpec.ofChange Rows.fnExactMillReadCodeSpec) own started (by kernel_rfl) Tryz.func4
  (witness_row_atRef (enc := enc) (C := Tryz.checked) false ({ World.holding Tryz.prog os startIn with heap := ((((((((World.holding Tryz.prog os startIn).heap.modify 1 (putCells #[.iface 241 (.pointer (some ⟨(World.holding Tryz.prog default ⟨#[], #[], []⟩).heap.size + 20, 0, none⟩))])).modify 5 (putCells #[.iface 241 (.pointer (some ⟨(World.holding Tryz.prog default ⟨#[], #[], []⟩).heap.size + 21, 0, none⟩))])).modify 0 (putCells #[.iface 241 (.pointer (some ⟨(World.holding Tryz.prog default ⟨#[], #[], []⟩).heap.size + 22, 0, none⟩))])).modify 4 (putCells #[.iface 241 (.pointer (some ⟨(World.holding Tryz.prog default ⟨#[], #[], []⟩).heap.size + 23, 0, none⟩))])).modify 2 (putCells #[.iface 151 (.agg #[.pointer (some ⟨7, 43, none⟩)])])).modify 6 (putCells #[.slice none 0 0, .int .i64 0, .slice (some ⟨(World.holding Tryz.prog default ⟨#[], #[], []⟩).heap.size + 0, 0, none⟩) 1 1, .int .i64 2, .slice (some ⟨(World.holding Tryz.prog default ⟨#[], #[], []⟩).heap.size + 1, 0, none⟩) 1 1, .int .i64 1, .slice (some ⟨(World.holding Tryz.prog default ⟨#[], #[], []⟩).heap.size + 2, 0, none⟩) 1 1, .int .i64 2, .slice (some ⟨(World.holding Tryz.prog default ⟨#[], #[], []⟩).heap.size + 3, 0, none⟩) 2 2, .int .i64 2, .slice none 0 0, .int .i64 2, .slice (some ⟨(World.holding Tryz.prog default ⟨#[], #[], []⟩).heap.size + 4, 0, none⟩) 1 1, .int .i64 10, .slice (some ⟨(World.holding Tryz.prog default ⟨#[], #[], []⟩).heap.size + 5, 0, none⟩) 2 2, .int .i64 3, .slice (some ⟨(World.holding Tryz.prog default ⟨#[], #[], []⟩).heap.size + 6, 0, none⟩) 3 3, .int .i64 2, .slice (some ⟨(World.holding Tryz.prog default ⟨#[], #[], []⟩).heap.size + 7, 0, none⟩) 2 2, .int .i64 10, .slice (some ⟨(World.holding Tryz.prog default ⟨#[], #[], []⟩).heap.size + 8, 0, none⟩) 1 1, .int .i64 2, .slice (some ⟨(World.holding Tryz.prog default ⟨#[], #[], []⟩).heap.size + 9, 0, none⟩) 1 1, .int .i64 2, .slice (some ⟨(World.holding Tryz.prog default ⟨#[], #[], []⟩).heap.size + 10, 0, none⟩) 1 1, .int .i64 10])).modify 3 (putCells #[.int .i64 0, .slice none 0 0, .int .i64 0, .int .i64 1, .slice none 0 0, .int .i64 1, .int .i64 2, .slice none 0 0, .int .i64 2, .int .i64 2, .slice (some ⟨(World.holding Tryz.prog default ⟨#[], #[], []⟩).heap.size + 11, 0, none⟩) 1 1, .int .i64 0, .int .i64 0, .slice (some ⟨(World.holding Tryz.prog default ⟨#[], #[], []⟩).heap.size + 12, 0, none⟩) 1 1, .int .i64 0, .int .i64 3, .slice (some ⟨(World.holding Tryz.prog default ⟨#[], #[], []⟩).heap.size + 13, 0, none⟩) 1 1, .int .i64 3, .int .i64 4, .slice (some ⟨(World.holding Tryz.prog default ⟨#[], #[], []⟩).heap.size + 14, 0, none⟩) 2 2, .int .i64 4, .int .i64 5, .slice (some ⟨(World.holding Tryz.prog default ⟨#[], #[], []⟩).heap.size + 15, 0, none⟩) 1 1, .int .i64 1, .int .i64 6, .slice none 0 0, .int .i64 5, .int .i64 7, .slice none 0 0, .int .i64 6, .int .i64 8, .slice none 0 0, .int .i64 0, .int .i64 8, .slice (some ⟨(World.holding Tryz.prog default ⟨#[], #[], []⟩).heap.size + 16, 0, none⟩) 1 1, .int .i64 0, .int .i64 9, .slice none 0 0, .int .i64 0, .int .i64 0, .slice (some ⟨(World.holding Tryz.prog default ⟨#[], #[], []⟩).heap.size + 17, 0, none⟩) 1 1, .int .i64 0, .int .i64 0, .slice (some ⟨(World.holding Tryz.prog default ⟨#[], #[], []⟩).heap.size + 18, 0, none⟩) 2 2, .int .i64 0, .int .i64 0, .slice (some ⟨(World.holding Tryz.prog default ⟨#[], #[], []⟩).heap.size + 19, 0, none⟩) 1 1, .int .i64 0, .int .i64 0, .slice none 0 0, .int .i64 0])) } : World) #[.string ⟨#[]⟩] rfl (by kernel_rfl) (by kernel_rfl) (by kernel_rfl)
   (OpenSpec.preRow_of_cond 8 hx (by kernel_rfl) (fun k hk => by cases hk) (by kernel_rfl) (laid_met os))) ?_
 intro W base args ds gs before hval hW _ _ _ hL _ _
 exact contract H enc W base args ds gs before hval hW hL
theorem said : Rows.FnExactMillReadCodeSaid :=
 OpenClaim.holds_of_cond 4 Tryz.f4 rfl rfl rfl rfl rfl rfl rfl ⟨rfl, rfl, rfl, rfl, rfl⟩ rfl rfl rfl rfl rfl (by kernel_rfl) Tryz.func4 (by kernel_rfl)
  (of_decide_eq_true (by kernel_rfl)) (by unfold Func.isWrapper; first | (rw [if_pos (by decide +kernel)]; kernel_rfl) | (rw [if_neg (by decide +kernel)]; exact ⟨rfl, rfl⟩))
  (fun os started H enc _ F => by rw [OpenClaim.pre_eq_preRow]; exact lifted os started H enc F)
theorem plain (f : FuncId) (fn : Func) (hf : Tryz.pinned.checked.prog.funcNamed "loop.example/kilnyard/laws.FnExactMillReadCode" = some f) (hfn : Tryz.pinned.checked.prog.funcs[f]? = some fn) :
  true = Tryz.pinned.checked.prog.looks [] ∧ ∀ (j : Nat) t, fn.params[j]? = some t → Tryz.pinned.checked.prog.wantsStandIn t = false := by
 obtain rfl : f = 4 := Option.some.inj ((show Tryz.prog.funcNamed "loop.example/kilnyard/laws.FnExactMillReadCode" = some 4 by kernel_rfl).symm.trans hf) |>.symm
 obtain rfl : fn = Tryz.f4 := (Option.some.inj (Tryz.func4.symm.trans hfn)).symm
 refine ⟨by kernel_rfl, fun j t ht => ?_⟩
 rw [Tryz.params4] at ht
 obtain rfl : t = 9 := by simpa using Array.mem_of_getElem? ht
 exact (show Tryz.prog.wantsStandIn 9 = false by kernel_rfl)
theorem card : Rows.FnExactMillReadCodeCardSaid :=
 Claim7.holds_tied_plain_at .later [] _ _ _ _ said (fun _ h => by cases h) (by kernel_rfl) (fun _ h => by cases h) fnExactMillReadCode_row_tie rfl ⟨rfl, rfl⟩ (by kernel_rfl) rfl plain (by kernel_rfl)
end Go.Proofs.YtcjgcipacfcjnaaGreatDoor.C.D
namespace Go.Proofs.YtcjgcipacfcjnaaGreatDoor
theorem card_fnExactMillReadCode : Rows.FnExactMillReadCodeCardSaid := C.D.card
#print axioms card_fnExactMillReadCode
end Go.Proofs.YtcjgcipacfcjnaaGreatDoor
