import Derived.Test.YtjbhadpdbcelcaaDoorCards
import Derived.Test.YtjbhadpdbcelcaaDoorTie
import Derived.Test.YtjbhadpdbcelcaaDoorQLaw
import Derived.Test.YtjbhadpdbcelcaaDoorQLOpen
import Derived.WalkKit
import Derived.ProofKit
import Derived.OpenShut
import Derived.Deep.DeepHandedRow
import Derived.Lib.LaidTab
import Derived.OpenVars
namespace Go.Proofs.YtjbhadpdbcelcaaDoor.Q
open Go.ChangeShapes Go.WideShapes Go.ChangeAt Go.RowKit
theorem own : ownKnob Tryd.prog.godebug = none := by kernel_rfl
theorem laidOut : laidOutB Tryd.prog = true := by kernel_rfl
theorem readT : Tryd.prog.readableRec 24 = true := by kernel_rfl
theorem gMB : Tryd.prog.globalNamed "loop.example/kilnyard/impl.millBuilts" = some 0 := by kernel_rfl
theorem gMBType : (Tryd.prog.globals[0]?).map (·.type) = some 69 := by kernel_rfl
theorem cellsMC : Tryd.prog.cellsOf 68 = 2 := by kernel_rfl
theorem varsOk : varsRowed Tryd.prog ["loop.example/kilnyard/impl.millBuilts"] = true := by kernel_rfl
/-- An array of texts with numbers that reads as these has just these numbers. -/
theorem cell_of_pairs {H : Type} {enc : TypeId × Value → H} {P : Program} {w : World} {base : Nat} {sp : Nat → Bool} {held : Bool} {fuel : Nat} {t e : TypeId} {n : Nat} {cs : List Value} {zs : List (List UInt8 × Int)} {p : List MemPlace} {fs : Array Field} {f : Field}
    (ht : P.underlying t = some (.array n e)) (he : P.underlying e = some (.struct fs)) (hfs : fs.size = 2) (hf1 : fs[1]? = some f) (hfo : f.offset = 1) (hfi : P.underlying f.type = some (.int .i64)) (hcf : P.cellsOf f.type = 1) (hce : P.cellsOf e = 2)
    (h : DataW.trod enc P w base sp held fuel t cs = some (.agg (zs.map fun z => .agg [.lit (.string z.1), .lit (.int .i64 z.2)]), p)) : ∀ (i : Nat) (z : List UInt8 × Int), zs[i]? = some z → cs[i * 2 + 1]? = some (.int .i64 z.2) := by
  obtain ⟨xs, m, rfl, hx, _, hl, hel⟩ := DataW.trod_array ht h
  have hxs : xs.map (·.1) = zs.map fun z => (DataW.agg [.lit (.string z.1), .lit (.int .i64 z.2)] : DataW H) := by
    have := congrArg Prod.fst hx
    simpa using this.symm
  have hzl : zs.length = n := by
    have := congrArg List.length hxs
    simp at this
    omega
  intro i z hz
  have hi : i < n := by
    have := (List.getElem?_eq_some_iff.1 hz).1
    omega
  have e1 := hel i hi
  rw [hce] at e1
  obtain ⟨b, hb⟩ : ∃ b, xs[i]? = some b := ⟨xs[i]'(by omega), List.getElem?_eq_getElem (by omega)⟩
  rw [hb] at e1
  have hb1 : b.1 = DataW.agg [.lit (.string z.1), .lit (.int .i64 z.2)] := by
    have := congrArg (·[i]?) hxs
    simpa [hb, hz] using this
  obtain ⟨ys, m2, _, hbx, _, hyl, hyf⟩ := DataW.trod_struct he e1
  have g1 := hyf 1 f hf1
  rw [hfo, hcf] at g1
  obtain ⟨y, hy⟩ : ∃ y, ys[1]? = some y := ⟨ys[1]'(by omega), List.getElem?_eq_getElem (by omega)⟩
  rw [hy] at g1
  obtain ⟨v, hv, hyv, _⟩ := DataW.trod_int hfi g1
  rw [hbx] at hb1
  simp only [DataW.agg.injEq] at hb1
  have hv2 : v = z.2 := by
    have := congrArg (·[1]?) hb1
    simpa [hy, hyv] using this
  subst hv2
  have := congrArg (·[0]?) hv
  simpa [List.getElem?_take, List.getElem?_drop] using this
def pairs : List (List UInt8 × Int) := [([], 0), ([114, 101, 97, 100], 1), ([104, 97, 115], 1), ([108, 105, 115, 116], 1), ([116, 111, 111, 108], 2), ([97, 114, 103], 0), ([108, 101, 110], 1), ([97, 116], 2), ([99, 117, 116], 3), ([102, 105, 110, 100], 2), ([99, 104, 114], 1), ([100, 101, 99], 1), ([110, 117, 109], 1)]
/-- What the row's list gives. -/
theorem env_of_laid {W : World} (h : laidMetH Tryd.prog [("loop.example/kilnyard/impl.millBuilts", Rows.laid_loop_example_kilnyard_impl_millBuilts)] W) : EnvB W := by
  have h1 : laidMet Tryd.prog [("loop.example/kilnyard/impl.millBuilts", Rows.laid_loop_example_kilnyard_impl_millBuilts)] W := h
  obtain ⟨ps, ⟨g', t', cs, fuel, p, q, hg', ht', hvar, hd, _, _⟩, _⟩ := h1
  obtain rfl := Option.some.inj (gMB.symm.trans hg')
  obtain rfl := Option.some.inj (gMBType.symm.trans ht')
  have hc := cell_of_pairs (zs := pairs) Tryd.underlying69 Tryd.underlying68 rfl rfl rfl Tryd.underlying3 cellsInt cellsMC hd
  unfold World.var? at hvar
  rw [gMB] at hvar
  simp only [Option.bind_some] at hvar
  split at hvar
  · rename_i cs' t fr hh
    cases hvar
    have hcell : ∀ i, W.cell? ⟨0, i, none⟩ = cs[i]? := fun i => by
      unfold World.cell?
      rw [hh]; rfl
    have hk : ∀ (i : Nat) (z : List UInt8 × Int), pairs[i]? = some z → W.cell? ⟨0, i * 2 + 1, none⟩ = some (.int .i64 z.2) := fun i z hz => by
      rw [hcell]
      have := hc i z hz
      simpa using this
    exact ⟨(Array.getElem?_eq_some_iff.1 hh).1, hk 1 _ rfl, hk 2 _ rfl, hk 3 _ rfl, hk 4 _ rfl, hk 5 _ rfl, hk 6 _ rfl, hk 7 _ rfl, hk 8 _ rfl, hk 9 _ rfl, hk 10 _ rfl, hk 11 _ rfl, hk 12 _ rfl⟩
  · cases hvar
def putCells (cs : Array Value) : Obj → Obj
  | .cells _ t frozen => .cells cs t frozen
  | o => o
def tabMB : Array Value := #[.string ⟨#[]⟩, .int .i64 0, .string ⟨#[114, 101, 97, 100]⟩, .int .i64 1, .string ⟨#[104, 97, 115]⟩, .int .i64 1, .string ⟨#[108, 105, 115, 116]⟩, .int .i64 1, .string ⟨#[116, 111, 111, 108]⟩, .int .i64 2, .string ⟨#[97, 114, 103]⟩, .int .i64 0, .string ⟨#[108, 101, 110]⟩, .int .i64 1, .string ⟨#[97, 116]⟩, .int .i64 2, .string ⟨#[99, 117, 116]⟩, .int .i64 3, .string ⟨#[102, 105, 110, 100]⟩, .int .i64 2, .string ⟨#[99, 104, 114]⟩, .int .i64 1, .string ⟨#[100, 101, 99]⟩, .int .i64 1, .string ⟨#[110, 117, 109]⟩, .int .i64 1]
def startIn : Input := ⟨#[], #[], []⟩
set_option maxRecDepth 100000 in
theorem contract_fnExactMillValidTree (H : Type) (enc : TypeId × Value → H) (W : World) (base : Nat) (args : Array Value) (ds gs : List (DataW H)) (before : List MemPlace)
    (hval : ∀ (j : Nat) t v, Tryd.f3.params[j]? = some t → args[j]? = some v → Value.okWide Tryd.prog W .any base t v)
    (hW : DataW.Whole enc Tryd.prog Tryd.f3.params.toList Rows.fnExactMillValidTreeSpec.vars false W args.toList ds gs before) (hL : laidMetH Tryd.prog Rows.fnExactMillValidTreeRow.laid W) :
    Calls Tryd.prog 3 args W fun e W' => ∃ v, e = .returned v ∧ Rows.fnExactMillValidTreeSpec.post enc Tryd.prog Tryd.f3 false true false false W args v W' := by
  have hW' := hW
  obtain ⟨p, q, hA0, hV, rfl, hfz, hnd⟩ := hW
  have hA : DataW.TrodAll enc Tryd.prog W 0 (fun _ => true) true Tryd.f3.params.toList args.toList ds p := hA0
  rw [Tryd.params3] at hA hval
  obtain ⟨v0, vs0, d0, ds0, p0, q0, hargs, rfl, rfl, h0, r0⟩ := trodAll_cons hA
  obtain ⟨rfl, rfl, rfl⟩ := trodAll_nil r0
  obtain rfl : args = #[v0] := by cases args; simp_all
  obtain ⟨ad, N, cap, nd, rfl, hN, hn, ht⟩ := tree_open (hval 0 24 v0 rfl rfl) h0
  have hlt : ∀ x ∈ p0, x.block < W.heap.size := fun x hx => DataW.TrodAll.lt hA x (by simpa using hx)
  clear hA0
  obtain ⟨g1, hg1⟩ : ∃ g1, gs = [g1] := by
    obtain ⟨_, _, _, _, d, _, e, _⟩ := trodVars_one hV
    exact ⟨d, e⟩
  subst hg1
  simp only [List.append_nil] at hW'
  refine (law_any ad N cap nd W (env_of_laid hL) hN hn ht).mono fun e W' ⟨he, hnx⟩ => ?_
  subst he
  refine ⟨_, rfl, _, _, _, [], p0, q, hW', ?_, ?_, ?_, hnx.frame _, fun h => by cases h⟩
  · exact trodAll_mk1 (shut_bool Tryd.underlying4 _)
  · exact trodAll_mk1 (hnx.trod laidOut readT (of_decide_eq_true (by kernel_rfl)) h0 hlt)
  · exact hnx.trodVars laidOut varsOk hV
theorem laid_met_fnExactMillValidTree (os : Os) : laidMet Tryd.prog Rows.fnExactMillValidTreeRow.laid (({ World.holding Tryd.prog os startIn with heap := ((World.holding Tryd.prog os startIn).heap.modify 0 (putCells tabMB)) } : World).forCall (fun _ _ => 0) ⟨#[], #[.agg #[.slice none 0 0]], []⟩).memory :=
  laidMet_of_run' 8 (by kernel_rfl) (by kernel_rfl)
theorem reads_fnExactMillValidTree (os : Os) {H : Type} (enc : TypeId × Value → H) : ∃ places, DataW.whole enc Tryd.prog (({ World.holding Tryd.prog os startIn with heap := ((World.holding Tryd.prog os startIn).heap.modify 0 (putCells tabMB)) } : World).forCall (fun _ _ => 0) ⟨#[], #[.agg #[.slice none 0 0]], []⟩).memory Tryd.f3.params.toList Rows.fnExactMillValidTreeSpec.vars false #[Value.agg #[.slice none 0 0]].toList 8 = some ([.agg [.nil]], [Rows.laid_loop_example_kilnyard_impl_millBuilts], places) :=
  ⟨MemPlace.row ⟨0, 0, none⟩ 26, by kernel_rfl⟩
set_option maxRecDepth 100000 in
theorem lifted_fnExactMillValidTree (os : Os) (started : os.Started) (H : Type) (enc : TypeId × Value → H) (F : Stop.Interp) :
    ReturnsInHanded {} Tryd.checked os 3 .any ((OpenSpec.ofChange Rows.fnExactMillValidTreeSpec).preRow enc Tryd.prog Tryd.f3 Rows.fnExactMillValidTreeRow.domain false Rows.fnExactMillValidTreeRow.laid) (((OpenSpec.ofChange Rows.fnExactMillValidTreeSpec).at F).post enc Tryd.prog Tryd.f3 false true false false) := by
  obtain ⟨places, hx⟩ := reads_fnExactMillValidTree os enc
  refine returnsInHanded_of_row (C := Tryd.checked) (s := OpenSpec.ofChange Rows.fnExactMillValidTreeSpec) own started (by kernel_rfl) Tryd.func3
    (witness_row_at (enc := enc) (C := Tryd.checked) false ({ World.holding Tryd.prog os startIn with heap := ((World.holding Tryd.prog os startIn).heap.modify 0 (putCells tabMB)) } : World) #[.agg #[.slice none 0 0]] rfl (by kernel_rfl) (by kernel_rfl) (by kernel_rfl)
      (OpenSpec.preRow_of_cond 8 hx (by kernel_rfl) (fun k hk => by cases hk) (by kernel_rfl) (laid_met_fnExactMillValidTree os))) ?_
  intro W base args ds gs before hval hW _ _ _ hL _ _
  exact contract_fnExactMillValidTree H enc W base args ds gs before hval hW hL
theorem said_fnExactMillValidTree : Rows.FnExactMillValidTreeSaid :=
  OpenClaim.holds_of_cond 3 Tryd.f3 rfl rfl rfl rfl rfl rfl rfl ⟨rfl, rfl, rfl, rfl, rfl⟩ rfl rfl rfl rfl rfl (by kernel_rfl) Tryd.func3 (by kernel_rfl)
    (of_decide_eq_true (by kernel_rfl)) (by unfold Func.isWrapper; first | (rw [if_pos (by decide +kernel)]; kernel_rfl) | (rw [if_neg (by decide +kernel)]; exact ⟨rfl, rfl⟩))
    (fun os started H enc _ F => by rw [OpenClaim.pre_eq_preRow]; exact lifted_fnExactMillValidTree os started H enc F)
/-- No parameter wants a stand-in; the program's own looks are off: what the card asks. -/
theorem plain_fnExactMillValidTree (f : FuncId) (fn : Func) (hf : Tryd.pinned.checked.prog.funcNamed "loop.example/kilnyard/laws.FnExactMillValidTree" = some f) (hfn : Tryd.pinned.checked.prog.funcs[f]? = some fn) :
    false = Tryd.pinned.checked.prog.looks [] ∧ ∀ (j : Nat) t, fn.params[j]? = some t → Tryd.pinned.checked.prog.wantsStandIn t = false := by
  obtain rfl : f = 3 := Option.some.inj ((show Tryd.prog.funcNamed "loop.example/kilnyard/laws.FnExactMillValidTree" = some 3 by kernel_rfl).symm.trans hf) |>.symm
  obtain rfl : fn = Tryd.f3 := (Option.some.inj (Tryd.func3.symm.trans hfn)).symm
  refine ⟨by kernel_rfl, fun j t ht => ?_⟩
  rw [Tryd.params3] at ht
  obtain rfl : t = 24 := by simpa using Array.mem_of_getElem? ht
  exact (show Tryd.prog.wantsStandIn 24 = false by kernel_rfl)
/-- The card. -/
theorem card_fnExactMillValidTree : Rows.FnExactMillValidTreeCardSaid :=
  Claim7.holds_tied_plain_at .later [] _ _ _ _ said_fnExactMillValidTree (fun _ h => by cases h) (by kernel_rfl) (fun _ h => by cases h) fnExactMillValidTree_row_tie rfl ⟨rfl, rfl⟩ (by kernel_rfl) rfl plain_fnExactMillValidTree (by kernel_rfl)
#print axioms card_fnExactMillValidTree
end Go.Proofs.YtjbhadpdbcelcaaDoor.Q
namespace Go.Proofs.YtjbhadpdbcelcaaDoor
/-- The given card. -/
theorem card_fnExactMillValidTree : Rows.FnExactMillValidTreeCardSaid := Q.card_fnExactMillValidTree
#print axioms card_fnExactMillValidTree
end Go.Proofs.YtjbhadpdbcelcaaDoor
