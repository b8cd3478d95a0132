import Derived.Test.YtmmgpbjmegfffaaDoorCards
import Derived.Test.YtmmgpbjmegfffaaDoorTie
import Derived.Test.YtmmgpbjmegfffaaDoorVLawB
import Derived.Test.YtmmgpbjmegfffaaDoorVOpen
import Derived.WalkKit
import Derived.ProofKit
import Derived.OpenShut
import Derived.Deep.DeepHandedRow
import Derived.OpenVars
import Derived.Stop.LaidErr
/-! Printed by gen_vcard.py. -/
namespace Go.Proofs.YtmmgpbjmegfffaaDoor.V
open Go.ChangeShapes Go.WideShapes Go.ChangeAt Go.RowKit
set_option maxRecDepth 20000
theorem own : ownKnob Tryd.prog.godebug = none := by kernel_rfl
theorem laidOut : laidOutB Tryd.prog = true := by kernel_rfl
theorem cellsErr : Tryd.prog.cellsOf 137 = 1 := by kernel_rfl
theorem star : "*" ++ "errors.errorString" = "*errors.errorString" := by decide
theorem rowErr (u : TypeId) (h : Tryd.prog.typeName? 3 u = some "*errors.errorString") : u = 122 :=
  typeName_ptr_named (nm := "errors.errorString") (by rw [star]; kernel_rfl) (by kernel_rfl) (by decide) u (by rw [star]; exact h)
theorem read_int : Tryd.prog.readableRec 3 = true := by kernel_rfl
theorem read_val : Tryd.prog.readableRec 23 = true := by kernel_rfl
theorem gType : Tryd.prog.globalNamed "loop.example/kilnyard/impl.errMillType" = some 0 := by kernel_rfl
theorem gTypeType : (Tryd.prog.globals[0]?).map (·.type) = some 47 := by kernel_rfl
theorem gLong : Tryd.prog.globalNamed "loop.example/kilnyard/impl.errMillLong" = some 1 := by kernel_rfl
theorem gLongType : (Tryd.prog.globals[1]?).map (·.type) = some 47 := by kernel_rfl
theorem gDivide : Tryd.prog.globalNamed "loop.example/kilnyard/impl.errMillDivide" = some 2 := by kernel_rfl
theorem gDivideType : (Tryd.prog.globals[2]?).map (·.type) = some 47 := by kernel_rfl
theorem errAt_of {n : String} {g : Nat} {a : Addr} {s t : ByteArray} {W : World} (hg : Tryd.prog.globalNamed n = some g) (hv : W.var? Tryd.prog n = some #[.iface 122 (.pointer (some a))]) (hc : W.cell? a = some (.string s)) (hs : s.data.toList = t.data.toList) : ErrAt W g a t := by
  have h0 := World.var?_cell hg hv 0
  have hst : s = t := ByteArray.ext (Array.toList_inj.1 hs)
  subst hst
  have c0 : W.cell? ⟨g, 0, none⟩ = some (errV a) := by simpa using h0
  have lt : ∀ {p : Addr} {v : Value}, W.cell? p = some v → p.block < W.heap.size := fun {p v} h => by
    unfold World.cell? at h
    rcases Nat.lt_or_ge p.block W.heap.size with hl | hl
    · exact hl
    · rw [Array.getElem?_eq_none hl] at h; cases h
  exact ⟨c0, hc, lt c0, lt hc⟩
theorem env_B {W : World} (h : laidMetH Tryd.prog Rows.fnExactMillBinaryRow.laid W) : (∃ a, ErrAt W 0 a wType) ∧ (∃ a, ErrAt W 2 a wDiv) ∧ (∃ a, ErrAt W 1 a wLong) := by
  have h0 : laidMet Tryd.prog Rows.fnExactMillBinaryRow.laid W := h
  obtain ⟨a0, s0, v0, c0, t0, _⟩ := laid_sentinel h0 gType gTypeType Tryd.underlying47 rowErr Tryd.underlying122 Tryd.underlying137 rfl rfl Tryd.underlying9 cellsErr cellsStr
  have h1 := h0.tail
  obtain ⟨a1, s1, v1, c1, t1, _⟩ := laid_sentinel h1 gDivide gDivideType Tryd.underlying47 rowErr Tryd.underlying122 Tryd.underlying137 rfl rfl Tryd.underlying9 cellsErr cellsStr
  have h2 := h1.tail
  obtain ⟨a2, s2, v2, c2, t2, _⟩ := laid_sentinel h2 gLong gLongType Tryd.underlying47 rowErr Tryd.underlying122 Tryd.underlying137 rfl rfl Tryd.underlying9 cellsErr cellsStr
  exact ⟨⟨a0, errAt_of gType v0 c0 t0⟩, ⟨a1, errAt_of gDivide v1 c1 t1⟩, ⟨a2, errAt_of gLong v2 c2 t2⟩⟩
def putCells (cs : Array Value) : Obj → Obj
  | .cells _ t frozen => .cells cs t frozen
  | o => o
def startIn : Input := ⟨#[.cells #[.string ⟨#[116, 121, 112, 101]⟩] 137, .cells #[.string ⟨#[108, 111, 110, 103]⟩] 137, .cells #[.string ⟨#[100, 105, 118, 105, 100, 101]⟩] 137], #[], []⟩
theorem trodVars_len {H : Type} {enc : TypeId × Value → H} {P : Program} {w : World} {spare : Nat → Bool} : ∀ (ns : List String) (gs : List (DataW H)) (ps : List MemPlace), DataW.TrodVars enc P w spare ns gs ps → gs.length = ns.length := by
  intro ns
  induction ns with
  | nil => intro gs ps h; obtain ⟨rfl, _⟩ := trodVars_none h; rfl
  | cons n ns ih =>
    intro gs ps h
    cases gs with
    | nil => simp [DataW.TrodVars] at h
    | cons d ds =>
      obtain ⟨g, t, cs, fuel, p, q, h1, h2, h3, h4, hs, e⟩ := h
      simp [ih ds q hs]
theorem varsOk : varsRowed Tryd.prog Rows.fnExactMillBinarySpec.vars = true := by kernel_rfl
set_option maxHeartbeats 2000000 in
set_option maxRecDepth 100000 in
theorem contract (H : Type) (enc : TypeId × Value → H) (W : World) (base : Nat) (args : Array Value) (ds gs : List (DataW H)) (before : List MemPlace)
    (hval : ∀ (j : Nat) t v, Tryd.f3.params[j]? = some t → args[j]? = some v → Value.okWide Tryd.prog W .any base t v)
    (hW : DataW.Whole enc Tryd.prog Tryd.f3.params.toList Rows.fnExactMillBinarySpec.vars false W args.toList ds gs before) (hL : laidMetH Tryd.prog Rows.fnExactMillBinaryRow.laid W) :
    Calls Tryd.prog 3 args W fun e W' => ∃ v, e = .returned v ∧ Rows.fnExactMillBinarySpec.post enc Tryd.prog Tryd.f3 false true false false W args v W' := by
  have hW' := hW
  obtain ⟨p, q, hA0, hV, rfl, hfz, hnd⟩ := hW
  have hA : DataW.TrodAll enc Tryd.prog W 0 (fun _ => true) true Tryd.f3.params.toList args.toList ds p := hA0
  rw [Tryd.params3] at hA hval
  obtain ⟨v0, vs0, d0, ds0, p0, q0, hargs, rfl, rfl, h0, r0⟩ := trodAll_cons hA
  obtain ⟨v1, vs1, d1, ds1, p1, q1, rfl, rfl, rfl, h1, r1⟩ := trodAll_cons r0
  obtain ⟨v2, vs2, d2, ds2, p2, q2, rfl, rfl, rfl, h2, r2⟩ := trodAll_cons r1
  obtain ⟨rfl, rfl, rfl⟩ := trodAll_nil r2
  obtain rfl : args = #[v0, v1, v2] := by cases args; simp_all
  obtain ⟨k0, rfl, _, _, hk0⟩ := open_int Tryd.underlying3 (hval 0 3 v0 rfl rfl) h0
  obtain ⟨t1, n1, s1, rfl, hs1, ht1, hn1, hm1⟩ := val_open (hval 1 23 v1 rfl rfl) h1
  obtain ⟨t2, n2, s2, rfl, hs2, ht2, hn2, hm2⟩ := val_open (hval 2 23 v2 rfl rfl) h2
  have hlt0 : ∀ x ∈ p0, x.block < W.heap.size := fun x hx => DataW.TrodAll.lt hA x (by simp [hx])
  have hlt1 : ∀ x ∈ p1, x.block < W.heap.size := fun x hx => DataW.TrodAll.lt hA x (by simp [hx])
  have hlt2 : ∀ x ∈ p2, x.block < W.heap.size := fun x hx => DataW.TrodAll.lt hA x (by simp [hx])
  clear hA0
  obtain ⟨g1, g2, g3, hg1⟩ : ∃ g1 g2 g3, gs = [g1, g2, g3] := by
    have := trodVars_len _ _ _ hV
    match gs, this with
    | [g1, g2, g3], _ => exact ⟨g1, g2, g3, rfl⟩
  subst hg1
  simp only [List.append_nil] at hW'
  obtain ⟨⟨a0, e0⟩, ⟨a1, e1⟩, ⟨a2, e2⟩⟩ := env_B hL
  refine (law_bin k0 t1 n1 s1 t2 n2 s2 W hs1 hn1 hm1 hs2 hn2 hm2 a0 a1 a2 e0 e1 e2).mono fun e W' ⟨he, hnx⟩ => ?_
  subst he
  refine ⟨_, rfl, _, _, _, [], p0 ++ p1 ++ p2, q, hW', ?_, ?_, ?_, hnx.frame _, fun h => by cases h⟩
  · exact trodAll_mk1 (shut_bool Tryd.underlying4 _)
  · rw [List.append_assoc]
    exact trodAll_mk3 (hnx.trod laidOut read_int (of_decide_eq_true (by kernel_rfl)) h0 hlt0) (hnx.trod laidOut read_val (of_decide_eq_true (by kernel_rfl)) h1 hlt1) (hnx.trod laidOut read_val (of_decide_eq_true (by kernel_rfl)) h2 hlt2)
  · exact hnx.trodVars laidOut varsOk hV
theorem laid_met (os : Os) : laidMet Tryd.prog Rows.fnExactMillBinaryRow.laid (({ World.holding Tryd.prog os startIn with heap := ((((World.holding Tryd.prog os startIn).heap.modify 0 (putCells #[.iface 122 (.pointer (some ⟨(World.holding Tryd.prog default ⟨#[], #[], []⟩).heap.size, 0, none⟩))])).modify 1 (putCells #[.iface 122 (.pointer (some ⟨(World.holding Tryd.prog default ⟨#[], #[], []⟩).heap.size + 1, 0, none⟩))])).modify 2 (putCells #[.iface 122 (.pointer (some ⟨(World.holding Tryd.prog default ⟨#[], #[], []⟩).heap.size + 2, 0, none⟩))])) } : World).forCall (fun _ _ => 0) ⟨#[], #[.int .i64 0, .agg #[.int .i64 0, .int .i64 0, .string ⟨#[]⟩], .agg #[.int .i64 0, .int .i64 0, .string ⟨#[]⟩]], []⟩).memory :=
  laidMet_of_run' 8 (by kernel_rfl) (by kernel_rfl)
theorem reads (os : Os) {H : Type} (enc : TypeId × Value → H) : ∃ gs places, DataW.whole enc Tryd.prog (({ World.holding Tryd.prog os startIn with heap := ((((World.holding Tryd.prog os startIn).heap.modify 0 (putCells #[.iface 122 (.pointer (some ⟨(World.holding Tryd.prog default ⟨#[], #[], []⟩).heap.size, 0, none⟩))])).modify 1 (putCells #[.iface 122 (.pointer (some ⟨(World.holding Tryd.prog default ⟨#[], #[], []⟩).heap.size + 1, 0, none⟩))])).modify 2 (putCells #[.iface 122 (.pointer (some ⟨(World.holding Tryd.prog default ⟨#[], #[], []⟩).heap.size + 2, 0, none⟩))])) } : World).forCall (fun _ _ => 0) ⟨#[], #[.int .i64 0, .agg #[.int .i64 0, .int .i64 0, .string ⟨#[]⟩], .agg #[.int .i64 0, .int .i64 0, .string ⟨#[]⟩]], []⟩).memory Tryd.f3.params.toList Rows.fnExactMillBinarySpec.vars false #[Value.int .i64 0, .agg #[.int .i64 0, .int .i64 0, .string ⟨#[]⟩], .agg #[.int .i64 0, .int .i64 0, .string ⟨#[]⟩]].toList 8 = some ([.lit (.int .i64 0), .agg [.lit (.int .i64 0), .lit (.int .i64 0), .lit (.string [])], .agg [.lit (.int .i64 0), .lit (.int .i64 0), .lit (.string [])]], gs, places) := by
  have h : (DataW.whole enc Tryd.prog (({ World.holding Tryd.prog os startIn with heap := ((((World.holding Tryd.prog os startIn).heap.modify 0 (putCells #[.iface 122 (.pointer (some ⟨(World.holding Tryd.prog default ⟨#[], #[], []⟩).heap.size, 0, none⟩))])).modify 1 (putCells #[.iface 122 (.pointer (some ⟨(World.holding Tryd.prog default ⟨#[], #[], []⟩).heap.size + 1, 0, none⟩))])).modify 2 (putCells #[.iface 122 (.pointer (some ⟨(World.holding Tryd.prog default ⟨#[], #[], []⟩).heap.size + 2, 0, none⟩))])) } : World).forCall (fun _ _ => 0) ⟨#[], #[.int .i64 0, .agg #[.int .i64 0, .int .i64 0, .string ⟨#[]⟩], .agg #[.int .i64 0, .int .i64 0, .string ⟨#[]⟩]], []⟩).memory Tryd.f3.params.toList Rows.fnExactMillBinarySpec.vars false #[Value.int .i64 0, .agg #[.int .i64 0, .int .i64 0, .string ⟨#[]⟩], .agg #[.int .i64 0, .int .i64 0, .string ⟨#[]⟩]].toList 8).map (·.1) = some [.lit (.int .i64 0), .agg [.lit (.int .i64 0), .lit (.int .i64 0), .lit (.string [])], .agg [.lit (.int .i64 0), .lit (.int .i64 0), .lit (.string [])]] := by kernel_rfl
  obtain ⟨⟨x, gs, places⟩, hx, rfl⟩ := Option.map_eq_some_iff.1 h
  exact ⟨gs, places, hx⟩
set_option maxRecDepth 100000 in
theorem lifted (os : Os) (started : os.Started) (H : Type) (enc : TypeId × Value → H) (F : Stop.Interp) :
    ReturnsInHanded {} Tryd.checked os 3 .any ((OpenSpec.ofChange Rows.fnExactMillBinarySpec).preRow enc Tryd.prog Tryd.f3 Rows.fnExactMillBinaryRow.domain false Rows.fnExactMillBinaryRow.laid) (((OpenSpec.ofChange Rows.fnExactMillBinarySpec).at F).post enc Tryd.prog Tryd.f3 false true false false) := by
  obtain ⟨gs, places, hx⟩ := reads os enc
  refine returnsInHanded_of_row (C := Tryd.checked) (s := OpenSpec.ofChange Rows.fnExactMillBinarySpec) own started (by kernel_rfl) Tryd.func3
    (witness_row_at (enc := enc) (C := Tryd.checked) false ({ World.holding Tryd.prog os startIn with heap := ((((World.holding Tryd.prog os startIn).heap.modify 0 (putCells #[.iface 122 (.pointer (some ⟨(World.holding Tryd.prog default ⟨#[], #[], []⟩).heap.size, 0, none⟩))])).modify 1 (putCells #[.iface 122 (.pointer (some ⟨(World.holding Tryd.prog default ⟨#[], #[], []⟩).heap.size + 1, 0, none⟩))])).modify 2 (putCells #[.iface 122 (.pointer (some ⟨(World.holding Tryd.prog default ⟨#[], #[], []⟩).heap.size + 2, 0, none⟩))])) } : World) #[.int .i64 0, .agg #[.int .i64 0, .int .i64 0, .string ⟨#[]⟩], .agg #[.int .i64 0, .int .i64 0, .string ⟨#[]⟩]] rfl (by kernel_rfl) (by kernel_rfl) (by kernel_rfl)
      (OpenSpec.preRow_of_cond 8 hx (by kernel_rfl) (fun k hk => by cases hk) (by kernel_rfl) (laid_met os))) ?_
  intro W base args ds gs before hval hW _ _ _ hL _ _
  exact contract H enc W base args ds gs before hval hW hL
theorem said : Rows.FnExactMillBinarySaid :=
  OpenClaim.holds_of_cond 3 Tryd.f3 rfl rfl rfl rfl rfl rfl rfl ⟨rfl, rfl, rfl, rfl, rfl⟩ rfl rfl rfl rfl rfl (by kernel_rfl) Tryd.func3 (by kernel_rfl)
    (of_decide_eq_true (by kernel_rfl)) (by unfold Func.isWrapper; first | (rw [if_pos (by decide +kernel)]; kernel_rfl) | (rw [if_neg (by decide +kernel)]; exact ⟨rfl, rfl⟩))
    (fun os started H enc _ F => by rw [OpenClaim.pre_eq_preRow]; exact lifted os started H enc F)
/-- No parameter wants a stand-in; the program's own looks are off: what the card asks. -/
theorem plain (f : FuncId) (fn : Func) (hf : Tryd.pinned.checked.prog.funcNamed "loop.example/kilnyard/laws.FnExactMillBinary" = some f) (hfn : Tryd.pinned.checked.prog.funcs[f]? = some fn) :
    false = Tryd.pinned.checked.prog.looks [] ∧ ∀ (j : Nat) t, fn.params[j]? = some t → Tryd.pinned.checked.prog.wantsStandIn t = false := by
  obtain rfl : f = 3 := Option.some.inj ((show Tryd.prog.funcNamed "loop.example/kilnyard/laws.FnExactMillBinary" = some 3 by kernel_rfl).symm.trans hf) |>.symm
  obtain rfl : fn = Tryd.f3 := (Option.some.inj (Tryd.func3.symm.trans hfn)).symm
  refine ⟨by kernel_rfl, fun j t ht => ?_⟩
  rw [Tryd.params3] at ht
  obtain rfl | rfl : t = 3 ∨ t = 23 := by simpa using Array.mem_of_getElem? ht
  · exact (show Tryd.prog.wantsStandIn 3 = false by kernel_rfl)
  · exact (show Tryd.prog.wantsStandIn 23 = false by kernel_rfl)
/-- The card. -/
theorem card : Rows.FnExactMillBinaryCardSaid :=
  Claim7.holds_tied_plain_at .later [] _ _ _ _ said (fun _ h => by cases h) (by kernel_rfl) (fun _ h => by cases h) fnExactMillBinary_row_tie rfl ⟨rfl, rfl⟩ (by kernel_rfl) rfl plain (by kernel_rfl)
end Go.Proofs.YtmmgpbjmegfffaaDoor.V
namespace Go.Proofs.YtmmgpbjmegfffaaDoor
/-- The given card. -/
theorem card_fnExactMillBinary : Rows.FnExactMillBinaryCardSaid := V.card
#print axioms card_fnExactMillBinary
end Go.Proofs.YtmmgpbjmegfffaaDoor
