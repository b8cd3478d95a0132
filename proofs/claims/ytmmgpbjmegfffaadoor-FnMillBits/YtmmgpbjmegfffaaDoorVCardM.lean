import Derived.Test.YtmmgpbjmegfffaaDoorCards
import Derived.Test.YtmmgpbjmegfffaaDoorTie
import Derived.Test.YtmmgpbjmegfffaaDoorVLawM
import Derived.Test.YtmmgpbjmegfffaaDoorVOpen
import Derived.WalkKit
import Derived.ProofKit
import Derived.OpenShut
import Derived.Deep.DeepHandedRow
import Derived.Deep.Slices
import Derived.OpenVars
import Derived.Stop.LaidErr
/-! Printed by gen_vcardm.py. -/
namespace Go.Proofs.YtmmgpbjmegfffaaDoor.V
open Go.ChangeShapes Go.WideShapes Go.ChangeAt Go.RowKit Go.Deep
set_option maxRecDepth 20000
theorem own : ownKnob Tryd.prog.godebug = none := by kernel_rfl
theorem laidOut : laidOutB Tryd.prog = true := by kernel_rfl
theorem cellsErr : Tryd.prog.cellsOf 137 = 1 := by kernel_rfl
theorem star : "*" ++ "errors.errorString" = "*errors.errorString" := by decide
theorem rowErr (u : TypeId) (h : Tryd.prog.typeName? 3 u = some "*errors.errorString") : u = 122 :=
  typeName_ptr_named (nm := "errors.errorString") (by rw [star]; kernel_rfl) (by kernel_rfl) (by decide) u (by rw [star]; exact h)
theorem cellsU8 : Tryd.prog.cellsOf 5 = 1 := by kernel_rfl
theorem readB : Tryd.prog.readableRec 31 = true := by kernel_rfl
set_option maxRecDepth 20000 in
theorem code_open {H : Type} {enc : TypeId × Value → H} {W : World} {base : Nat} {v : Value} {d : DataW H} {ps : List MemPlace} (hv : Value.okWide Tryd.prog W .any base 31 v) (h : DataW.Trod enc Tryd.prog W 0 (fun _ => true) true 31 v d ps) :
    ∃ ad n cap, v = .slice ad n cap ∧ n ≤ cap ∧ cap ≤ 9223372036854775807 ∧ CodeA W ad n ∧ (ad = none → n = 0 ∧ cap = 0) := by
  obtain ⟨a1, n1, c1, rfl⟩ := okWide_slice Tryd.underlying31 hv
  obtain ⟨fuel, hf⟩ := h
  rcases open_slice Tryd.underlying31 hf with ⟨e, _⟩ | ⟨a, len, cap, m, n2, D, Pl, e, _, hlc, hcm, hm, _, hel⟩
  · simp [Value.cells] at e
    obtain ⟨rfl, rfl, rfl⟩ := e
    exact ⟨none, 0, 0, rfl, Nat.le_refl _, by omega, .inl rfl, fun _ => ⟨rfl, rfl⟩⟩
  · simp [Value.cells] at e
    obtain ⟨rfl, rfl, rfl⟩ := e
    refine ⟨some a, n1, c1, rfl, hlc, by unfold maxLen at hcm; omega, ?_, fun h => by cases h⟩
    by_cases h0 : n1 = 0
    · exact .inl h0
    have hm2 : n1 ≤ m := by rw [hm]; simp; exact hlc
    have hall : ∀ i, i < n1 → (∃ x : UInt8, W.cell? (a.add i) = some (.int .u8 x.toNat)) ∧ a.block < W.heap.size := fun i hi => by
      obtain ⟨cs', hc, ht⟩ := hel i (by omega)
      rw [cellsU8, Nat.mul_one] at hc
      have hbl := World.cells?_block hc (by omega)
      rw [add_block] at hbl
      obtain ⟨z, rfl, _, hw⟩ := DataW.trod_int Tryd.underlying5 ht
      simp [Lit.wf, IntKind.min, IntKind.max, IntKind.signed, IntKind.bits] at hw
      refine ⟨⟨UInt8.ofNat z.toNat, ?_⟩, hbl⟩
      rw [cell_of_cells?_one hc]
      have : z.toNat < 256 := by omega
      simp [Nat.mod_eq_of_lt this]
      omega
    exact .inr ⟨a, rfl, (hall 0 (by omega)).2, fun i hi => (hall i hi).1⟩
theorem gType : Tryd.prog.globalNamed "loop.example/kilnyard/impl.errMillType" = some 0 := by kernel_rfl
theorem gTypeType : (Tryd.prog.globals[0]?).map (·.type) = some 47 := by kernel_rfl
theorem gLong : Tryd.prog.globalNamed "loop.example/kilnyard/impl.errMillLong" = some 1 := by kernel_rfl
theorem gLongType : (Tryd.prog.globals[1]?).map (·.type) = some 47 := by kernel_rfl
theorem gDivide : Tryd.prog.globalNamed "loop.example/kilnyard/impl.errMillDivide" = some 2 := by kernel_rfl
theorem gDivideType : (Tryd.prog.globals[2]?).map (·.type) = some 47 := by kernel_rfl
theorem errAt_of {n : String} {g : Nat} {a : Addr} {s t : ByteArray} {W : World} (hg : Tryd.prog.globalNamed n = some g) (hv : W.var? Tryd.prog n = some #[.iface 122 (.pointer (some a))]) (hc : W.cell? a = some (.string s)) (hs : s.data.toList = t.data.toList) : ErrAt W g a t := by
  have h0 := World.var?_cell hg hv 0
  have hst : s = t := ByteArray.ext (Array.toList_inj.1 hs)
  subst hst
  have c0 : W.cell? ⟨g, 0, none⟩ = some (errV a) := by simpa using h0
  have lt : ∀ {p : Addr} {v : Value}, W.cell? p = some v → p.block < W.heap.size := fun {p v} h => by
    unfold World.cell? at h
    rcases Nat.lt_or_ge p.block W.heap.size with hl | hl
    · exact hl
    · rw [Array.getElem?_eq_none hl] at h; cases h
  exact ⟨c0, hc, lt c0, lt hc⟩
theorem env_B {W : World} (h : laidMetH Tryd.prog Rows.fnMillBitsRow.laid W) : (∃ a, ErrAt W 0 a wType) ∧ (∃ a, ErrAt W 2 a wDiv) ∧ (∃ a, ErrAt W 1 a wLong) := by
  have h0 : laidMet Tryd.prog Rows.fnMillBitsRow.laid W := h
  obtain ⟨a0, s0, v0, c0, t0, _⟩ := laid_sentinel h0 gType gTypeType Tryd.underlying47 rowErr Tryd.underlying122 Tryd.underlying137 rfl rfl Tryd.underlying9 cellsErr cellsStr
  have h1 := h0.tail
  obtain ⟨a1, s1, v1, c1, t1, _⟩ := laid_sentinel h1 gDivide gDivideType Tryd.underlying47 rowErr Tryd.underlying122 Tryd.underlying137 rfl rfl Tryd.underlying9 cellsErr cellsStr
  have h2 := h1.tail
  obtain ⟨a2, s2, v2, c2, t2, _⟩ := laid_sentinel h2 gLong gLongType Tryd.underlying47 rowErr Tryd.underlying122 Tryd.underlying137 rfl rfl Tryd.underlying9 cellsErr cellsStr
  exact ⟨⟨a0, errAt_of gType v0 c0 t0⟩, ⟨a1, errAt_of gDivide v1 c1 t1⟩, ⟨a2, errAt_of gLong v2 c2 t2⟩⟩
def putCells (cs : Array Value) : Obj → Obj
  | .cells _ t frozen => .cells cs t frozen
  | o => o
def startIn : Input := ⟨#[.cells #[.string ⟨#[116, 121, 112, 101]⟩] 137, .cells #[.string ⟨#[108, 111, 110, 103]⟩] 137, .cells #[.string ⟨#[100, 105, 118, 105, 100, 101]⟩] 137], #[], []⟩
theorem trodVars_len {H : Type} {enc : TypeId × Value → H} {P : Program} {w : World} {spare : Nat → Bool} : ∀ (ns : List String) (gs : List (DataW H)) (ps : List MemPlace), DataW.TrodVars enc P w spare ns gs ps → gs.length = ns.length := by
  intro ns
  induction ns with
  | nil => intro gs ps h; obtain ⟨rfl, _⟩ := trodVars_none h; rfl
  | cons n ns ih =>
    intro gs ps h
    cases gs with
    | nil => simp [DataW.TrodVars] at h
    | cons d ds =>
      obtain ⟨g, t, cs, fuel, p, q, h1, h2, h3, h4, hs, e⟩ := h
      simp [ih ds q hs]
theorem varsOk : varsRowed Tryd.prog Rows.fnMillBitsSpec.vars = true := by kernel_rfl
set_option maxHeartbeats 2000000 in
set_option maxRecDepth 100000 in
theorem contract (H : Type) (enc : TypeId × Value → H) (W : World) (base : Nat) (args : Array Value) (ds gs : List (DataW H)) (before : List MemPlace)
    (hval : ∀ (j : Nat) t v, Tryd.f4.params[j]? = some t → args[j]? = some v → Value.okWide Tryd.prog W .any base t v)
    (hW : DataW.Whole enc Tryd.prog Tryd.f4.params.toList Rows.fnMillBitsSpec.vars false W args.toList ds gs before) (hL : laidMetH Tryd.prog Rows.fnMillBitsRow.laid W) :
    Calls Tryd.prog 4 args W fun e W' => ∃ v, e = .returned v ∧ Rows.fnMillBitsSpec.post enc Tryd.prog Tryd.f4 false true false false W args v W' := by
  have hW' := hW
  obtain ⟨p, q, hA0, hV, rfl, hfz, hnd⟩ := hW
  have hA : DataW.TrodAll enc Tryd.prog W 0 (fun _ => true) true Tryd.f4.params.toList args.toList ds p := hA0
  rw [Tryd.params4] at hA hval
  obtain ⟨v0, vs0, d0, ds0, p0, q0, hargs, rfl, rfl, h0, r0⟩ := trodAll_cons hA
  obtain ⟨rfl, rfl, rfl⟩ := trodAll_nil r0
  obtain rfl : args = #[v0] := by cases args; simp_all
  obtain ⟨ad, n, cap, rfl, hc, hcm, hn, hnil⟩ := code_open (hval 0 31 v0 rfl rfl) h0
  have hlt0 : ∀ x ∈ p0, x.block < W.heap.size := fun x hx => DataW.TrodAll.lt hA x (by simp [hx])
  clear hA0
  obtain ⟨g1, g2, g3, hg1⟩ : ∃ g1 g2 g3, gs = [g1, g2, g3] := by
    have := trodVars_len _ _ _ hV
    match gs, this with
    | [g1, g2, g3], _ => exact ⟨g1, g2, g3, rfl⟩
  subst hg1
  simp only [List.append_nil] at hW'
  obtain ⟨⟨a0, e0⟩, ⟨a1, e1⟩, ⟨a2, e2⟩⟩ := env_B hL
  refine (law_bits ad n cap W hc hcm (fun _ => hn) hnil a0 a1 a2 e0 e1 e2).mono fun e W' ⟨he, hnx⟩ => ?_
  subst he
  refine ⟨_, rfl, _, _, _, [], p0, q, hW', ?_, ?_, ?_, hnx.frame _, fun h => by cases h⟩
  · exact trodAll_mk1 (shut_bool Tryd.underlying4 _)
  · exact trodAll_mk1 (hnx.trod laidOut readB (of_decide_eq_true (by kernel_rfl)) h0 hlt0)
  · exact hnx.trodVars laidOut varsOk hV
theorem laid_met (os : Os) : laidMet Tryd.prog Rows.fnMillBitsRow.laid (({ World.holding Tryd.prog os startIn with heap := ((((World.holding Tryd.prog os startIn).heap.modify 0 (putCells #[.iface 122 (.pointer (some ⟨(World.holding Tryd.prog default ⟨#[], #[], []⟩).heap.size, 0, none⟩))])).modify 1 (putCells #[.iface 122 (.pointer (some ⟨(World.holding Tryd.prog default ⟨#[], #[], []⟩).heap.size + 1, 0, none⟩))])).modify 2 (putCells #[.iface 122 (.pointer (some ⟨(World.holding Tryd.prog default ⟨#[], #[], []⟩).heap.size + 2, 0, none⟩))])) } : World).forCall (fun _ _ => 0) ⟨#[], #[.slice none 0 0], []⟩).memory :=
  laidMet_of_run' 8 (by kernel_rfl) (by kernel_rfl)
theorem reads (os : Os) {H : Type} (enc : TypeId × Value → H) : ∃ gs places, DataW.whole enc Tryd.prog (({ World.holding Tryd.prog os startIn with heap := ((((World.holding Tryd.prog os startIn).heap.modify 0 (putCells #[.iface 122 (.pointer (some ⟨(World.holding Tryd.prog default ⟨#[], #[], []⟩).heap.size, 0, none⟩))])).modify 1 (putCells #[.iface 122 (.pointer (some ⟨(World.holding Tryd.prog default ⟨#[], #[], []⟩).heap.size + 1, 0, none⟩))])).modify 2 (putCells #[.iface 122 (.pointer (some ⟨(World.holding Tryd.prog default ⟨#[], #[], []⟩).heap.size + 2, 0, none⟩))])) } : World).forCall (fun _ _ => 0) ⟨#[], #[.slice none 0 0], []⟩).memory Tryd.f4.params.toList Rows.fnMillBitsSpec.vars false #[Value.slice none 0 0].toList 8 = some ([.nil], gs, places) := by
  have h : (DataW.whole enc Tryd.prog (({ World.holding Tryd.prog os startIn with heap := ((((World.holding Tryd.prog os startIn).heap.modify 0 (putCells #[.iface 122 (.pointer (some ⟨(World.holding Tryd.prog default ⟨#[], #[], []⟩).heap.size, 0, none⟩))])).modify 1 (putCells #[.iface 122 (.pointer (some ⟨(World.holding Tryd.prog default ⟨#[], #[], []⟩).heap.size + 1, 0, none⟩))])).modify 2 (putCells #[.iface 122 (.pointer (some ⟨(World.holding Tryd.prog default ⟨#[], #[], []⟩).heap.size + 2, 0, none⟩))])) } : World).forCall (fun _ _ => 0) ⟨#[], #[.slice none 0 0], []⟩).memory Tryd.f4.params.toList Rows.fnMillBitsSpec.vars false #[Value.slice none 0 0].toList 8).map (·.1) = some [.nil] := by kernel_rfl
  obtain ⟨⟨x, gs, places⟩, hx, rfl⟩ := Option.map_eq_some_iff.1 h
  exact ⟨gs, places, hx⟩
set_option maxRecDepth 100000 in
theorem lifted (os : Os) (started : os.Started) (H : Type) (enc : TypeId × Value → H) (F : Stop.Interp) :
    ReturnsInHanded {} Tryd.checked os 4 .any ((OpenSpec.ofChange Rows.fnMillBitsSpec).preRow enc Tryd.prog Tryd.f4 Rows.fnMillBitsRow.domain false Rows.fnMillBitsRow.laid) (((OpenSpec.ofChange Rows.fnMillBitsSpec).at F).post enc Tryd.prog Tryd.f4 false true false false) := by
  obtain ⟨gs, places, hx⟩ := reads os enc
  refine returnsInHanded_of_row (C := Tryd.checked) (s := OpenSpec.ofChange Rows.fnMillBitsSpec) own started (by kernel_rfl) Tryd.func4
    (witness_row_at (enc := enc) (C := Tryd.checked) false ({ World.holding Tryd.prog os startIn with heap := ((((World.holding Tryd.prog os startIn).heap.modify 0 (putCells #[.iface 122 (.pointer (some ⟨(World.holding Tryd.prog default ⟨#[], #[], []⟩).heap.size, 0, none⟩))])).modify 1 (putCells #[.iface 122 (.pointer (some ⟨(World.holding Tryd.prog default ⟨#[], #[], []⟩).heap.size + 1, 0, none⟩))])).modify 2 (putCells #[.iface 122 (.pointer (some ⟨(World.holding Tryd.prog default ⟨#[], #[], []⟩).heap.size + 2, 0, none⟩))])) } : World) #[.slice none 0 0] rfl (by kernel_rfl) (by kernel_rfl) (by kernel_rfl)
      (OpenSpec.preRow_of_cond 8 hx (by kernel_rfl) (fun k hk => by cases hk) (by kernel_rfl) (laid_met os))) ?_
  intro W base args ds gs before hval hW _ _ _ hL _ _
  exact contract H enc W base args ds gs before hval hW hL
theorem said : Rows.FnMillBitsSaid :=
  OpenClaim.holds_of_cond 4 Tryd.f4 rfl rfl rfl rfl rfl rfl rfl ⟨rfl, rfl, rfl, rfl, rfl⟩ rfl rfl rfl rfl rfl (by kernel_rfl) Tryd.func4 (by kernel_rfl)
    (of_decide_eq_true (by kernel_rfl)) (by unfold Func.isWrapper; first | (rw [if_pos (by decide +kernel)]; kernel_rfl) | (rw [if_neg (by decide +kernel)]; exact ⟨rfl, rfl⟩))
    (fun os started H enc _ F => by rw [OpenClaim.pre_eq_preRow]; exact lifted os started H enc F)
/-- No parameter wants a stand-in; the program's own looks are off: what the card asks. -/
theorem plain (f : FuncId) (fn : Func) (hf : Tryd.pinned.checked.prog.funcNamed "loop.example/kilnyard/laws.FnMillBits" = some f) (hfn : Tryd.pinned.checked.prog.funcs[f]? = some fn) :
    false = Tryd.pinned.checked.prog.looks [] ∧ ∀ (j : Nat) t, fn.params[j]? = some t → Tryd.pinned.checked.prog.wantsStandIn t = false := by
  obtain rfl : f = 4 := Option.some.inj ((show Tryd.prog.funcNamed "loop.example/kilnyard/laws.FnMillBits" = some 4 by kernel_rfl).symm.trans hf) |>.symm
  obtain rfl : fn = Tryd.f4 := (Option.some.inj (Tryd.func4.symm.trans hfn)).symm
  refine ⟨by kernel_rfl, fun j t ht => ?_⟩
  rw [Tryd.params4] at ht
  obtain rfl : t = 31 := by simpa using Array.mem_of_getElem? ht
  exact (show Tryd.prog.wantsStandIn 31 = false by kernel_rfl)
/-- The card. -/
theorem card : Rows.FnMillBitsCardSaid :=
  Claim7.holds_tied_plain_at .later [] _ _ _ _ said (fun _ h => by cases h) (by kernel_rfl) (fun _ h => by cases h) fnMillBits_row_tie rfl ⟨rfl, rfl⟩ (by kernel_rfl) rfl plain (by kernel_rfl)
end Go.Proofs.YtmmgpbjmegfffaaDoor.V
namespace Go.Proofs.YtmmgpbjmegfffaaDoor
/-- The given card. -/
theorem card_fnMillBits : Rows.FnMillBitsCardSaid := V.card
#print axioms card_fnMillBits
end Go.Proofs.YtmmgpbjmegfffaaDoor
