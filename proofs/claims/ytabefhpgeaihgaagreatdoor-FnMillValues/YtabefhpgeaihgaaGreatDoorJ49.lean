import Derived.Deep.DeepWitnessRowRef
import Derived.Test.YtabefhpgeaihgaaGreatDoorJ47
import Derived.Test.YtabefhpgeaihgaaGreatDoorJ48
/-! The card of values. Printed by gen_vcardn.py. -/
namespace Go.Proofs.YtabefhpgeaihgaaGreatDoor.V
open Go.ChangeShapes Go.WideShapes Go.ChangeAt Go.RowKit Go.Deep
set_option maxRecDepth 20000
theorem own : ownKnob Tryz.prog.godebug = none := by kernel_rfl
theorem laidOut : laidOutB Tryz.prog = true := by kernel_rfl
theorem cellsErr : Tryz.prog.cellsOf 162 = 1 := by kernel_rfl
theorem star : "*" ++ "errors.errorString" = "*errors.errorString" := by decide
theorem rowErr (u : TypeId) (h : Tryz.prog.typeName? 3 u = some "*errors.errorString") : u = 160 :=
  typeName_ptr_named (nm := "errors.errorString") (by rw [star]; kernel_rfl) (by kernel_rfl) (by decide) u (by rw [star]; exact h)
theorem cellsU8 : Tryz.prog.cellsOf 5 = 1 := by kernel_rfl
theorem readB : Tryz.prog.readableRec 22 = true := by kernel_rfl
set_option maxRecDepth 20000 in
theorem code_open {H : Type} {enc : TypeId × Value → H} {W : World} {base : Nat} {v : Value} {d : DataW H} {ps : List MemPlace} (hv : Value.okWide Tryz.prog W .any base 22 v) (h : DataW.Trod enc Tryz.prog W 0 (fun _ => true) true 22 v d ps) :
    ∃ ad n cap, v = .slice ad n cap ∧ n ≤ cap ∧ cap ≤ 9223372036854775807 ∧ CodeA W ad n ∧ (ad = none → n = 0 ∧ cap = 0) := by
  obtain ⟨a1, n1, c1, rfl⟩ := okWide_slice Tryz.underlying22 hv
  obtain ⟨fuel, hf⟩ := h
  rcases open_slice Tryz.underlying22 hf with ⟨e, _⟩ | ⟨a, len, cap, m, n2, D, Pl, e, _, hlc, hcm, hm, _, hel⟩
  · simp [Value.cells] at e
    obtain ⟨rfl, rfl, rfl⟩ := e
    exact ⟨none, 0, 0, rfl, Nat.le_refl _, by omega, .inl rfl, fun _ => ⟨rfl, rfl⟩⟩
  · simp [Value.cells] at e
    obtain ⟨rfl, rfl, rfl⟩ := e
    refine ⟨some a, n1, c1, rfl, hlc, by unfold maxLen at hcm; omega, ?_, fun h => by cases h⟩
    by_cases h0 : n1 = 0
    · exact .inl h0
    have hm2 : n1 ≤ m := by rw [hm]; simp; exact hlc
    have hall : ∀ i, i < n1 → (∃ x : UInt8, W.cell? (a.add i) = some (.int .u8 x.toNat)) ∧ a.block < W.heap.size := fun i hi => by
      obtain ⟨cs', hc, ht⟩ := hel i (by omega)
      rw [cellsU8, Nat.mul_one] at hc
      have hbl := World.cells?_block hc (by omega)
      rw [add_block] at hbl
      obtain ⟨z, rfl, _, hw⟩ := DataW.trod_int Tryz.underlying5 ht
      simp [Lit.wf, IntKind.min, IntKind.max, IntKind.signed, IntKind.bits] at hw
      refine ⟨⟨UInt8.ofNat z.toNat, ?_⟩, hbl⟩
      rw [cell_of_cells?_one hc]
      have : z.toNat < 256 := by omega
      simp [Nat.mod_eq_of_lt this]
      omega
    exact .inr ⟨a, rfl, (hall 0 (by omega)).2, fun i hi => (hall i hi).1⟩
theorem gType : Tryz.prog.globalNamed "loop.example/kilnyard/impl.errMillType" = some 0 := by kernel_rfl
theorem gTypeType : (Tryz.prog.globals[0]?).map (·.type) = some 47 := by kernel_rfl
theorem gRange : Tryz.prog.globalNamed "loop.example/kilnyard/impl.errMillRange" = some 2 := by kernel_rfl
theorem gRangeType : (Tryz.prog.globals[2]?).map (·.type) = some 47 := by kernel_rfl
theorem gNumber : Tryz.prog.globalNamed "loop.example/kilnyard/impl.errMillNumber" = some 3 := by kernel_rfl
theorem gNumberType : (Tryz.prog.globals[3]?).map (·.type) = some 47 := by kernel_rfl
theorem gER : Tryz.prog.globalNamed "strconv.ErrRange" = some 9 := by kernel_rfl
theorem gERType : (Tryz.prog.globals[9]?).map (·.type) = some 47 := by kernel_rfl
theorem gES : Tryz.prog.globalNamed "strconv.ErrSyntax" = some 8 := by kernel_rfl
theorem gESType : (Tryz.prog.globals[8]?).map (·.type) = some 47 := by kernel_rfl
theorem gDiv : Tryz.prog.globalNamed "loop.example/kilnyard/impl.errMillDivide" = some 6 := by kernel_rfl
theorem gDivType : (Tryz.prog.globals[6]?).map (·.type) = some 47 := by kernel_rfl
theorem gP10 : Tryz.prog.globalNamed "internal/strconv.uint64pow10" = some 7 := by kernel_rfl
theorem gP10Type : (Tryz.prog.globals[7]?).map (·.type) = some 151 := by kernel_rfl
theorem errAt_of {n : String} {g : Nat} {a : Addr} {s t : ByteArray} {W : World} (hg : Tryz.prog.globalNamed n = some g) (hv : W.var? Tryz.prog n = some #[.iface 160 (.pointer (some a))]) (hc : W.cell? a = some (.string s)) (hs : s.data.toList = t.data.toList) : ErrAt W g a t := by
  have h0 := World.var?_cell hg hv 0
  have hst : s = t := ByteArray.ext (Array.toList_inj.1 hs)
  subst hst
  have c0 : W.cell? ⟨g, 0, none⟩ = some (errV a) := by simpa using h0
  have lt : ∀ {p : Addr} {v : Value}, W.cell? p = some v → p.block < W.heap.size := fun {p v} h => by
    unfold World.cell? at h
    rcases Nat.lt_or_ge p.block W.heap.size with hl | hl
    · exact hl
    · rw [Array.getElem?_eq_none hl] at h; cases h
  exact ⟨c0, hc, lt c0, lt hc⟩
theorem env_V {W : World} (h : laidMetH Tryz.prog Rows.fnMillValuesRow.laid W) (hsh : W.ShapedOpen Tryz.prog) : ∃ p q r d, EnvV W p q r d := by
  have h0 : laidMet Tryz.prog Rows.fnMillValuesRow.laid W := h
  have h2 := h0.tail.tail
  have h3 := h2.tail
  have h4 := h3.tail
  have h5 := h4.tail
  have h6 := h5.tail
  have h7 := h6.tail
  have h9 := h7.tail.tail
  have h10 := h9.tail
  obtain ⟨a3, s3, v3, c3, t3, _⟩ := laid_sentinel h3 gER gERType Tryz.underlying47 rowErr Tryz.underlying160 Tryz.underlying162 rfl rfl Tryz.underlying9 cellsErr cellsStr
  obtain ⟨a4, s4, v4, c4, t4, _⟩ := laid_sentinel h4 gES gESType Tryz.underlying47 rowErr Tryz.underlying160 Tryz.underlying162 rfl rfl Tryz.underlying9 cellsErr cellsStr
  obtain ⟨a6, s6, v6, c6, t6, _⟩ := laid_sentinel h6 gType gTypeType Tryz.underlying47 rowErr Tryz.underlying160 Tryz.underlying162 rfl rfl Tryz.underlying9 cellsErr cellsStr
  obtain ⟨a7, s7, v7, c7, t7, _⟩ := laid_sentinel h7 gDiv gDivType Tryz.underlying47 rowErr Tryz.underlying160 Tryz.underlying162 rfl rfl Tryz.underlying9 cellsErr cellsStr
  obtain ⟨a9, s9, v9, c9, t9, _⟩ := laid_sentinel h9 gRange gRangeType Tryz.underlying47 rowErr Tryz.underlying160 Tryz.underlying162 rfl rfl Tryz.underlying9 cellsErr cellsStr
  obtain ⟨a10, s10, v10, c10, t10, _⟩ := laid_sentinel h10 gNumber gNumberType Tryz.underlying47 rowErr Tryz.underlying160 Tryz.underlying162 rfl rfl Tryz.underlying9 cellsErr cellsStr
  have k3 := World.var?_cell gER v3 0
  have k4 := World.var?_cell gES v4 0
  refine ⟨a6, a9, a10, a7, ⟨envG_of h5, ⟨Lib.tabIs_of_head gP10 gP10Type Tryz.underlying151 Tryz.underlying40 (by kernel_rfl) (by kernel_rfl) h2, ?_, ?_, ?_⟩, errAt_of gType v6 c6 t6, errAt_of gRange v9 c9 t9, errAt_of gNumber v10 c10 t10⟩, errAt_of gDiv v7 c7 t7⟩
  · exact ⟨_, _, by simpa using k4⟩
  · exact ⟨_, _, by simpa using k3⟩
  · exact Go.Proofs.cell_of_shapedOpen_int (zero := #[.int .i64 0]) (t := 3) hsh (of_decide_eq_true (by kernel_rfl)) (by kernel_rfl) rfl (by kernel_rfl) (by kernel_rfl) Tryz.underlying3
def putCells (cs : Array Value) : Obj → Obj
  | .cells _ t frozen => .cells cs t frozen
  | o => o
def tabD3 : Array Value := #[.int .u8 0, .int .u8 1, .int .u8 28, .int .u8 2, .int .u8 29, .int .u8 14, .int .u8 24, .int .u8 3, .int .u8 30, .int .u8 22, .int .u8 20, .int .u8 15, .int .u8 25, .int .u8 17, .int .u8 4, .int .u8 8, .int .u8 31, .int .u8 27, .int .u8 13, .int .u8 23, .int .u8 21, .int .u8 19, .int .u8 16, .int .u8 7, .int .u8 26, .int .u8 12, .int .u8 18, .int .u8 6, .int .u8 11, .int .u8 5, .int .u8 10, .int .u8 9]
def tabD6 : Array Value := #[.int .u8 0, .int .u8 1, .int .u8 56, .int .u8 2, .int .u8 57, .int .u8 49, .int .u8 28, .int .u8 3, .int .u8 61, .int .u8 58, .int .u8 42, .int .u8 50, .int .u8 38, .int .u8 29, .int .u8 17, .int .u8 4, .int .u8 62, .int .u8 47, .int .u8 59, .int .u8 36, .int .u8 45, .int .u8 43, .int .u8 51, .int .u8 22, .int .u8 53, .int .u8 39, .int .u8 33, .int .u8 30, .int .u8 24, .int .u8 18, .int .u8 12, .int .u8 5, .int .u8 63, .int .u8 55, .int .u8 48, .int .u8 27, .int .u8 60, .int .u8 41, .int .u8 37, .int .u8 16, .int .u8 46, .int .u8 35, .int .u8 44, .int .u8 21, .int .u8 52, .int .u8 32, .int .u8 23, .int .u8 11, .int .u8 54, .int .u8 26, .int .u8 40, .int .u8 15, .int .u8 34, .int .u8 20, .int .u8 31, .int .u8 10, .int .u8 25, .int .u8 14, .int .u8 19, .int .u8 9, .int .u8 13, .int .u8 8, .int .u8 7, .int .u8 6]
def tabP10 : Array Value := #[.int .u64 1, .int .u64 10, .int .u64 100, .int .u64 1000, .int .u64 10000, .int .u64 100000, .int .u64 1000000, .int .u64 10000000, .int .u64 100000000, .int .u64 1000000000, .int .u64 10000000000, .int .u64 100000000000, .int .u64 1000000000000, .int .u64 10000000000000, .int .u64 100000000000000, .int .u64 1000000000000000, .int .u64 10000000000000000, .int .u64 100000000000000000, .int .u64 1000000000000000000, .int .u64 10000000000000000000]
def startIn : Input := ⟨#[.cells #[.string ⟨#[116, 121, 112, 101]⟩] 162, .cells #[.string ⟨#[114, 97, 110, 103, 101]⟩] 162, .cells #[.string ⟨#[110, 117, 109, 98, 101, 114]⟩] 162, .cells #[.string ⟨#[118, 97, 108, 117, 101, 32, 111, 117, 116, 32, 111, 102, 32, 114, 97, 110, 103, 101]⟩] 162, .cells #[.string ⟨#[105, 110, 118, 97, 108, 105, 100, 32, 115, 121, 110, 116, 97, 120]⟩] 162, .cells #[.string ⟨#[100, 105, 118, 105, 100, 101]⟩] 162, .cells #[.string ⟨#[108, 111, 110, 103]⟩] 162, .cells #[.int .i64 2] 3, .cells #[.int .i64 2] 3, .cells #[.int .i64 2] 3, .cells #[.int .i64 2, .int .i64 2] 3, .cells #[.int .i64 2] 3, .cells #[.int .i64 2, .int .i64 10] 3, .cells #[.int .i64 2, .int .i64 10, .int .i64 10] 3, .cells #[.int .i64 2, .int .i64 2] 3, .cells #[.int .i64 3] 3, .cells #[.int .i64 (-1)] 3, .cells #[.int .i64 2] 3], #[], []⟩
theorem trodVars_len {H : Type} {enc : TypeId × Value → H} {P : Program} {w : World} {spare : Nat → Bool} : ∀ (ns : List String) (gs : List (DataW H)) (ps : List MemPlace), DataW.TrodVars enc P w spare ns gs ps → gs.length = ns.length := by
  intro ns
  induction ns with
  | nil => intro gs ps h; obtain ⟨rfl, _⟩ := trodVars_none h; rfl
  | cons n ns ih =>
    intro gs ps h
    cases gs with
    | nil => simp [DataW.TrodVars] at h
    | cons d ds =>
      obtain ⟨g, t, cs, fuel, p, q, h1, h2, h3, h4, hs, e⟩ := h
      simp [ih ds q hs]
theorem varsOk : varsRowed Tryz.prog Rows.fnMillValuesSpec.vars = true := by kernel_rfl
set_option maxHeartbeats 2000000 in
set_option maxRecDepth 100000 in
theorem contract (H : Type) (enc : TypeId × Value → H) (W : World) (base : Nat) (args : Array Value) (ds gs : List (DataW H)) (before : List MemPlace)
    (hval : ∀ (j : Nat) t v, Tryz.f3.params[j]? = some t → args[j]? = some v → Value.okWide Tryz.prog W .any base t v)
    (hW : DataW.Whole enc Tryz.prog Tryz.f3.params.toList Rows.fnMillValuesSpec.vars false W args.toList ds gs before) (hL : laidMetH Tryz.prog Rows.fnMillValuesRow.laid W) (hsh : W.ShapedOpen Tryz.prog) :
    Calls Tryz.prog 3 args W fun e W' => ∃ v, e = .returned v ∧ Rows.fnMillValuesSpec.post enc Tryz.prog Tryz.f3 false true false false W args v W' := by
  have hW' := hW
  obtain ⟨p, q, hA0, hV, rfl, hfz, hnd⟩ := hW
  have hA : DataW.TrodAll enc Tryz.prog W 0 (fun _ => true) true Tryz.f3.params.toList args.toList ds p := hA0
  rw [Tryz.params3] at hA hval
  obtain ⟨v0, vs0, d0, ds0, p0, q0, hargs, rfl, rfl, h0, r0⟩ := trodAll_cons hA
  obtain ⟨rfl, rfl, rfl⟩ := trodAll_nil r0
  obtain rfl : args = #[v0] := by cases args; simp_all
  obtain ⟨ad, n, cap, rfl, hc, hcm, hn, hnil⟩ := code_open (hval 0 22 v0 rfl rfl) h0
  have hlt0 : ∀ x ∈ p0, x.block < W.heap.size := fun x hx => DataW.TrodAll.lt hA x (by simp [hx])
  clear hA0
  obtain ⟨g1, g2, g3, g4, g5, g6, hg1⟩ : ∃ g1 g2 g3 g4 g5 g6, gs = [g1, g2, g3, g4, g5, g6] := by
    have := trodVars_len _ _ _ hV
    match gs, this with
    | [g1, g2, g3, g4, g5, g6], _ => exact ⟨g1, g2, g3, g4, g5, g6, rfl⟩
  subst hg1
  simp only [List.append_nil] at hW'
  obtain ⟨a0, a1, a2, a3, hE⟩ := env_V hL hsh
  refine (law_values ad n cap W hc hcm (fun _ => hn) hnil a0 a1 a2 a3 hE).mono fun e W' ⟨he, hnx⟩ => ?_
  subst he
  refine ⟨_, rfl, _, _, _, [], p0, q, hW', ?_, ?_, ?_, hnx.frame _, fun h => by cases h⟩
  · exact trodAll_mk1 (shut_bool Tryz.underlying4 _)
  · exact trodAll_mk1 (hnx.trod laidOut readB (of_decide_eq_true (by kernel_rfl)) h0 hlt0)
  · exact hnx.trodVars laidOut varsOk hV
theorem laid_met (os : Os) : laidMet Tryz.prog Rows.fnMillValuesRow.laid (({ World.holding Tryz.prog os startIn with heap := ((((((((((((World.holding Tryz.prog os startIn).heap.modify 10 (putCells tabD3)).modify 11 (putCells tabD6)).modify 7 (putCells tabP10)).modify 0 (putCells #[.iface 160 (.pointer (some ⟨(World.holding Tryz.prog default ⟨#[], #[], []⟩).heap.size + 0, 0, none⟩))])).modify 2 (putCells #[.iface 160 (.pointer (some ⟨(World.holding Tryz.prog default ⟨#[], #[], []⟩).heap.size + 1, 0, none⟩))])).modify 3 (putCells #[.iface 160 (.pointer (some ⟨(World.holding Tryz.prog default ⟨#[], #[], []⟩).heap.size + 2, 0, none⟩))])).modify 9 (putCells #[.iface 160 (.pointer (some ⟨(World.holding Tryz.prog default ⟨#[], #[], []⟩).heap.size + 3, 0, none⟩))])).modify 8 (putCells #[.iface 160 (.pointer (some ⟨(World.holding Tryz.prog default ⟨#[], #[], []⟩).heap.size + 4, 0, none⟩))])).modify 6 (putCells #[.iface 160 (.pointer (some ⟨(World.holding Tryz.prog default ⟨#[], #[], []⟩).heap.size + 5, 0, none⟩))])).modify 1 (putCells #[.iface 160 (.pointer (some ⟨(World.holding Tryz.prog default ⟨#[], #[], []⟩).heap.size + 6, 0, none⟩))])).modify 4 (putCells #[.slice none 0 0, .int .i64 0, .slice (some ⟨(World.holding Tryz.prog default ⟨#[], #[], []⟩).heap.size + 7, 0, none⟩) 1 1, .int .i64 2, .slice (some ⟨(World.holding Tryz.prog default ⟨#[], #[], []⟩).heap.size + 8, 0, none⟩) 1 1, .int .i64 1, .slice (some ⟨(World.holding Tryz.prog default ⟨#[], #[], []⟩).heap.size + 9, 0, none⟩) 1 1, .int .i64 2, .slice (some ⟨(World.holding Tryz.prog default ⟨#[], #[], []⟩).heap.size + 10, 0, none⟩) 2 2, .int .i64 2, .slice none 0 0, .int .i64 2, .slice (some ⟨(World.holding Tryz.prog default ⟨#[], #[], []⟩).heap.size + 11, 0, none⟩) 1 1, .int .i64 10, .slice (some ⟨(World.holding Tryz.prog default ⟨#[], #[], []⟩).heap.size + 12, 0, none⟩) 2 2, .int .i64 3, .slice (some ⟨(World.holding Tryz.prog default ⟨#[], #[], []⟩).heap.size + 13, 0, none⟩) 3 3, .int .i64 2, .slice (some ⟨(World.holding Tryz.prog default ⟨#[], #[], []⟩).heap.size + 14, 0, none⟩) 2 2, .int .i64 10, .slice (some ⟨(World.holding Tryz.prog default ⟨#[], #[], []⟩).heap.size + 15, 0, none⟩) 1 1, .int .i64 2, .slice (some ⟨(World.holding Tryz.prog default ⟨#[], #[], []⟩).heap.size + 16, 0, none⟩) 1 1, .int .i64 2, .slice (some ⟨(World.holding Tryz.prog default ⟨#[], #[], []⟩).heap.size + 17, 0, none⟩) 1 1, .int .i64 10])) } : World).forCall (fun _ _ => 0) ⟨#[], #[.slice none 0 0], []⟩).memory :=
  laidMet_of_run' 8 (by kernel_rfl) (by kernel_rfl)
theorem reads (os : Os) {H : Type} (enc : TypeId × Value → H) : ∃ gs places, DataW.whole enc Tryz.prog (({ World.holding Tryz.prog os startIn with heap := ((((((((((((World.holding Tryz.prog os startIn).heap.modify 10 (putCells tabD3)).modify 11 (putCells tabD6)).modify 7 (putCells tabP10)).modify 0 (putCells #[.iface 160 (.pointer (some ⟨(World.holding Tryz.prog default ⟨#[], #[], []⟩).heap.size + 0, 0, none⟩))])).modify 2 (putCells #[.iface 160 (.pointer (some ⟨(World.holding Tryz.prog default ⟨#[], #[], []⟩).heap.size + 1, 0, none⟩))])).modify 3 (putCells #[.iface 160 (.pointer (some ⟨(World.holding Tryz.prog default ⟨#[], #[], []⟩).heap.size + 2, 0, none⟩))])).modify 9 (putCells #[.iface 160 (.pointer (some ⟨(World.holding Tryz.prog default ⟨#[], #[], []⟩).heap.size + 3, 0, none⟩))])).modify 8 (putCells #[.iface 160 (.pointer (some ⟨(World.holding Tryz.prog default ⟨#[], #[], []⟩).heap.size + 4, 0, none⟩))])).modify 6 (putCells #[.iface 160 (.pointer (some ⟨(World.holding Tryz.prog default ⟨#[], #[], []⟩).heap.size + 5, 0, none⟩))])).modify 1 (putCells #[.iface 160 (.pointer (some ⟨(World.holding Tryz.prog default ⟨#[], #[], []⟩).heap.size + 6, 0, none⟩))])).modify 4 (putCells #[.slice none 0 0, .int .i64 0, .slice (some ⟨(World.holding Tryz.prog default ⟨#[], #[], []⟩).heap.size + 7, 0, none⟩) 1 1, .int .i64 2, .slice (some ⟨(World.holding Tryz.prog default ⟨#[], #[], []⟩).heap.size + 8, 0, none⟩) 1 1, .int .i64 1, .slice (some ⟨(World.holding Tryz.prog default ⟨#[], #[], []⟩).heap.size + 9, 0, none⟩) 1 1, .int .i64 2, .slice (some ⟨(World.holding Tryz.prog default ⟨#[], #[], []⟩).heap.size + 10, 0, none⟩) 2 2, .int .i64 2, .slice none 0 0, .int .i64 2, .slice (some ⟨(World.holding Tryz.prog default ⟨#[], #[], []⟩).heap.size + 11, 0, none⟩) 1 1, .int .i64 10, .slice (some ⟨(World.holding Tryz.prog default ⟨#[], #[], []⟩).heap.size + 12, 0, none⟩) 2 2, .int .i64 3, .slice (some ⟨(World.holding Tryz.prog default ⟨#[], #[], []⟩).heap.size + 13, 0, none⟩) 3 3, .int .i64 2, .slice (some ⟨(World.holding Tryz.prog default ⟨#[], #[], []⟩).heap.size + 14, 0, none⟩) 2 2, .int .i64 10, .slice (some ⟨(World.holding Tryz.prog default ⟨#[], #[], []⟩).heap.size + 15, 0, none⟩) 1 1, .int .i64 2, .slice (some ⟨(World.holding Tryz.prog default ⟨#[], #[], []⟩).heap.size + 16, 0, none⟩) 1 1, .int .i64 2, .slice (some ⟨(World.holding Tryz.prog default ⟨#[], #[], []⟩).heap.size + 17, 0, none⟩) 1 1, .int .i64 10])) } : World).forCall (fun _ _ => 0) ⟨#[], #[.slice none 0 0], []⟩).memory Tryz.f3.params.toList Rows.fnMillValuesSpec.vars false #[Value.slice none 0 0].toList 8 = some ([.nil], gs, places) := by
  have h : (DataW.whole enc Tryz.prog (({ World.holding Tryz.prog os startIn with heap := ((((((((((((World.holding Tryz.prog os startIn).heap.modify 10 (putCells tabD3)).modify 11 (putCells tabD6)).modify 7 (putCells tabP10)).modify 0 (putCells #[.iface 160 (.pointer (some ⟨(World.holding Tryz.prog default ⟨#[], #[], []⟩).heap.size + 0, 0, none⟩))])).modify 2 (putCells #[.iface 160 (.pointer (some ⟨(World.holding Tryz.prog default ⟨#[], #[], []⟩).heap.size + 1, 0, none⟩))])).modify 3 (putCells #[.iface 160 (.pointer (some ⟨(World.holding Tryz.prog default ⟨#[], #[], []⟩).heap.size + 2, 0, none⟩))])).modify 9 (putCells #[.iface 160 (.pointer (some ⟨(World.holding Tryz.prog default ⟨#[], #[], []⟩).heap.size + 3, 0, none⟩))])).modify 8 (putCells #[.iface 160 (.pointer (some ⟨(World.holding Tryz.prog default ⟨#[], #[], []⟩).heap.size + 4, 0, none⟩))])).modify 6 (putCells #[.iface 160 (.pointer (some ⟨(World.holding Tryz.prog default ⟨#[], #[], []⟩).heap.size + 5, 0, none⟩))])).modify 1 (putCells #[.iface 160 (.pointer (some ⟨(World.holding Tryz.prog default ⟨#[], #[], []⟩).heap.size + 6, 0, none⟩))])).modify 4 (putCells #[.slice none 0 0, .int .i64 0, .slice (some ⟨(World.holding Tryz.prog default ⟨#[], #[], []⟩).heap.size + 7, 0, none⟩) 1 1, .int .i64 2, .slice (some ⟨(World.holding Tryz.prog default ⟨#[], #[], []⟩).heap.size + 8, 0, none⟩) 1 1, .int .i64 1, .slice (some ⟨(World.holding Tryz.prog default ⟨#[], #[], []⟩).heap.size + 9, 0, none⟩) 1 1, .int .i64 2, .slice (some ⟨(World.holding Tryz.prog default ⟨#[], #[], []⟩).heap.size + 10, 0, none⟩) 2 2, .int .i64 2, .slice none 0 0, .int .i64 2, .slice (some ⟨(World.holding Tryz.prog default ⟨#[], #[], []⟩).heap.size + 11, 0, none⟩) 1 1, .int .i64 10, .slice (some ⟨(World.holding Tryz.prog default ⟨#[], #[], []⟩).heap.size + 12, 0, none⟩) 2 2, .int .i64 3, .slice (some ⟨(World.holding Tryz.prog default ⟨#[], #[], []⟩).heap.size + 13, 0, none⟩) 3 3, .int .i64 2, .slice (some ⟨(World.holding Tryz.prog default ⟨#[], #[], []⟩).heap.size + 14, 0, none⟩) 2 2, .int .i64 10, .slice (some ⟨(World.holding Tryz.prog default ⟨#[], #[], []⟩).heap.size + 15, 0, none⟩) 1 1, .int .i64 2, .slice (some ⟨(World.holding Tryz.prog default ⟨#[], #[], []⟩).heap.size + 16, 0, none⟩) 1 1, .int .i64 2, .slice (some ⟨(World.holding Tryz.prog default ⟨#[], #[], []⟩).heap.size + 17, 0, none⟩) 1 1, .int .i64 10])) } : World).forCall (fun _ _ => 0) ⟨#[], #[.slice none 0 0], []⟩).memory Tryz.f3.params.toList Rows.fnMillValuesSpec.vars false #[Value.slice none 0 0].toList 8).map (·.1) = some [.nil] := by kernel_rfl
  obtain ⟨⟨x, gs, places⟩, hx, rfl⟩ := Option.map_eq_some_iff.1 h
  exact ⟨gs, places, hx⟩
set_option maxRecDepth 100000 in
theorem lifted (os : Os) (started : os.Started) (H : Type) (enc : TypeId × Value → H) (F : Stop.Interp) :
    ReturnsInHanded {} Tryz.checked os 3 .any ((OpenSpec.ofChange Rows.fnMillValuesSpec).preRow enc Tryz.prog Tryz.f3 Rows.fnMillValuesRow.domain false Rows.fnMillValuesRow.laid) (((OpenSpec.ofChange Rows.fnMillValuesSpec).at F).post enc Tryz.prog Tryz.f3 false true false false) := by
  obtain ⟨gs, places, hx⟩ := reads os enc
  refine returnsInHanded_of_row (C := Tryz.checked) (s := OpenSpec.ofChange Rows.fnMillValuesSpec) own started (by kernel_rfl) Tryz.func3
    (witness_row_atRef (enc := enc) (C := Tryz.checked) false ({ World.holding Tryz.prog os startIn with heap := ((((((((((((World.holding Tryz.prog os startIn).heap.modify 10 (putCells tabD3)).modify 11 (putCells tabD6)).modify 7 (putCells tabP10)).modify 0 (putCells #[.iface 160 (.pointer (some ⟨(World.holding Tryz.prog default ⟨#[], #[], []⟩).heap.size + 0, 0, none⟩))])).modify 2 (putCells #[.iface 160 (.pointer (some ⟨(World.holding Tryz.prog default ⟨#[], #[], []⟩).heap.size + 1, 0, none⟩))])).modify 3 (putCells #[.iface 160 (.pointer (some ⟨(World.holding Tryz.prog default ⟨#[], #[], []⟩).heap.size + 2, 0, none⟩))])).modify 9 (putCells #[.iface 160 (.pointer (some ⟨(World.holding Tryz.prog default ⟨#[], #[], []⟩).heap.size + 3, 0, none⟩))])).modify 8 (putCells #[.iface 160 (.pointer (some ⟨(World.holding Tryz.prog default ⟨#[], #[], []⟩).heap.size + 4, 0, none⟩))])).modify 6 (putCells #[.iface 160 (.pointer (some ⟨(World.holding Tryz.prog default ⟨#[], #[], []⟩).heap.size + 5, 0, none⟩))])).modify 1 (putCells #[.iface 160 (.pointer (some ⟨(World.holding Tryz.prog default ⟨#[], #[], []⟩).heap.size + 6, 0, none⟩))])).modify 4 (putCells #[.slice none 0 0, .int .i64 0, .slice (some ⟨(World.holding Tryz.prog default ⟨#[], #[], []⟩).heap.size + 7, 0, none⟩) 1 1, .int .i64 2, .slice (some ⟨(World.holding Tryz.prog default ⟨#[], #[], []⟩).heap.size + 8, 0, none⟩) 1 1, .int .i64 1, .slice (some ⟨(World.holding Tryz.prog default ⟨#[], #[], []⟩).heap.size + 9, 0, none⟩) 1 1, .int .i64 2, .slice (some ⟨(World.holding Tryz.prog default ⟨#[], #[], []⟩).heap.size + 10, 0, none⟩) 2 2, .int .i64 2, .slice none 0 0, .int .i64 2, .slice (some ⟨(World.holding Tryz.prog default ⟨#[], #[], []⟩).heap.size + 11, 0, none⟩) 1 1, .int .i64 10, .slice (some ⟨(World.holding Tryz.prog default ⟨#[], #[], []⟩).heap.size + 12, 0, none⟩) 2 2, .int .i64 3, .slice (some ⟨(World.holding Tryz.prog default ⟨#[], #[], []⟩).heap.size + 13, 0, none⟩) 3 3, .int .i64 2, .slice (some ⟨(World.holding Tryz.prog default ⟨#[], #[], []⟩).heap.size + 14, 0, none⟩) 2 2, .int .i64 10, .slice (some ⟨(World.holding Tryz.prog default ⟨#[], #[], []⟩).heap.size + 15, 0, none⟩) 1 1, .int .i64 2, .slice (some ⟨(World.holding Tryz.prog default ⟨#[], #[], []⟩).heap.size + 16, 0, none⟩) 1 1, .int .i64 2, .slice (some ⟨(World.holding Tryz.prog default ⟨#[], #[], []⟩).heap.size + 17, 0, none⟩) 1 1, .int .i64 10])) } : World) #[.slice none 0 0] rfl (by kernel_rfl) (by kernel_rfl) (by kernel_rfl)
      (OpenSpec.preRow_of_cond 8 hx (by kernel_rfl) (fun k hk => by cases hk) (by kernel_rfl) (laid_met os))) ?_
  intro W base args ds gs before hval hW _ _ _ hL hsh _
  exact contract H enc W base args ds gs before hval hW hL hsh
theorem said : Rows.FnMillValuesSaid :=
  OpenClaim.holds_of_cond 3 Tryz.f3 rfl rfl rfl rfl rfl rfl rfl ⟨rfl, rfl, rfl, rfl, rfl⟩ rfl rfl rfl rfl rfl (by kernel_rfl) Tryz.func3 (by kernel_rfl)
    (of_decide_eq_true (by kernel_rfl)) (by unfold Func.isWrapper; first | (rw [if_pos (by decide +kernel)]; kernel_rfl) | (rw [if_neg (by decide +kernel)]; exact ⟨rfl, rfl⟩))
    (fun os started H enc _ F => by rw [OpenClaim.pre_eq_preRow]; exact lifted os started H enc F)
/-- No parameter wants a stand-in; the program's own looks are off: what the card asks. -/
theorem plain (f : FuncId) (fn : Func) (hf : Tryz.pinned.checked.prog.funcNamed "loop.example/kilnyard/laws.FnMillValues" = some f) (hfn : Tryz.pinned.checked.prog.funcs[f]? = some fn) :
    true = Tryz.pinned.checked.prog.looks [] ∧ ∀ (j : Nat) t, fn.params[j]? = some t → Tryz.pinned.checked.prog.wantsStandIn t = false := by
  obtain rfl : f = 3 := Option.some.inj ((show Tryz.prog.funcNamed "loop.example/kilnyard/laws.FnMillValues" = some 3 by kernel_rfl).symm.trans hf) |>.symm
  obtain rfl : fn = Tryz.f3 := (Option.some.inj (Tryz.func3.symm.trans hfn)).symm
  refine ⟨by kernel_rfl, fun j t ht => ?_⟩
  rw [Tryz.params3] at ht
  obtain rfl : t = 22 := by simpa using Array.mem_of_getElem? ht
  exact (show Tryz.prog.wantsStandIn 22 = false by kernel_rfl)
/-- The card. -/
theorem card : Rows.FnMillValuesCardSaid :=
  Claim7.holds_tied_plain_at .later [] _ _ _ _ said (fun _ h => by cases h) (by kernel_rfl) (fun _ h => by cases h) fnMillValues_row_tie rfl ⟨rfl, rfl⟩ (by kernel_rfl) rfl plain (by kernel_rfl)
end Go.Proofs.YtabefhpgeaihgaaGreatDoor.V
namespace Go.Proofs.YtabefhpgeaihgaaGreatDoor
/-- The given card. -/
theorem card_fnMillValues : Rows.FnMillValuesCardSaid := V.card
#print axioms card_fnMillValues
end Go.Proofs.YtabefhpgeaihgaaGreatDoor
