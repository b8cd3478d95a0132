import Derived.Test.YtfbfmhmpoaplaaaDoorCBase
import Derived.Test.YtfbfmhmpoaplaaaDoorLUn
import Derived.ProofKit
import Derived.Deep.Slices
namespace Go.Proofs.YtfbfmhmpoaplaaaDoor
open Go.ChangeShapes Go.WideShapes Go.ChangeAt Go.RowKit Go.Deep
set_option maxRecDepth 20000
theorem atom_openX {H : Type} {enc : TypeId × Value → H} {W : World} {base : Nat} {spare : Nat → Bool} {held : Bool} {n : Nat} {cs : List Value} {z : DataW H × List MemPlace} (h : DataW.trod enc Tryd.prog W base spare held n 60 cs = some z) :
    ∃ x : At, cs = [.int .i64 x.kind, .int .i64 x.n, .string x.text, .int .i64 x.kids] ∧ (x.text.size ≤ maxLen ∧ -9223372036854775808 ≤ x.n ∧ x.n ≤ 9223372036854775807) := by
  obtain ⟨xs, m, _, _, hl, hlen, hf⟩ := DataW.trod_struct Tryd.underlying60 h
  rw [cellsAtom] at hl
  match cs, hl with
  | [c0, c1, c2, c3], _ =>
    match xs, hlen with
    | [y0, y1, y2, y3], _ =>
      have f0 := hf 0 _ rfl
      have f1 := hf 1 _ rfl
      have f2 := hf 2 _ rfl
      have f3 := hf 3 _ rfl
      simp [cellsInt, cellsInt64, cellsStr] at f0 f1 f2 f3
      obtain ⟨k, e0, _, _⟩ := DataW.trod_int Tryd.underlying3 f0
      obtain ⟨nn, e2, _, hw⟩ := DataW.trod_int Tryd.underlying2 f1
      have hb : -9223372036854775808 ≤ nn ∧ nn ≤ 9223372036854775807 := by
        simp only [Lit.wf, Bool.and_eq_true, decide_eq_true_eq] at hw
        exact hw
      obtain ⟨t, e3, _, ht⟩ := DataW.trod_string Tryd.underlying9 f2
      obtain ⟨kd, e4, _, _⟩ := DataW.trod_int Tryd.underlying3 f3
      cases e0; cases e2; cases e3; cases e4
      exact ⟨⟨k, nn, t, kd⟩, rfl, ht, hb⟩
theorem value_openX {H : Type} {enc : TypeId × Value → H} {W : World} {base : Nat} {v : Value} {d : DataW H} {ps : List MemPlace} (hv : Value.okWide Tryd.prog W .any base 24 v) (h : DataW.Trod enc Tryd.prog W 0 (fun _ => true) true 24 v d ps) :
    ∃ ad l N cap, v = .agg #[.slice ad N cap] ∧ l.length = N ∧ N ≤ maxLen ∧ AtomsA W ad l ∧ ∀ x ∈ l, x.text.size ≤ maxLen ∧ -9223372036854775808 ≤ x.n ∧ x.n ≤ 9223372036854775807 := by
  obtain ⟨cs, rfl, hsz⟩ := okWide_struct Tryd.underlying24 hv
  rw [cellsVal] at hsz
  obtain ⟨c0, rfl⟩ : ∃ c0, cs = #[c0] := ⟨cs[0], by apply Array.ext; simp [hsz]; intro i h1 h2; simp at h2; subst h2; rfl⟩
  obtain ⟨fuel, hf⟩ := h
  obtain ⟨y0, n, _, _, hy⟩ := trod_struct1 Tryd.underlying24 hf
  simp [cellsSl, Value.cells] at hy
  rcases open_slice Tryd.underlying22 hy with ⟨e, _⟩ | ⟨a, len, cap, m, n2, D, Pl, e, hb, hlc, hcm, hm, _, hel⟩
  · cases e
    exact ⟨none, [], 0, 0, rfl, rfl, Nat.zero_le _, .inl rfl, fun x h => by cases h⟩
  · cases e
    have hall : ∀ i, ∃ x : At, i < len → FourA W (a.add (i * 4)) x ∧ (x.text.size ≤ maxLen ∧ -9223372036854775808 ≤ x.n ∧ x.n ≤ 9223372036854775807) ∧ a.block < W.heap.size := fun i => by
      by_cases hi : i < len
      · have hm2 : len ≤ m := by rw [hm]; simp; exact hlc
        obtain ⟨cs', hc, ht⟩ := hel i (by omega)
        rw [cellsAtom] at hc
        obtain ⟨x, rfl, hx⟩ := atom_openX ht
        refine ⟨x, fun _ => ?_⟩
        have hbl := World.cells?_block hc (by omega)
        rw [add_block] at hbl
        obtain ⟨_, _, hg⟩ := World.cells?_some hc
        refine ⟨⟨?_, ?_, ?_, ?_⟩, hx, hbl⟩
        · have := hg 0 (by omega); simpa [Addr.add] using this
        · have := hg 1 (by omega); rw [add_one _ 1 (by decide)] at this; simpa using this
        · have := hg 2 (by omega); rw [add_one _ 2 (by decide)] at this; simpa using this
        · have := hg 3 (by omega); rw [add_one _ 3 (by decide)] at this; simpa using this
      · exact ⟨⟨0, 0, ⟨#[]⟩, 0⟩, fun h => absurd h hi⟩
    obtain ⟨nd, hnd⟩ := Classical.skolem.1 hall
    have hget : ∀ i x, ((List.range len).map nd)[i]? = some x → i < len ∧ x = nd i := fun i x hx => by
      rw [List.getElem?_map] at hx
      by_cases hi : i < len
      · rw [List.getElem?_range hi] at hx
        exact ⟨hi, by simpa using hx.symm⟩
      · rw [List.getElem?_eq_none (by simp; omega)] at hx; cases hx
    refine ⟨some a, (List.range len).map nd, len, cap, rfl, by simp, by omega, ?_, fun x hx => ?_⟩
    · by_cases h0 : len = 0
      · exact .inl (by simp [h0])
      · refine .inr ⟨a, rfl, (hnd 0 (by omega)).2.2, fun i x hx => ?_⟩
        obtain ⟨hi, rfl⟩ := hget i x hx
        exact (hnd i hi).1
    · obtain ⟨i, hi, rfl⟩ := List.getElem_of_mem hx
      obtain ⟨h1, h2⟩ := hget i _ (List.getElem?_eq_getElem hi)
      rw [h2]; exact (hnd i h1).2.1
open Go.ChangeShapes Go.WideShapes Go.ChangeAt Go.RowKit
set_option maxRecDepth 100000 in
theorem contract_fnExactClayUn (H : Type) (enc : TypeId × Value → H) (W : World) (base : Nat) (args : Array Value) (ds gs : List (DataW H)) (before : List MemPlace)
    (hval : ∀ (j : Nat) t v, Tryd.f5.params[j]? = some t → args[j]? = some v → Value.okWide Tryd.prog W .any base t v)
    (hW : DataW.Whole enc Tryd.prog Tryd.f5.params.toList Rows.fnExactClayUnSpec.vars false W args.toList ds gs before) (hL : laidMetH Tryd.prog Rows.fnExactClayUnRow.laid W) :
    Calls Tryd.prog 5 args W fun e W' => ∃ v, e = .returned v ∧ Rows.fnExactClayUnSpec.post enc Tryd.prog Tryd.f5 false true false false W args v W' := by
  have hW' := hW
  obtain ⟨p, q, hA0, hV, rfl, hfz, hnd⟩ := hW
  have hA : DataW.TrodAll enc Tryd.prog W 0 (fun _ => true) true Tryd.f5.params.toList args.toList ds p := hA0
  rw [Tryd.params5] at hA hval
  obtain ⟨v0, vs0, d0, ds0, p0, q0, hargs, rfl, rfl, h0, r0⟩ := trodAll_cons hA
  obtain ⟨v1, vs1, d1, ds1, p1, q1, rfl, rfl, rfl, h1, r1⟩ := trodAll_cons r0
  obtain ⟨rfl, rfl, rfl⟩ := trodAll_nil r1
  obtain rfl : args = #[v0, v1] := by cases args; simp_all
  obtain ⟨op, rfl, rfl, rfl, hat⟩ := open_int Tryd.underlying3 (hval 0 3 v0 rfl rfl) h0
  obtain ⟨ad, l, N, cap, rfl, hl, hN, hn, ht⟩ := value_openX (hval 1 24 v1 rfl rfl) h1
  have hlt : ∀ x ∈ p1, x.block < W.heap.size := fun x hx => DataW.TrodAll.lt hA x (by simp [hx])
  clear hA0
  obtain ⟨g1, hg1⟩ : ∃ g1, gs = [g1] := by
    obtain ⟨_, _, _, _, d, _, e, _⟩ := trodVars_one hV
    exact ⟨d, e⟩
  subst hg1
  simp only [List.append_nil, List.nil_append] at hW'
  refine (law_un op ad l N cap W (one_of_laid hL) hl hN hn (fun x hx => (ht x hx).1) (fun x hx => (ht x hx).2)).mono fun e W' ⟨he, hnx⟩ => ?_
  subst he
  refine ⟨_, rfl, _, _, _, [], p1, q, hW', ?_, ?_, ?_, hnx.frame _, fun h => by cases h⟩
  · exact trodAll_mk1 (shut_bool Tryd.underlying4 _)
  · have := trodAll_mk2 (shut_int Tryd.underlying3 hat) (hnx.trod laidOut readV (of_decide_eq_true (by kernel_rfl)) h1 hlt)
    simp only [List.nil_append] at this
    exact this
  · exact hnx.trodVars laidOut varsOk hV
theorem laid_met_fnExactClayUn (os : Os) : laidMet Tryd.prog Rows.fnExactClayUnRow.laid (({ World.holding Tryd.prog os startIn with heap := ((World.holding Tryd.prog os startIn).heap.modify 0 (putCells tabSO)) } : World).forCall (fun _ _ => 0) ⟨#[], #[.int .i64 0, .agg #[.slice none 0 0]], []⟩).memory :=
  laidMet_of_run' 8 (by kernel_rfl) (by kernel_rfl)
theorem reads_fnExactClayUn (os : Os) {H : Type} (enc : TypeId × Value → H) : ∃ places, DataW.whole enc Tryd.prog (({ World.holding Tryd.prog os startIn with heap := ((World.holding Tryd.prog os startIn).heap.modify 0 (putCells tabSO)) } : World).forCall (fun _ _ => 0) ⟨#[], #[.int .i64 0, .agg #[.slice none 0 0]], []⟩).memory Tryd.f5.params.toList Rows.fnExactClayUnSpec.vars false #[Value.int .i64 0, Value.agg #[.slice none 0 0]].toList 8 = some ([.lit (.int .i64 0), .agg [.nil]], [Rows.laid_loop_example_kilnyard_impl_claySizeOne], places) :=
  ⟨MemPlace.row ⟨0, 0, none⟩ 2, by kernel_rfl⟩
set_option maxRecDepth 100000 in
theorem lifted_fnExactClayUn (os : Os) (started : os.Started) (H : Type) (enc : TypeId × Value → H) (F : Stop.Interp) :
    ReturnsInHanded {} Tryd.checked os 5 .any ((OpenSpec.ofChange Rows.fnExactClayUnSpec).preRow enc Tryd.prog Tryd.f5 Rows.fnExactClayUnRow.domain false Rows.fnExactClayUnRow.laid) (((OpenSpec.ofChange Rows.fnExactClayUnSpec).at F).post enc Tryd.prog Tryd.f5 false true false false) := by
  obtain ⟨places, hx⟩ := reads_fnExactClayUn os enc
  refine returnsInHanded_of_row (C := Tryd.checked) (s := OpenSpec.ofChange Rows.fnExactClayUnSpec) own started (by kernel_rfl) Tryd.func5
    (witness_row_at (enc := enc) (C := Tryd.checked) false ({ World.holding Tryd.prog os startIn with heap := ((World.holding Tryd.prog os startIn).heap.modify 0 (putCells tabSO)) } : World) #[.int .i64 0, .agg #[.slice none 0 0]] rfl (by kernel_rfl) (by kernel_rfl) (by kernel_rfl)
      (OpenSpec.preRow_of_cond 8 hx (by kernel_rfl) (fun k hk => by cases hk) (by kernel_rfl) (laid_met_fnExactClayUn os))) ?_
  intro W base args ds gs before hval hW _ _ _ hL _ _
  exact contract_fnExactClayUn H enc W base args ds gs before hval hW hL
theorem said_fnExactClayUn : Rows.FnExactClayUnSaid :=
  OpenClaim.holds_of_cond 5 Tryd.f5 rfl rfl rfl rfl rfl rfl rfl ⟨rfl, rfl, rfl, rfl, rfl⟩ rfl rfl rfl rfl rfl (by kernel_rfl) Tryd.func5 (by kernel_rfl)
    (of_decide_eq_true (by kernel_rfl)) (by unfold Func.isWrapper; first | (rw [if_pos (by decide +kernel)]; kernel_rfl) | (rw [if_neg (by decide +kernel)]; exact ⟨rfl, rfl⟩))
    (fun os started H enc _ F => by rw [OpenClaim.pre_eq_preRow]; exact lifted_fnExactClayUn os started H enc F)
/-- No parameter wants a stand-in; the program's own looks are off: what the card asks. -/
theorem plain_fnExactClayUn (f : FuncId) (fn : Func) (hf : Tryd.pinned.checked.prog.funcNamed "loop.example/kilnyard/laws.FnExactClayUn" = some f) (hfn : Tryd.pinned.checked.prog.funcs[f]? = some fn) :
    true = Tryd.pinned.checked.prog.looks [] ∧ ∀ (j : Nat) t, fn.params[j]? = some t → Tryd.pinned.checked.prog.wantsStandIn t = false := by
  obtain rfl : f = 5 := Option.some.inj ((show Tryd.prog.funcNamed "loop.example/kilnyard/laws.FnExactClayUn" = some 5 by kernel_rfl).symm.trans hf) |>.symm
  obtain rfl : fn = Tryd.f5 := (Option.some.inj (Tryd.func5.symm.trans hfn)).symm
  refine ⟨by kernel_rfl, fun j t ht => ?_⟩
  rw [Tryd.params5] at ht
  have hm : t = 3 ∨ t = 24 := by simpa using Array.mem_of_getElem? ht
  rcases hm with rfl | rfl
  · exact (show Tryd.prog.wantsStandIn 3 = false by kernel_rfl)
  · exact (show Tryd.prog.wantsStandIn 24 = false by kernel_rfl)
/-- The card. -/
theorem card_fnExactClayUn : Rows.FnExactClayUnCardSaid :=
  Claim7.holds_tied_plain_at .later [] _ _ _ _ said_fnExactClayUn (fun _ h => by cases h) (by kernel_rfl) (fun _ h => by cases h) fnExactClayUn_row_tie rfl ⟨rfl, rfl⟩ (by kernel_rfl) rfl plain_fnExactClayUn (by kernel_rfl)
#print axioms card_fnExactClayUn
end Go.Proofs.YtfbfmhmpoaplaaaDoor
