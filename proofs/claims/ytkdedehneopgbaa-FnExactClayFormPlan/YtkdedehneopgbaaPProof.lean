import Derived.Test.YtkdedehneopgbaaRows
import Derived.Test.YtkdedehneopgbaaPLaw
import Derived.ProofKit
import Derived.Deep.Slices
namespace Go.Proofs.Ytkdedehneopgbaa
open Go.ChangeShapes Go.WideShapes Go.ChangeAt Go.RowKit Go.Deep
set_option maxRecDepth 20000
theorem cellsTg : Try.prog.cellsOf 32 = 5 := by kernel_rfl
theorem cellsSlS : Try.prog.cellsOf 30 = 1 := by kernel_rfl
theorem cellsStr : Try.prog.cellsOf 9 = 1 := by kernel_rfl
theorem texts_open {H : Type} {enc : TypeId × Value → H} {W : World} {base : Nat} {spare : Nat → Bool} {held : Bool} {n : Nat} {v : Value} {z : DataW H × List MemPlace} (f1 : DataW.trod enc Try.prog W base spare held n 30 [v] = some z) :
    ∃ an M c2 s, v = .slice an M c2 ∧ M ≤ maxLen ∧ TextsA W an M s ∧ ∀ i, i < M → (s i).size ≤ maxLen := by
  rcases open_slice Try.underlying30 f1 with ⟨e, _⟩ | ⟨a, len, cap, m, n2, D, Pl, e, hb, hlc, hcm, hm, _, hel⟩
  · exact ⟨none, 0, 0, fun _ => ⟨#[]⟩, by simpa using e, Nat.zero_le _, .inl rfl, fun i h => absurd h (Nat.not_lt_zero _)⟩
  · have hall : ∀ i, ∃ x : ByteArray, i < len → W.cell? (a.add i) = some (.string x) ∧ x.size ≤ maxLen ∧ a.block < W.heap.size := fun i => by
      by_cases hi : i < len
      · have hm2 : len ≤ m := by rw [hm]; split <;> omega
        obtain ⟨cs', hc, ht⟩ := hel i (by omega)
        rw [cellsStr, Nat.mul_one] at hc
        obtain ⟨x, e0, _, hx⟩ := DataW.trod_string Try.underlying9 ht
        subst e0
        refine ⟨x, fun _ => ?_⟩
        have hbl := World.cells?_block hc (by omega)
        rw [add_block] at hbl
        obtain ⟨_, _, hg⟩ := World.cells?_some hc
        refine ⟨?_, hx, hbl⟩
        have := hg 0 (by omega); simpa [Addr.add] using this
      · exact ⟨⟨#[]⟩, fun h => absurd h hi⟩
    obtain ⟨s, hnd⟩ := Classical.skolem.1 hall
    refine ⟨some a, len, cap, s, by simpa using e, by omega, ?_, fun i hi => (hnd i hi).2.1⟩
    by_cases h0 : len = 0
    · exact .inl h0
    · exact .inr ⟨a, rfl, (hnd 0 (by omega)).2.2, fun i hi => (hnd i hi).1⟩
theorem target_open {H : Type} {enc : TypeId × Value → H} {W : World} {base : Nat} {spare : Nat → Bool} {held : Bool} {n : Nat} {cs : List Value} {z : DataW H × List MemPlace} (h : DataW.trod enc Try.prog W base spare held n 32 cs = some z) :
    ∃ (x : Tg) (ai ao : Option Addr) (ci co : Nat), cs = [.string x.name, .string x.tool, .string x.arg, .slice ai x.N ci, .slice ao x.M co] ∧ TextsA W ai x.N x.ins ∧ TextsA W ao x.M x.outs ∧ TgOk x := by
  obtain ⟨xs, m, _, _, hl, hlen, hf⟩ := DataW.trod_struct Try.underlying32 h
  rw [cellsTg] at hl
  match cs, hl with
  | [c0, c1, c2, c3, c4], _ =>
    match xs, hlen with
    | [y0, y1, y2, y3, y4], _ =>
      have f0 := hf 0 _ rfl
      have f1 := hf 1 _ rfl
      have f2 := hf 2 _ rfl
      have f3 := hf 3 _ rfl
      have f4 := hf 4 _ rfl
      simp [cellsStr] at f0 f1 f2
      simp [cellsSlS] at f3 f4
      obtain ⟨a, e0, _, h0⟩ := DataW.trod_string Try.underlying9 f0
      obtain ⟨b, e1, _, h1⟩ := DataW.trod_string Try.underlying9 f1
      obtain ⟨c, e2, _, h2⟩ := DataW.trod_string Try.underlying9 f2
      obtain ⟨ai, N, ci, s, rfl, hN, hS, hs⟩ := texts_open f3
      obtain ⟨ao, M, co, t, rfl, hM, hT, ht⟩ := texts_open f4
      cases e0; cases e1; cases e2
      exact ⟨⟨a, b, c, N, s, M, t⟩, ai, ao, ci, co, rfl, hS, hT, ⟨h0, h1, h2, hN, hM, hs, ht⟩⟩
theorem plan_open {H : Type} {enc : TypeId × Value → H} {W : World} {base : Nat} {spare : Nat → Bool} {held : Bool} {n : Nat} {v : Value} {z : DataW H × List MemPlace} (f0 : DataW.trod enc Try.prog W base spare held n 22 [v] = some z) :
    ∃ ad N cap f, v = .slice ad N cap ∧ N ≤ maxLen ∧ TgsA W ad N f ∧ ∀ i, i < N → TgOk (f i) := by
  have x0 : Tg := ⟨⟨#[]⟩, ⟨#[]⟩, ⟨#[]⟩, 0, fun _ => ⟨#[]⟩, 0, fun _ => ⟨#[]⟩⟩
  rcases open_slice Try.underlying22 f0 with ⟨e, _⟩ | ⟨a, len, cap, m, n2, D, Pl, e, hb, hlc, hcm, hm, _, hel⟩
  · exact ⟨none, 0, 0, fun _ => x0, by simpa using e, Nat.zero_le _, .inl rfl, fun i h => absurd h (Nat.not_lt_zero _)⟩
  · have hall : ∀ i, ∃ x : Tg, i < len → FiveT W (fun _ => True) (a.add (i * 5)) x ∧ TgOk x ∧ a.block < W.heap.size := fun i => by
      by_cases hi : i < len
      · have hm2 : len ≤ m := by rw [hm]; split <;> omega
        obtain ⟨cs', hc, ht⟩ := hel i (by omega)
        rw [cellsTg] at hc
        obtain ⟨x, ai, ao, ci, co, rfl, t1, t2, hx⟩ := target_open ht
        refine ⟨x, fun _ => ?_⟩
        have hbl := World.cells?_block hc (by omega)
        rw [add_block] at hbl
        obtain ⟨_, _, hg⟩ := World.cells?_some hc
        refine ⟨⟨ai, ci, ao, co, ⟨?_, ?_, ?_, ?_, ?_⟩, t1, t2, trivial, trivial⟩, hx, hbl⟩
        · have := hg 0 (by omega); simpa [Addr.add] using this
        · have := hg 1 (by omega); rw [add_one _ 1 (by decide)] at this; simpa using this
        · have := hg 2 (by omega); rw [add_one _ 2 (by decide)] at this; simpa using this
        · have := hg 3 (by omega); rw [add_one _ 3 (by decide)] at this; simpa using this
        · have := hg 4 (by omega); rw [add_one _ 4 (by decide)] at this; simpa using this
      · exact ⟨x0, fun h => absurd h hi⟩
    obtain ⟨f, hnd⟩ := Classical.skolem.1 hall
    refine ⟨some a, len, cap, f, by simpa using e, by omega, ?_, fun i hi => (hnd i hi).2.1⟩
    by_cases h0 : len = 0
    · exact .inl h0
    · exact .inr ⟨a, rfl, (hnd 0 (by omega)).2.2, fun i hi => (hnd i hi).1⟩
theorem own : ownKnob Try.prog.godebug = none := by kernel_rfl
theorem laidOut : laidOutB Try.prog = true := by kernel_rfl
theorem readT : Try.prog.readableRec 22 = true := by kernel_rfl
set_option maxHeartbeats 2000000 in
set_option maxRecDepth 100000 in
theorem lifted (os : Os) (started : os.Started) (H : Type) (enc : TypeId × Value → H) :
    ReturnsInHanded {} Try.checked os 3 .any (Rows.fnExactClayFormPlanSpec.pre6 enc Try.prog Try.f3 Rows.fnExactClayFormPlanRow.domain false) (Rows.fnExactClayFormPlanSpec.post enc Try.prog Try.f3 false true false false) := by
  refine returnsInHanded_of_change (C := Try.checked) own started (by kernel_rfl) Try.func3
    (ChangeSpec.witness6 (enc := enc) (C := Try.checked) false ⟨#[], #[.slice none 0 0], []⟩ 8 (by kernel_rfl) (by kernel_rfl) (by kernel_rfl) (by kernel_rfl)) ?_
  intro W base args ds gs before hval0 hW hcnd _
  have hval : ∀ (j : Nat) t v, Try.f3.params[j]? = some t → args[j]? = some v → Value.okWide Try.prog W .any base t v := hval0
  have hW' := hW
  obtain ⟨p, q, hA0, hV, rfl, hfz, hnd⟩ := hW
  have hA : DataW.TrodAll enc Try.prog W 0 (fun _ => true) true Try.f3.params.toList args.toList ds p := hA0
  rw [Try.params3] at hA hval
  obtain ⟨v0, vs0, d0, ds0, p0, q0, hargs, rfl, rfl, h0, r0⟩ := trodAll_cons hA
  obtain ⟨rfl, rfl, rfl⟩ := trodAll_nil r0
  obtain rfl : args = #[v0] := by cases args; simp_all
  obtain ⟨rfl, rfl⟩ := trodVars_none hV
  obtain ⟨a1, n1, c1, rfl⟩ := okWide_slice Try.underlying22 (hval 0 22 v0 rfl rfl)
  have h0' := h0
  obtain ⟨fuel, hf⟩ := h0'
  have hf' : DataW.trod enc Try.prog W 0 (fun _ => true) true fuel 22 [.slice a1 n1 c1] = some (d0, p0) := hf
  obtain ⟨ad, N, cap, f, hv, hN, hF, hx⟩ := plan_open hf'
  cases hv
  have hlt : ∀ x ∈ p0, x.block < W.heap.size := fun x hx => DataW.TrodAll.lt hA x (by simpa using hx)
  clear hA0 hval0
  simp only [List.append_nil] at hW'
  refine (law_any a1 n1 c1 f W hN hF hx).mono fun e W' ⟨he, hnx⟩ => ?_
  subst he
  refine ⟨_, rfl, _, _, _, [], p0, [], hW', ?_, ?_, ?_, hnx.frame _, fun h => by cases h⟩
  · exact trodAll_mk1 (shut_bool Try.underlying4 _)
  · exact trodAll_mk1 (hnx.trod laidOut readT (of_decide_eq_true (by kernel_rfl)) h0 hlt)
  · rfl
theorem said : Rows.FnExactClayFormPlanSaid :=
  OpenClaim.holds_of_wide 3 Try.f3 rfl rfl rfl rfl rfl rfl rfl ⟨rfl, rfl, rfl, rfl, rfl⟩ rfl rfl rfl rfl rfl (by kernel_rfl) Try.func3 (by kernel_rfl)
    (of_decide_eq_true (by kernel_rfl)) (by unfold Func.isWrapper; first | (rw [if_pos (by decide +kernel)]; kernel_rfl) | (rw [if_neg (by decide +kernel)]; exact ⟨rfl, rfl⟩))
    (fun os started H enc _ => lifted os started H enc)
#print axioms said
end Go.Proofs.Ytkdedehneopgbaa
