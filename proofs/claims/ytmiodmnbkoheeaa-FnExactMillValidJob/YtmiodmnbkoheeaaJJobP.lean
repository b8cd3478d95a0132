import Derived.Test.YtmiodmnbkoheeaaRows
import Derived.Test.YtmiodmnbkoheeaaJLaw
import Derived.ProofKit
import Derived.Deep.Slices
namespace Go.Proofs.Ytmiodmnbkoheeaa
open Go.ChangeShapes Go.WideShapes Go.ChangeAt Go.RowKit Go.Deep J
set_option maxRecDepth 20000
theorem cellsJob : Try.prog.cellsOf 24 = 2 := by kernel_rfl
theorem cellsStrJ : Try.prog.cellsOf 9 = 1 := by kernel_rfl
theorem cellsSlJ : Try.prog.cellsOf 22 = 1 := by kernel_rfl
theorem job_open {H : Type} {enc : TypeId × Value → H} {W : World} {base : Nat} {v : Value} {d : DataW H} {ps : List MemPlace} (hv : Value.okWide Try.prog W .any base 24 v) (h : DataW.Trod enc Try.prog W 0 (fun _ => true) true 24 v d ps) :
    ∃ b an M c2 s, v = .agg #[.string b, .slice an M c2] ∧ b.size ≤ maxLen ∧ M ≤ maxLen ∧ TextsA W an M s ∧ ∀ i, i < M → (s i).size ≤ maxLen := by
  obtain ⟨cs, rfl, hsz⟩ := okWide_struct Try.underlying24 hv
  rw [cellsJob] at hsz
  obtain ⟨v0, v1, rfl⟩ : ∃ v0 v1, cs = #[v0, v1] := by
    match cs, hsz with
    | ⟨[a, b]⟩, _ => exact ⟨a, b, rfl⟩
  obtain ⟨fuel, hf⟩ := h
  obtain ⟨xs, m, _, _, hl, hlen, hg⟩ := DataW.trod_struct Try.underlying24 hf
  match xs, hlen with
  | [y0, y1], _ =>
    have f0 := hg 0 _ rfl
    have f1 := hg 1 _ rfl
    simp [cellsSlJ, cellsStrJ, Value.cells] at f0 f1
    obtain ⟨b, e0, _, h0⟩ := DataW.trod_string Try.underlying9 f0
    cases e0
    have hB : ∃ an M c2 s, v1 = .slice an M c2 ∧ M ≤ maxLen ∧ TextsA W an M s ∧ ∀ i, i < M → (s i).size ≤ maxLen := by
      rcases open_slice Try.underlying22 f1 with ⟨e, _⟩ | ⟨a, len, cap, m, n2, D, Pl, e, hb, hlc, hcm, hm, _, hel⟩
      · exact ⟨none, 0, 0, fun _ => ⟨#[]⟩, by simpa using e, Nat.zero_le _, .inl rfl, fun i h => absurd h (Nat.not_lt_zero _)⟩
      · have hall : ∀ i, ∃ x : ByteArray, i < len → W.cell? (a.add i) = some (.string x) ∧ x.size ≤ maxLen ∧ a.block < W.heap.size := fun i => by
          by_cases hi : i < len
          · have hm2 : len ≤ m := by rw [hm]; simp; exact hlc
            obtain ⟨cs', hc, ht⟩ := hel i (by omega)
            rw [cellsStrJ, Nat.mul_one] at hc
            obtain ⟨x, e0, _, hx⟩ := DataW.trod_string Try.underlying9 ht
            subst e0
            refine ⟨x, fun _ => ?_⟩
            have hbl := World.cells?_block hc (by omega)
            rw [add_block] at hbl
            obtain ⟨_, _, hg⟩ := World.cells?_some hc
            refine ⟨?_, hx, hbl⟩
            have := hg 0 (by omega); simpa [Addr.add] using this
          · exact ⟨⟨#[]⟩, fun h => absurd h hi⟩
        obtain ⟨s, hnd⟩ := Classical.skolem.1 hall
        refine ⟨some a, len, cap, s, by simpa using e, by omega, ?_, fun i hi => (hnd i hi).2.1⟩
        by_cases h0 : len = 0
        · exact .inl h0
        · exact .inr ⟨a, rfl, (hnd 0 (by omega)).2.2, fun i hi => (hnd i hi).1⟩
    obtain ⟨an, M, c2, s, rfl, hM, hS, hy⟩ := hB
    exact ⟨b, an, M, c2, s, rfl, h0, hM, hS, hy⟩
theorem ownJ : ownKnob Try.prog.godebug = none := by kernel_rfl
theorem laidOutJ : laidOutB Try.prog = true := by kernel_rfl
theorem readTJ : Try.prog.readableRec 24 = true := by kernel_rfl
set_option maxRecDepth 100000 in
theorem lifted_job (os : Os) (started : os.Started) (H : Type) (enc : TypeId × Value → H) :
    ReturnsInHanded {} Try.checked os 3 .any (Rows.fnExactMillValidJobSpec.pre6 enc Try.prog Try.f3 Rows.fnExactMillValidJobRow.domain false) (Rows.fnExactMillValidJobSpec.post enc Try.prog Try.f3 false true false false) := by
  refine returnsInHanded_of_change (C := Try.checked) ownJ started (by kernel_rfl) Try.func3
    (ChangeSpec.witness6 (enc := enc) (C := Try.checked) false ⟨#[], #[.agg #[.string ⟨#[]⟩, .slice none 0 0]], []⟩ 8 (by kernel_rfl) (by kernel_rfl) (by kernel_rfl) (by kernel_rfl)) ?_
  intro W base args ds gs before hval0 hW hcnd _
  have hval : ∀ (j : Nat) t v, Try.f3.params[j]? = some t → args[j]? = some v → Value.okWide Try.prog W .any base t v := hval0
  have hW' := hW
  obtain ⟨p, q, hA0, hV, rfl, hfz, hnd⟩ := hW
  have hA : DataW.TrodAll enc Try.prog W 0 (fun _ => true) true Try.f3.params.toList args.toList ds p := hA0
  rw [Try.params3] at hA hval
  obtain ⟨v0, vs0, d0, ds0, p0, q0, hargs, rfl, rfl, h0, r0⟩ := trodAll_cons hA
  obtain ⟨rfl, rfl, rfl⟩ := trodAll_nil r0
  obtain rfl : args = #[v0] := by cases args; simp_all
  obtain ⟨rfl, rfl⟩ := trodVars_none hV
  obtain ⟨b, an, M, c2, s, rfl, hb, hM, hS, hy⟩ := job_open (hval 0 24 v0 rfl rfl) h0
  have hlt : ∀ x ∈ p0, x.block < W.heap.size := fun x hx => DataW.TrodAll.lt hA x (by simpa using hx)
  clear hA0 hval0
  simp only [List.append_nil] at hW'
  refine (law_job b an M c2 s W hb hM hS hy).mono fun e W' ⟨he, hnx⟩ => ?_
  subst he
  refine ⟨_, rfl, _, _, _, [], p0, [], hW', ?_, ?_, ?_, hnx.frame _, fun h => by cases h⟩
  · exact trodAll_mk1 (shut_bool Try.underlying4 _)
  · exact trodAll_mk1 (hnx.trod laidOutJ readTJ (of_decide_eq_true (by kernel_rfl)) h0 hlt)
  · rfl
theorem said_job : Rows.FnExactMillValidJobSaid :=
  OpenClaim.holds_of_wide 3 Try.f3 rfl rfl rfl rfl rfl rfl rfl ⟨rfl, rfl, rfl, rfl, rfl⟩ rfl rfl rfl rfl rfl (by kernel_rfl) Try.func3 (by kernel_rfl)
    (of_decide_eq_true (by kernel_rfl)) (by unfold Func.isWrapper; first | (rw [if_pos (by decide +kernel)]; kernel_rfl) | (rw [if_neg (by decide +kernel)]; exact ⟨rfl, rfl⟩))
    (fun os started H enc _ => lifted_job os started H enc)
#print axioms said_job
end Go.Proofs.Ytmiodmnbkoheeaa
