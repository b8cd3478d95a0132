import Derived.Test.YtfbfmhmpoaplaaaDoorUSz
import Derived.ProofKit
import Derived.Deep.Slices
namespace Go.Proofs.YtfbfmhmpoaplaaaDoor
open Go.ChangeShapes Go.WideShapes Go.ChangeAt Go.RowKit Go.Deep
set_option maxRecDepth 20000
theorem cellsAtom : Tryd.prog.cellsOf 60 = 4 := by kernel_rfl
theorem cellsVal : Tryd.prog.cellsOf 24 = 1 := by kernel_rfl
theorem cellsSl : Tryd.prog.cellsOf 22 = 1 := by kernel_rfl
theorem cellsInt : Tryd.prog.cellsOf 3 = 1 := by kernel_rfl
theorem cellsInt64 : Tryd.prog.cellsOf 2 = 1 := by kernel_rfl
theorem cellsStr : Tryd.prog.cellsOf 9 = 1 := by kernel_rfl
theorem atom_open {H : Type} {enc : TypeId × Value → H} {W : World} {base : Nat} {spare : Nat → Bool} {held : Bool} {n : Nat} {cs : List Value} {z : DataW H × List MemPlace} (h : DataW.trod enc Tryd.prog W base spare held n 60 cs = some z) :
    ∃ x : At, cs = [.int .i64 x.kind, .int .i64 x.n, .string x.text, .int .i64 x.kids] ∧ x.text.size ≤ maxLen := by
  obtain ⟨xs, m, _, _, hl, hlen, hf⟩ := DataW.trod_struct Tryd.underlying60 h
  rw [cellsAtom] at hl
  match cs, hl with
  | [c0, c1, c2, c3], _ =>
    match xs, hlen with
    | [y0, y1, y2, y3], _ =>
      have f0 := hf 0 _ rfl
      have f1 := hf 1 _ rfl
      have f2 := hf 2 _ rfl
      have f3 := hf 3 _ rfl
      simp [cellsInt, cellsInt64, cellsStr] at f0 f1 f2 f3
      obtain ⟨k, e0, _, _⟩ := DataW.trod_int Tryd.underlying3 f0
      obtain ⟨nn, e2, _, _⟩ := DataW.trod_int Tryd.underlying2 f1
      obtain ⟨t, e3, _, ht⟩ := DataW.trod_string Tryd.underlying9 f2
      obtain ⟨kd, e4, _, _⟩ := DataW.trod_int Tryd.underlying3 f3
      cases e0; cases e2; cases e3; cases e4
      exact ⟨⟨k, nn, t, kd⟩, rfl, ht⟩
theorem value_open {H : Type} {enc : TypeId × Value → H} {W : World} {base : Nat} {v : Value} {d : DataW H} {ps : List MemPlace} (hv : Value.okWide Tryd.prog W .any base 24 v) (h : DataW.Trod enc Tryd.prog W 0 (fun _ => true) true 24 v d ps) :
    ∃ ad l N cap, v = .agg #[.slice ad N cap] ∧ l.length = N ∧ N ≤ maxLen ∧ AtomsA W ad l ∧ ∀ x ∈ l, x.text.size ≤ maxLen := by
  obtain ⟨cs, rfl, hsz⟩ := okWide_struct Tryd.underlying24 hv
  rw [cellsVal] at hsz
  obtain ⟨c0, rfl⟩ : ∃ c0, cs = #[c0] := ⟨cs[0], by apply Array.ext; simp [hsz]; intro i h1 h2; simp at h2; subst h2; rfl⟩
  obtain ⟨fuel, hf⟩ := h
  obtain ⟨y0, n, _, _, hy⟩ := trod_struct1 Tryd.underlying24 hf
  simp [cellsSl, Value.cells] at hy
  rcases open_slice Tryd.underlying22 hy with ⟨e, _⟩ | ⟨a, len, cap, m, n2, D, Pl, e, hb, hlc, hcm, hm, _, hel⟩
  · cases e
    exact ⟨none, [], 0, 0, rfl, rfl, Nat.zero_le _, .inl rfl, fun x h => by cases h⟩
  · cases e
    have hall : ∀ i, ∃ x : At, i < len → FourA W (a.add (i * 4)) x ∧ x.text.size ≤ maxLen ∧ a.block < W.heap.size := fun i => by
      by_cases hi : i < len
      · have hm2 : len ≤ m := by rw [hm]; simp; exact hlc
        obtain ⟨cs', hc, ht⟩ := hel i (by omega)
        rw [cellsAtom] at hc
        obtain ⟨x, rfl, hx⟩ := atom_open ht
        refine ⟨x, fun _ => ?_⟩
        have hbl := World.cells?_block hc (by omega)
        rw [add_block] at hbl
        obtain ⟨_, _, hg⟩ := World.cells?_some hc
        refine ⟨⟨?_, ?_, ?_, ?_⟩, hx, hbl⟩
        · have := hg 0 (by omega); simpa [Addr.add] using this
        · have := hg 1 (by omega); rw [add_one _ 1 (by decide)] at this; simpa using this
        · have := hg 2 (by omega); rw [add_one _ 2 (by decide)] at this; simpa using this
        · have := hg 3 (by omega); rw [add_one _ 3 (by decide)] at this; simpa using this
      · exact ⟨⟨0, 0, ⟨#[]⟩, 0⟩, fun h => absurd h hi⟩
    obtain ⟨nd, hnd⟩ := Classical.skolem.1 hall
    have hget : ∀ i x, ((List.range len).map nd)[i]? = some x → i < len ∧ x = nd i := fun i x hx => by
      rw [List.getElem?_map] at hx
      by_cases hi : i < len
      · rw [List.getElem?_range hi] at hx
        exact ⟨hi, by simpa using hx.symm⟩
      · rw [List.getElem?_eq_none (by simp; omega)] at hx; cases hx
    refine ⟨some a, (List.range len).map nd, len, cap, rfl, by simp, by omega, ?_, fun x hx => ?_⟩
    · by_cases h0 : len = 0
      · exact .inl (by simp [h0])
      · refine .inr ⟨a, rfl, (hnd 0 (by omega)).2.2, fun i x hx => ?_⟩
        obtain ⟨hi, rfl⟩ := hget i x hx
        exact (hnd i hi).1
    · obtain ⟨i, hi, rfl⟩ := List.getElem_of_mem hx
      obtain ⟨h1, h2⟩ := hget i _ (List.getElem?_eq_getElem hi)
      rw [h2]; exact (hnd i h1).2.1
end Go.Proofs.YtfbfmhmpoaplaaaDoor
