import Derived.Test.YtpcfhbbialgcfaaRkP
import Derived.ProofKit
import Derived.Deep.Slices
/-! What came in. -/
namespace Go.Proofs.Ytpcfhbbialgcfaa.R
open Go.RowKit
set_option maxRecDepth 20000
open Go.ChangeShapes Go.WideShapes Go.ChangeAt Go.Deep
theorem bounds {x : Int} (h : (Lit.int .i64 x).wf = true) : -9223372036854775808 ≤ x ∧ x ≤ 9223372036854775807 := by
  simpa [Lit.wf, IntKind.min, IntKind.max, IntKind.signed, IntKind.bits] using h
theorem cellsString : Try.prog.cellsOf 9 = 1 := by kernel_rfl
theorem cellsstring : Try.prog.cellsOf 9 = 1 := by kernel_rfl
theorem cellsint : Try.prog.cellsOf 3 = 1 := by kernel_rfl
theorem cellsInt : Try.prog.cellsOf 3 = 1 := by kernel_rfl
theorem cellsStr : Try.prog.cellsOf 9 = 1 := by kernel_rfl
theorem cellsFl : Try.prog.cellsOf 63 = 2 := by kernel_rfl
theorem Fl_open {H : Type} {enc : TypeId × Value → H} {W : World} {base : Nat} {spare : Nat → Bool} {held : Bool} {n : Nat} {cs : List Value} {z : DataW H × List MemPlace} (h : DataW.trod enc Try.prog W base spare held n 63 cs = some z) :
    ∃ (x : Fl), cs = [.string x.name, .string x.text] ∧ OkFl x := by
  obtain ⟨xs, m, _, _, hl, hlen, hf⟩ := DataW.trod_struct Try.underlying63 h
  rw [cellsFl] at hl
  match cs, hl with
  | [c0, c1], _ =>
    match xs, hlen with
    | [y0, y1], _ =>
      have f0 := hf 0 _ rfl
      simp [cellsStr] at f0
      obtain ⟨x0, e0, _, h0⟩ := DataW.trod_string Try.underlying9 f0
      cases e0
      have f1 := hf 1 _ rfl
      simp [cellsStr] at f1
      obtain ⟨x1, e1, _, h1⟩ := DataW.trod_string Try.underlying9 f1
      cases e1
      exact ⟨⟨x0, x1⟩, rfl, ⟨h0, h1⟩⟩
theorem cellsSFl : Try.prog.cellsOf 22 = 1 := by kernel_rfl
theorem SFl_open {H : Type} {enc : TypeId × Value → H} {W : World} {base : Nat} {spare : Nat → Bool} {held : Bool} {n : Nat} {v : Value} {z : DataW H × List MemPlace} (f0 : DataW.trod enc Try.prog W base spare held n 22 [v] = some z) :
    ∃ l : List Fl, SFlA W v l ∧ OkFlS l := by
  rcases open_slice Try.underlying22 f0 with ⟨e, _⟩ | ⟨a, len, cap, m, n2, D, Pl, e, hb, hlc, hcm, hm, _, hel⟩
  · exact ⟨[], ⟨none, 0, by simpa using e, .inl rfl⟩, ⟨Nat.zero_le _, fun i h => absurd h (Nat.not_lt_zero _)⟩⟩
  · have hall : ∀ i, ∃ x : Fl, i < len → (FlA W (a.add (i * 2)) x) ∧ OkFl x ∧ a.block < W.heap.size := fun i => by
      by_cases hi : i < len
      · have hm2 : len ≤ m := by rw [hm]; split <;> omega
        obtain ⟨cs', hc, ht⟩ := hel i (by omega)
        rw [cellsFl] at hc
        obtain ⟨x, rfl, hx⟩ := Fl_open ht
        refine ⟨x, fun _ => ?_⟩
        have hbl := World.cells?_block hc (by omega)
        rw [add_block] at hbl
        obtain ⟨_, _, hg⟩ := World.cells?_some hc
        exact ⟨⟨(by have := hg 0 (by omega); simpa [Addr.add] using this), (by have := hg 1 (by omega); rw [add_one _ 1 (by decide)] at this; simpa using this)⟩, hx, hbl⟩
      · exact ⟨fl0, fun h => absurd h hi⟩
    obtain ⟨f, hnd⟩ := Classical.skolem.1 hall
    have hget : ∀ i, i < len → ((List.range len).map f).getD i fl0 = f i := fun i hi => by simp [List.getD_eq_getElem?_getD, hi]
    have hlen : ((List.range len).map f).length = len := by simp
    refine ⟨(List.range len).map f, ⟨some a, cap, by rw [hlen]; simpa using e, ?_⟩, ?_⟩
    · by_cases h0 : len = 0
      · subst h0; exact .inl rfl
      · refine .inr ⟨a, rfl, (hnd 0 (by omega)).2.2, fun i hi => ?_⟩
        rw [hlen] at hi
        rw [hget i hi]
        exact (hnd i hi).1
    · refine ⟨by rw [hlen]; omega, fun i hi => ?_⟩
      rw [hlen] at hi
      rw [hget i hi]
      exact (hnd i hi).2.1
theorem cellsPl : Try.prog.cellsOf 24 = 1 := by kernel_rfl
theorem Pl_open {H : Type} {enc : TypeId × Value → H} {W : World} {base : Nat} {spare : Nat → Bool} {held : Bool} {n : Nat} {cs : List Value} {z : DataW H × List MemPlace} (h : DataW.trod enc Try.prog W base spare held n 24 cs = some z) :
    ∃ (x : Pl) (v0 : Value), cs = [v0] ∧ SFlA W v0 x.files ∧ OkPl x := by
  obtain ⟨xs, m, _, _, hl, hlen, hf⟩ := DataW.trod_struct Try.underlying24 h
  rw [cellsPl] at hl
  match cs, hl with
  | [c0], _ =>
    match xs, hlen with
    | [y0], _ =>
      have f0 := hf 0 _ rfl
      simp [cellsSFl] at f0
      obtain ⟨x0, r0, h0⟩ := SFl_open f0
      exact ⟨⟨x0⟩, c0, rfl, r0, h0⟩
end Go.Proofs.Ytpcfhbbialgcfaa.R
