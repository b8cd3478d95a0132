import Derived.Test.YtjbhadpdbcelcaaDoorQLSz
import Derived.ProofKit
import Derived.Deep.Slices
namespace Go.Proofs.YtjbhadpdbcelcaaDoor.Q
open Go.ChangeShapes Go.WideShapes Go.ChangeAt Go.RowKit Go.Deep
set_option maxRecDepth 20000
theorem cellsNode : Tryd.prog.cellsOf 53 = 6 := by kernel_rfl
theorem cellsTree : Tryd.prog.cellsOf 24 = 1 := by kernel_rfl
theorem cellsSl : Tryd.prog.cellsOf 22 = 1 := by kernel_rfl
theorem cellsInt : Tryd.prog.cellsOf 3 = 1 := by kernel_rfl
theorem cellsInt64 : Tryd.prog.cellsOf 2 = 1 := by kernel_rfl
theorem cellsStr : Tryd.prog.cellsOf 9 = 1 := by kernel_rfl
theorem node_open {H : Type} {enc : TypeId × Value → H} {W : World} {base : Nat} {spare : Nat → Bool} {held : Bool} {n : Nat} {cs : List Value} {z : DataW H × List MemPlace} (h : DataW.trod enc Tryd.prog W base spare held n 53 cs = some z) :
    ∃ x : Nd, cs = [.int .i64 x.kind, .int .i64 x.op, .int .i64 x.ty, .int .i64 x.n, .string x.text, .int .i64 x.kids] ∧ x.text.size ≤ maxLen := by
  obtain ⟨xs, m, _, _, hl, hlen, hf⟩ := DataW.trod_struct Tryd.underlying53 h
  rw [cellsNode] at hl
  match cs, hl with
  | [c0, c1, c2, c3, c4, c5], _ =>
    match xs, hlen with
    | [y0, y1, y2, y3, y4, y5], _ =>
      have f0 := hf 0 _ rfl
      have f1 := hf 1 _ rfl
      have f2 := hf 2 _ rfl
      have f3 := hf 3 _ rfl
      have f4 := hf 4 _ rfl
      have f5 := hf 5 _ rfl
      simp [cellsInt, cellsInt64, cellsStr] at f0 f1 f2 f3 f4 f5
      obtain ⟨k, e0, _, _⟩ := DataW.trod_int Tryd.underlying3 f0
      obtain ⟨op, e1, _, _⟩ := DataW.trod_int Tryd.underlying3 f1
      obtain ⟨ty, e2, _, _⟩ := DataW.trod_int Tryd.underlying3 f2
      obtain ⟨nn, e3, _, _⟩ := DataW.trod_int Tryd.underlying2 f3
      obtain ⟨t, e4, _, ht⟩ := DataW.trod_string Tryd.underlying9 f4
      obtain ⟨kd, e5, _, _⟩ := DataW.trod_int Tryd.underlying3 f5
      cases e0; cases e1; cases e2; cases e3; cases e4; cases e5
      exact ⟨⟨k, op, ty, nn, t, kd⟩, rfl, ht⟩
theorem add_one (a : Addr) (n : Nat) (h : n ≠ 0) : a.add n = ⟨a.block, a.off + n, none⟩ := by unfold Addr.add; rw [if_neg h]
theorem tree_open {H : Type} {enc : TypeId × Value → H} {W : World} {base : Nat} {v : Value} {d : DataW H} {ps : List MemPlace} (hv : Value.okWide Tryd.prog W .any base 24 v) (h : DataW.Trod enc Tryd.prog W 0 (fun _ => true) true 24 v d ps) :
    ∃ ad N cap nd, v = .agg #[.slice ad N cap] ∧ N ≤ maxLen ∧ NodesA W ad N nd ∧ ∀ i, i < N → (nd i).text.size ≤ maxLen := by
  obtain ⟨cs, rfl, hsz⟩ := okWide_struct Tryd.underlying24 hv
  rw [cellsTree] at hsz
  obtain ⟨c0, rfl⟩ : ∃ c0, cs = #[c0] := ⟨cs[0], by apply Array.ext; simp [hsz]; intro i h1 h2; simp at h2; subst h2; rfl⟩
  obtain ⟨fuel, hf⟩ := h
  obtain ⟨y0, n, _, _, hy⟩ := trod_struct1 Tryd.underlying24 hf
  simp [cellsSl, Value.cells] at hy
  rcases open_slice Tryd.underlying22 hy with ⟨e, _⟩ | ⟨a, len, cap, m, n2, D, Pl, e, hb, hlc, hcm, hm, _, hel⟩
  · cases e
    exact ⟨none, 0, 0, fun _ => ⟨0, 0, 0, 0, ⟨#[]⟩, 0⟩, rfl, Nat.zero_le _, .inl rfl, fun i h => absurd h (Nat.not_lt_zero _)⟩
  · cases e
    have hall : ∀ i, ∃ x : Nd, i < len → NodeA W (a.add (i * 6)) x ∧ x.text.size ≤ maxLen ∧ a.block < W.heap.size := fun i => by
      by_cases hi : i < len
      · have hm2 : len ≤ m := by rw [hm]; simp; exact hlc
        obtain ⟨cs', hc, ht⟩ := hel i (by omega)
        rw [cellsNode] at hc
        obtain ⟨x, rfl, hx⟩ := node_open ht
        refine ⟨x, fun _ => ?_⟩
        have hbl := World.cells?_block hc (by omega)
        rw [add_block] at hbl
        obtain ⟨_, _, hg⟩ := World.cells?_some hc
        refine ⟨⟨?_, ?_, ?_, ?_, ?_, ?_⟩, hx, hbl⟩
        · have := hg 0 (by omega); simpa [Addr.add] using this
        · have := hg 1 (by omega); rw [add_one _ 1 (by decide)] at this; simpa using this
        · have := hg 2 (by omega); rw [add_one _ 2 (by decide)] at this; simpa using this
        · have := hg 3 (by omega); rw [add_one _ 3 (by decide)] at this; simpa using this
        · have := hg 4 (by omega); rw [add_one _ 4 (by decide)] at this; simpa using this
        · have := hg 5 (by omega); rw [add_one _ 5 (by decide)] at this; simpa using this
      · exact ⟨⟨0, 0, 0, 0, ⟨#[]⟩, 0⟩, fun h => absurd h hi⟩
    obtain ⟨nd, hnd⟩ := Classical.skolem.1 hall
    refine ⟨some a, len, cap, nd, rfl, by omega, ?_, fun i hi => (hnd i hi).2.1⟩
    by_cases h0 : len = 0
    · exact .inl h0
    · exact .inr ⟨a, rfl, (hnd 0 (by omega)).2.2, fun i hi => (hnd i hi).1⟩
end Go.Proofs.YtjbhadpdbcelcaaDoor.Q
