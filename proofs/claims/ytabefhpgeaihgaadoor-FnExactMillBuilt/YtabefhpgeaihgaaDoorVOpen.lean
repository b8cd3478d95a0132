import Derived.Test.YtabefhpgeaihgaaDoorVValid
import Derived.OpenShut
import Derived.ProofKit
/-! A value that came in. -/
namespace Go.Proofs.YtabefhpgeaihgaaDoor.V
open Go.ChangeShapes Go.WideShapes Go.ChangeAt Go.RowKit
set_option maxRecDepth 20000
theorem cellsVal : Tryd.prog.cellsOf 34 = 3 := by kernel_rfl
theorem cellsStr : Tryd.prog.cellsOf 9 = 1 := by kernel_rfl
theorem cellsInt : Tryd.prog.cellsOf 3 = 1 := by kernel_rfl
theorem cellsI64 : Tryd.prog.cellsOf 2 = 1 := by kernel_rfl
theorem value_open {H : Type} {enc : TypeId × Value → H} {W : World} {base : Nat} {spare : Nat → Bool} {held : Bool} {n : Nat} {cs : List Value} {z : DataW H × List MemPlace} (h : DataW.trod enc Tryd.prog W base spare held n 34 cs = some z) :
    ∃ (t n : Int) (s : ByteArray), cs = [.int .i64 t, .int .i64 n, .string s] ∧ s.size ≤ maxLen ∧ (-9223372036854775808 ≤ t ∧ t ≤ 9223372036854775807) ∧ -9223372036854775808 ≤ n ∧ n ≤ 9223372036854775807 := by
  obtain ⟨xs, m, _, _, hl, hlen, hf⟩ := DataW.trod_struct Tryd.underlying34 h
  rw [cellsVal] at hl
  match cs, hl with
  | [c0, c1, c2], _ =>
    match xs, hlen with
    | [y0, y1, y2], _ =>
      have f0 := hf 0 _ rfl
      have f1 := hf 1 _ rfl
      have f2 := hf 2 _ rfl
      simp [cellsStr, cellsInt, cellsI64] at f0 f1 f2
      obtain ⟨a, e0, _, h0⟩ := DataW.trod_int Tryd.underlying3 f0
      obtain ⟨b, e1, _, h1⟩ := DataW.trod_int Tryd.underlying2 f1
      obtain ⟨c, e2, _, h2⟩ := DataW.trod_string Tryd.underlying9 f2
      cases e0; cases e1; cases e2
      exact ⟨a, b, c, rfl, h2, bounds_i64 h0, bounds_i64 h1⟩
theorem val_open {H : Type} {enc : TypeId × Value → H} {W : World} {base : Nat} {v : Value} {d : DataW H} {ps : List MemPlace} (hv : Value.okWide Tryd.prog W .any base 34 v) (h : DataW.Trod enc Tryd.prog W 0 (fun _ => true) true 34 v d ps) :
    ∃ (t n : Int) (s : ByteArray), v = val t n s ∧ s.size ≤ maxLen ∧ (-9223372036854775808 ≤ t ∧ t ≤ 9223372036854775807) ∧ -9223372036854775808 ≤ n ∧ n ≤ 9223372036854775807 := by
  obtain ⟨cs, rfl, hsz⟩ := okWide_struct Tryd.underlying34 hv
  obtain ⟨fuel, hf⟩ := h
  obtain ⟨t, n, s, e, hs, ht, hn⟩ := value_open hf
  refine ⟨t, n, s, ?_, hs, ht, hn⟩
  have : cs.toList = [.int .i64 t, .int .i64 n, .string s] := by simpa [Value.cells] using e
  rw [← Array.toArray_toList (xs := cs), this]
end Go.Proofs.YtabefhpgeaihgaaDoor.V
