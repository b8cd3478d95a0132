import Derived.Test.YtkfkolefbficgaaVLeaf
namespace Go.Proofs.Ytkfkolefbficgaa
open Go.RowKit
set_option maxRecDepth 20000
def ndV (x : Nd) : Value := .agg #[.int .i64 x.kind, .int .i64 x.op, .int .i64 x.n, .string x.text, .int .i64 x.kids]
theorem empty_eq (t : ByteArray) : (t.toList == (⟨#[]⟩ : ByteArray).toList) = true ↔ t = ⟨#[]⟩ := by
  constructor
  · exact bytes_eq
  · rintro rfl; simp
theorem l1In_dec (x lo hi : Int) (w : World) :
    Calls Try.prog 10 #[.int .i64 x, .int .i64 lo, .int .i64 hi] w fun e w' => e = .returned (.bool (decide (lo ≤ x) && decide (x ≤ hi))) ∧ w' = w := l1In_any x lo hi w
def Pl1 (k : Int) : Prop := ∀ (op n kids : Int) (t : ByteArray) (w : World), t.size ≤ maxLen → Calls Try.prog 12 #[ndV ⟨k, op, n, t, kids⟩] w fun e w' => Says e (PlainNd ⟨k, op, n, t, kids⟩) ∧ Below w.heap.size w w'
end Go.Proofs.Ytkfkolefbficgaa
