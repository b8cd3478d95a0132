import Derived.Test.YtkfkolefbficgaaPlain
/-! Plain mathematics of trees: nothing of the program stands here. -/
namespace Go.Proofs.Ytkfkolefbficgaa
/-- A node. -/
structure Nd where
  kind : Int
  op : Int
  n : Int
  text : ByteArray
  kids : Int
def inR (x lo hi : Int) : Bool := decide (lo ≤ x) && decide (x ≤ hi)
def isE (k : Int) : Bool := inR k 1 16
def pkg_ (c : Int) : Bool := (decide (97 ≤ c) && decide (c ≤ 122)) || dig c || c == 95 || c == 45 || c == 46 || c == 47
def pkgB (c : UInt8) : Bool := pkg_ c.toNat
def PkgOk (s : ByteArray) : Prop := 1 ≤ s.size ∧ s.size ≤ 30 ∧ ∀ i (h : i < s.size), pkgB s[i] = true
def NameOk (s : ByteArray) : Prop := ∃ (h1 : 0 < s.size), s.size ≤ 30 ∧ begB s[0] = true ∧ ¬ s.data.toList ∈ words ∧ ∀ i (h : i < s.size), letB s[i] = true
/-- The kinds that use Text. -/
def hasText (k : Int) : Bool := k == 4 || k == 5 || k == 11 || k == 14 || inR k 16 21 || k == 23
/-- A node uses only what its kind may. -/
def PlainNd (x : Nd) : Prop :=
  (hasText x.kind = true ∨ x.text.toList = []) ∧ (x.kind = 2 ∨ x.kind = 3 ∨ x.n = 0) ∧ (x.kind = 6 ∨ x.kind = 7 ∨ x.op = 0) ∧
  (x.kind = 2 → x.n = 0 ∨ x.n = 1) ∧ (x.kind = 3 → 0 ≤ x.n) ∧ (x.kind = 4 ∨ x.kind = 17 → x.text.size ≤ 1000) ∧ (x.kind = 6 → 1 ≤ x.op ∧ x.op ≤ 2) ∧ (x.kind = 7 → 1 ≤ x.op ∧ x.op ≤ 14) ∧
  (x.kind = 23 → PkgOk x.text) ∧ (hasText x.kind = true → ¬ x.kind = 4 → ¬ x.kind = 17 → ¬ x.kind = 23 → NameOk x.text)
/-- No two of m nodes have one Text. -/
def Apart (m : Nat) (nd : Nat → Nd) : Prop := ∀ i, i < m → ∀ k, k < i → ¬ (nd k).text = (nd i).text
def AllE (m : Nat) (nd : Nat → Nd) : Prop := ∀ i, i < m → isE (nd i).kind = true
/-- The kinds of a node's m kids are right. -/
def KidsOk (kind : Int) (m : Nat) (nd : Nat → Nd) : Prop :=
  ((kind = 1 ∨ kind = 2 ∨ kind = 3 ∨ kind = 4 ∨ kind = 5) ∧ m = 0) ∨
  ((kind = 6 ∨ kind = 11 ∨ kind = 17 ∨ kind = 18 ∨ kind = 21 ∨ kind = 22) ∧ m = 1 ∧ AllE m nd) ∨
  ((kind = 7 ∨ kind = 10 ∨ kind = 14) ∧ m = 2 ∧ AllE m nd) ∨
  (kind = 13 ∧ m = 3 ∧ AllE m nd) ∨
  (kind = 16 ∧ 2 ≤ m ∧ m ≤ 3 ∧ AllE m nd) ∨
  (kind = 19 ∧ m ≤ 1 ∧ AllE m nd) ∨
  (kind = 8 ∧ m ≤ 200 ∧ AllE m nd) ∨
  (kind = 9 ∧ m ≤ 200 ∧ (∀ i, i < m → (nd i).kind = 17) ∧ Apart m nd) ∨
  (kind = 12 ∧ ∃ f, 1 ≤ f ∧ f ≤ m ∧ m ≤ 9 ∧ AllE f nd ∧ (∀ i, f ≤ i → i < m → (nd i).kind = 18) ∧ Apart (m - f) (fun i => nd (f + i))) ∨
  ((kind = 15 ∨ kind = 20) ∧ 1 ≤ m ∧ m ≤ 9 ∧ (∀ i, i + 1 < m → (nd i).kind = 19) ∧ isE (nd (m - 1)).kind = true) ∨
  (kind = 23 ∧ 1 ≤ m ∧ m ≤ 200 ∧ ∀ i, i < m → (nd i).kind = 5) ∨
  (kind = 24 ∧ m ≤ 200 ∧ ∀ i, i < m → 20 ≤ (nd i).kind ∧ (nd i).kind ≤ 23)
theorem kind_cases (k : Int) : k = 1 ∨ k = 2 ∨ k = 3 ∨ k = 4 ∨ k = 5 ∨ k = 6 ∨ k = 7 ∨ k = 8 ∨ k = 9 ∨ k = 10 ∨ k = 11 ∨ k = 12 ∨ k = 13 ∨ k = 14 ∨ k = 15 ∨ k = 16 ∨ k = 17 ∨ k = 18 ∨ k = 19 ∨ k = 20 ∨ k = 21 ∨ k = 22 ∨ k = 23 ∨ k = 24 ∨ k < 1 ∨ 24 < k := by omega
end Go.Proofs.Ytkfkolefbficgaa
