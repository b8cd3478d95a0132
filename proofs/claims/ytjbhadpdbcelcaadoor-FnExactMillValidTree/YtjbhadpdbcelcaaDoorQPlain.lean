import Derived.Test.YtjbhadpdbcelcaaDoorChecked
import Derived.Test.YtjbhadpdbcelcaaDoorMPlain
/-! Plain mathematics of Mill's trees: nothing of the program's functions stands here. -/
namespace Go.Proofs.YtjbhadpdbcelcaaDoor.Q
/-- A node. -/
structure Nd where
  kind : Int
  op : Int
  ty : Int
  n : Int
  text : ByteArray
  kids : Int
def mE (k : Int) : Prop := 1 ≤ k ∧ k ≤ 9
def mS (k : Int) : Prop := 10 ≤ k ∧ k ≤ 20
def NameOk (s : ByteArray) : Prop := ∃ (h1 : 0 < s.size), s.size ≤ 30 ∧ mltB s[0] = true ∧ ¬ s.data.toList ∈ mws ∧ ∀ i (h : i < s.size), letB s[i] = true
/-- Which fields a kind uses. -/
def useOp (k : Int) : Prop := k = 5 ∨ k = 6 ∨ k = 8
def useTy (k : Int) : Prop := k = 1 ∨ k = 9 ∨ k = 22 ∨ k = 23
def useN (k : Int) : Prop := k = 1 ∨ k = 3
def useName (k : Int) : Prop := k = 4 ∨ k = 7 ∨ k = 10 ∨ k = 11 ∨ k = 22 ∨ k = 23
def useText (k : Int) : Prop := k = 2 ∨ useName k
/-- A number fits to its type, as a number without sign. -/
def NumOk (t n : Int) : Prop := ∃ T : Nat, t = T ∧ 3 ≤ T ∧ T ≤ 10 ∧ IntKind.u64.wrap n ≤ (mmax T : Int)
/-- A node uses only what its kind may, and that rightly. -/
def PlainNd (x : Nd) : Prop :=
  (useOp x.kind ∨ x.op = 0) ∧ (useTy x.kind ∨ x.ty = 0) ∧ (useN x.kind ∨ x.n = 0) ∧ (useText x.kind ∨ x.text.toList.isEmpty = true) ∧ (useName x.kind → NameOk x.text) ∧
  (x.kind = 1 → NumOk x.ty x.n) ∧ (x.kind = 2 → x.text.size ≤ 3000) ∧ (x.kind = 3 → x.n = 0 ∨ x.n = 1) ∧ (x.kind = 5 → 1 ≤ x.op ∧ x.op ≤ 3) ∧ (x.kind = 6 → 1 ≤ x.op ∧ x.op ≤ 18) ∧
  (x.kind = 8 → 1 ≤ x.op ∧ x.op ≤ 12) ∧ (x.kind = 9 → 3 ≤ x.ty ∧ x.ty ≤ 10) ∧ (x.kind = 22 → 1 ≤ x.ty ∧ x.ty ≤ 10) ∧ (x.kind = 23 → 0 ≤ x.ty ∧ x.ty ≤ 10)
/-- How many kids a built word has. -/
def builtKids (op : Int) : Nat := if op = 4 ∨ op = 7 ∨ op = 9 then 2 else if op = 8 then 3 else if op = 5 then 0 else 1
def AllE (m : Nat) (kd : Nat → Int) : Prop := ∀ i, i < m → mE (kd i)
/-- The kinds of a node's m kids are right. -/
def KidsOk (x : Nd) (m : Nat) (kd : Nat → Int) : Prop :=
  ((x.kind = 1 ∨ x.kind = 2 ∨ x.kind = 3 ∨ x.kind = 4 ∨ x.kind = 14 ∨ x.kind = 15 ∨ x.kind = 22) ∧ m = 0) ∨
  ((x.kind = 5 ∨ x.kind = 9 ∨ x.kind = 10 ∨ x.kind = 11 ∨ x.kind = 17 ∨ x.kind = 19) ∧ m = 1 ∧ AllE m kd) ∨
  ((x.kind = 6 ∨ x.kind = 18) ∧ m = 2 ∧ AllE m kd) ∨
  (x.kind = 7 ∧ m ≤ 8 ∧ AllE m kd) ∨
  (x.kind = 8 ∧ m = builtKids x.op ∧ AllE m kd) ∨
  (x.kind = 12 ∧ (m = 2 ∨ m = 3) ∧ mE (kd 0) ∧ kd 1 = 21 ∧ (m = 3 → kd 2 = 21 ∨ kd 2 = 12)) ∨
  (x.kind = 13 ∧ m = 2 ∧ mE (kd 0) ∧ kd 1 = 21) ∨
  (x.kind = 16 ∧ m ≤ 1 ∧ AllE m kd) ∨
  (x.kind = 20 ∧ m = 1 ∧ kd 0 = 7) ∨
  (x.kind = 21 ∧ ∀ i, i < m → mS (kd i)) ∨
  (x.kind = 23 ∧ 1 ≤ m ∧ m ≤ 9 ∧ (∀ i, i + 1 < m → kd i = 22) ∧ kd (m - 1) = 21) ∨
  (x.kind = 24 ∧ 1 ≤ m ∧ m ≤ 60 ∧ ∀ i, i < m → kd i = 23)
end Go.Proofs.YtjbhadpdbcelcaaDoor.Q
