import Derived.Test.YtfbfmhmpoaplaaaDoorIMeth
namespace Go.Proofs.YtfbfmhmpoaplaaaDoor
open Go.RowKit
set_option maxRecDepth 20000
set_option maxHeartbeats 400000 in
theorem noneAtom_any (w : World) :
    Calls Tryd.prog 97 #[.agg #[]] w fun e w' => e = .returned (.agg #[.int .i64 1, .int .i64 0, .string ⟨#[]⟩, .int .i64 0]) ∧ Below w.heap.size w w' := by
  go_enter Tryd.func97, Tryd.ntmps97
  go_wp2
  refine bodyPost_ret (v := .agg #[.int .i64 1, .int .i64 0, .string ⟨#[]⟩, .int .i64 0]) ?_ rfl ⟨rfl, below_two' _ _ _⟩
  simp [results, Tryd.results97, go_sem]
set_option maxHeartbeats 400000 in
theorem boolAtom_any (b : Bool) (w : World) :
    Calls Tryd.prog 91 #[.bool b] w fun e w' => e = .returned (.agg #[.int .i64 2, .int .i64 (if b = true then 1 else 0), .string ⟨#[]⟩, .int .i64 0]) ∧ Below w.heap.size w w' := by
  cases b
  · go_enter Tryd.func91, Tryd.ntmps91
    go_wp2
    refine bodyPost_ret (v := .agg #[.int .i64 2, .int .i64 0, .string ⟨#[]⟩, .int .i64 0]) ?_ rfl ⟨rfl, (Below.refl _ _).alloc (Nat.le_refl _) _⟩
    simp [results, Tryd.results91, go_sem]
  · go_enter Tryd.func91, Tryd.ntmps91
    go_wp2
    refine bodyPost_ret (v := .agg #[.int .i64 2, .int .i64 1, .string ⟨#[]⟩, .int .i64 0]) ?_ rfl ⟨rfl, (Below.refl _ _).alloc (Nat.le_refl _) _⟩
    simp [results, Tryd.results91, go_sem]
set_option maxHeartbeats 400000 in
theorem intAtom_any (n : Int) (w : World) :
    Calls Tryd.prog 94 #[.int .i64 n] w fun e w' => e = .returned (.agg #[.int .i64 3, .int .i64 n, .string ⟨#[]⟩, .int .i64 0]) ∧ Below w.heap.size w w' := by
  go_enter Tryd.func94, Tryd.ntmps94
  go_wp2
  refine bodyPost_ret (v := .agg #[.int .i64 3, .int .i64 n, .string ⟨#[]⟩, .int .i64 0]) ?_ rfl ⟨rfl, (Below.refl _ _).alloc (Nat.le_refl _) _⟩
  simp [results, Tryd.results94, go_sem]
set_option maxHeartbeats 400000 in
theorem textAtom_any (s : ByteArray) (w : World) :
    Calls Tryd.prog 83 #[.string s] w fun e w' => e = .returned (.agg #[.int .i64 4, .int .i64 0, .string s, .int .i64 0]) ∧ Below w.heap.size w w' := by
  go_enter Tryd.func83, Tryd.ntmps83
  go_wp2
  refine bodyPost_ret (v := .agg #[.int .i64 4, .int .i64 0, .string s, .int .i64 0]) ?_ rfl ⟨rfl, (Below.refl _ _).alloc (Nat.le_refl _) _⟩
  simp [results, Tryd.results83, go_sem]
set_option maxHeartbeats 400000 in
theorem listAtom_any (a b : Int) (ad : Option Addr) (n c : Nat) (w : World) :
    Calls Tryd.prog 87 #[.agg #[.int .i64 a, .int .i64 b, .slice ad n c]] w fun e w' => e = .returned (.agg #[.int .i64 5, .int .i64 0, .string ⟨#[]⟩, .int .i64 n]) ∧ Below w.heap.size w w' := by
  go_enter Tryd.func87, Tryd.ntmps87
  go_wp2
  refine bodyPost_ret (v := .agg #[.int .i64 5, .int .i64 0, .string ⟨#[]⟩, .int .i64 n]) ?_ rfl ⟨rfl, below_two' _ _ _⟩
  simp [results, Tryd.results87, go_sem]
set_option maxHeartbeats 400000 in
theorem recAtom_any (a b : Int) (ad : Option Addr) (n c : Nat) (w : World) (hn : n ≤ 1000000) :
    Calls Tryd.prog 89 #[.agg #[.int .i64 a, .int .i64 b, .slice ad n c]] w fun e w' => e = .returned (.agg #[.int .i64 6, .int .i64 0, .string ⟨#[]⟩, .int .i64 (2 * n)]) ∧ Below w.heap.size w w' := by
  go_enter Tryd.func89, Tryd.ntmps89
  go_wp2
  refine bodyPost_ret (v := .agg #[.int .i64 6, .int .i64 0, .string ⟨#[]⟩, .int .i64 (2 * n)]) ?_ rfl ⟨rfl, below_two' _ _ _⟩
  simp [results, Tryd.results89, go_sem]
/-- A call of 'atom' through the interface. -/
def AtomM (a : At) (v : Value) : Prop := ∃ T x f rv, v = .iface T x ∧ (∀ w, (method 252 T x "loop.example/kilnyard/impl.atom").run Tryd.prog w = .ok (f, rv) w) ∧ (∀ w, (callFunc f #[rv]).run Tryd.prog w = .ok (.enter f #[rv]) w) ∧ ∀ w, Calls Tryd.prog f #[rv] w fun e w' => e = .returned (.agg #[.int .i64 a.kind, .int .i64 a.n, .string a.text, .int .i64 a.kids]) ∧ Below w.heap.size w w'
theorem aNone : AtomM ⟨1, 0, ⟨#[]⟩, 0⟩ (.iface 95 (.agg #[])) := ⟨_, _, _, _, rfl, mAtomNone, fun w => enterOf _ _ w (by simp), noneAtom_any⟩
theorem aBool (b : Bool) : AtomM ⟨2, if b = true then 1 else 0, ⟨#[]⟩, 0⟩ (.iface 89 (.bool b)) := ⟨_, _, _, _, rfl, mAtomBool _, fun w => enterOf _ _ w (by simp), boolAtom_any b⟩
theorem aInt (n : Int) : AtomM ⟨3, n, ⟨#[]⟩, 0⟩ (.iface 90 (.int .i64 n)) := ⟨_, _, _, _, rfl, mAtomInt _, fun w => enterOf _ _ w (by simp), intAtom_any n⟩
theorem aText (s : ByteArray) : AtomM ⟨4, 0, s, 0⟩ (.iface 72 (.string s)) := ⟨_, _, _, _, rfl, mAtomText _, fun w => enterOf _ _ w (by simp), textAtom_any s⟩
theorem aList (a b : Int) (ad : Option Addr) (n c : Nat) : AtomM ⟨5, 0, ⟨#[]⟩, n⟩ (.iface 77 (.agg #[.int .i64 a, .int .i64 b, .slice ad n c])) := ⟨_, _, _, _, rfl, mAtomList _ _ _ _ _, fun w => enterOf _ _ w (by simp), listAtom_any a b ad n c⟩
theorem aRec (a b : Int) (ad : Option Addr) (n c : Nat) (hn : n ≤ 1000000) : AtomM ⟨6, 0, ⟨#[]⟩, 2 * n⟩ (.iface 81 (.agg #[.int .i64 a, .int .i64 b, .slice ad n c])) := ⟨_, _, _, _, rfl, mAtomRec _ _ _ _ _, fun w => enterOf _ _ w (by simp), fun w => recAtom_any a b ad n c w hn⟩
set_option maxHeartbeats 400000 in
theorem textOf_any (s : ByteArray) (w : World) (hs : s.size ≤ maxLen) :
    Calls Tryd.prog 50 #[.string s] w fun e w' => w' = w ∧ (s.size ≤ 1000 ∧ e = .returned (.tuple #[.iface 72 (.string s), .string ⟨#[]⟩]) ∨ ¬ s.size ≤ 1000 ∧ e = .returned (.tuple #[.nilIface, .string ⟨#[108, 97, 114, 103, 101]⟩])) := by
  unfold maxLen at hs
  by_cases h : s.size ≤ 1000
  · have h2 : (s.size : Int) ≤ 1000 := by omega
    go_enter Tryd.func50, Tryd.ntmps50
    go_wp2
    exact bodyPost_ret (v := .tuple #[.iface 72 (.string s), .string ⟨#[]⟩]) (by simp [results, Tryd.results50, go_sem]) rfl ⟨rfl, .inl ⟨h, rfl⟩⟩
  · have h2 : (1000 : Int) < s.size := by omega
    go_enter Tryd.func50, Tryd.ntmps50
    go_wp2
    exact bodyPost_ret (v := .tuple #[.nilIface, .string ⟨#[108, 97, 114, 103, 101]⟩]) (by simp [results, Tryd.results50, go_sem]) rfl ⟨rfl, .inr ⟨h, rfl⟩⟩
end Go.Proofs.YtfbfmhmpoaplaaaDoor
