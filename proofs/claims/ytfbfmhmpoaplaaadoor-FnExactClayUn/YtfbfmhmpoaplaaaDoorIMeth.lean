import Derived.Test.YtfbfmhmpoaplaaaDoorIBase
namespace Go.Proofs.YtfbfmhmpoaplaaaDoor
open Go.RowKit
set_option maxRecDepth 20000
/-! The methods that calls through the interface come to. -/
theorem mSizeNone (w : World) : (method 252 95 (.agg #[]) "loop.example/kilnyard/impl.size").run Tryd.prog w = .ok (99, .agg #[]) w := by kernel_rfl
theorem mSizeBool (b : Bool) (w : World) : (method 252 89 (.bool b) "loop.example/kilnyard/impl.size").run Tryd.prog w = .ok (93, .bool b) w := by kernel_rfl
theorem mSizeInt (n : Int) (w : World) : (method 252 90 (.int .i64 n) "loop.example/kilnyard/impl.size").run Tryd.prog w = .ok (96, .int .i64 n) w := by kernel_rfl
theorem mSizeText (s : ByteArray) (w : World) : (method 252 72 (.string s) "loop.example/kilnyard/impl.size").run Tryd.prog w = .ok (85, .string s) w := by kernel_rfl
theorem mSizeList (a b : Int) (ad : Option Addr) (n c : Nat) (w : World) : (method 252 77 (.agg #[.int .i64 a, .int .i64 b, .slice ad n c]) "loop.example/kilnyard/impl.size").run Tryd.prog w = .ok (86, .agg #[.int .i64 a, .int .i64 b]) w := by kernel_rfl
theorem mSizeRec (a b : Int) (ad : Option Addr) (n c : Nat) (w : World) : (method 252 81 (.agg #[.int .i64 a, .int .i64 b, .slice ad n c]) "loop.example/kilnyard/impl.size").run Tryd.prog w = .ok (86, .agg #[.int .i64 a, .int .i64 b]) w := by kernel_rfl
theorem mAtomNone (w : World) : (method 252 95 (.agg #[]) "loop.example/kilnyard/impl.atom").run Tryd.prog w = .ok (97, .agg #[]) w := by kernel_rfl
theorem mAtomBool (b : Bool) (w : World) : (method 252 89 (.bool b) "loop.example/kilnyard/impl.atom").run Tryd.prog w = .ok (91, .bool b) w := by kernel_rfl
theorem mAtomInt (n : Int) (w : World) : (method 252 90 (.int .i64 n) "loop.example/kilnyard/impl.atom").run Tryd.prog w = .ok (94, .int .i64 n) w := by kernel_rfl
theorem mAtomText (s : ByteArray) (w : World) : (method 252 72 (.string s) "loop.example/kilnyard/impl.atom").run Tryd.prog w = .ok (83, .string s) w := by kernel_rfl
theorem mAtomList (a b : Int) (ad : Option Addr) (n c : Nat) (w : World) : (method 252 77 (.agg #[.int .i64 a, .int .i64 b, .slice ad n c]) "loop.example/kilnyard/impl.atom").run Tryd.prog w = .ok (87, .agg #[.int .i64 a, .int .i64 b, .slice ad n c]) w := by kernel_rfl
theorem mAtomRec (a b : Int) (ad : Option Addr) (n c : Nat) (w : World) : (method 252 81 (.agg #[.int .i64 a, .int .i64 b, .slice ad n c]) "loop.example/kilnyard/impl.atom").run Tryd.prog w = .ok (89, .agg #[.int .i64 a, .int .i64 b, .slice ad n c]) w := by kernel_rfl
theorem enterOf (f : Nat) (v : Value) (w : World) (hf : f = 99 ∨ f = 93 ∨ f = 96 ∨ f = 85 ∨ f = 86 ∨ f = 97 ∨ f = 91 ∨ f = 94 ∨ f = 83 ∨ f = 87 ∨ f = 89) : (callFunc f #[v]).run Tryd.prog w = .ok (.enter f #[v]) w := by
  rcases hf with rfl | rfl | rfl | rfl | rfl | rfl | rfl | rfl | rfl | rfl | rfl <;> kernel_rfl
/-- A call of 'size' through the interface. -/
def SizeM (t : Tr) (v : Value) : Prop := ∃ T x f rv, v = .iface T x ∧ (∀ w, (method 252 T x "loop.example/kilnyard/impl.size").run Tryd.prog w = .ok (f, rv) w) ∧ (∀ w, (callFunc f #[rv]).run Tryd.prog w = .ok (.enter f #[rv]) w) ∧ ∀ w, One w → Calls Tryd.prog f #[rv] w fun e w' => e = .returned (.agg #[.int .i64 (flat t).length, .int .i64 (high t)]) ∧ Below w.heap.size w w'
theorem size_any {S : Nat → Prop} {W : World} {t : Tr} {v : Value} (h : IsTh S W t v) (hg : OkT t) : SizeM t v := by
  obtain ⟨k, n, tx, ks⟩ := t
  simp only [OkT] at hg
  have hl := hg.1
  unfold LocOk at hl
  have leaf : ks = [] → (flat (.node k n tx ks)).length = 1 ∧ high (.node k n tx ks) = 0 := fun h => by subst h; simp [flat, flats, high, highs]
  have e1 : (flat (.node k n tx ks)).length = (flats ks).length + 1 := by simp [flat]
  have e2 : high (.node k n tx ks) = highs ks := by simp [high]
  simp only [IsTh] at h
  rcases h with ⟨rfl, rfl⟩ | ⟨rfl, rfl⟩ | ⟨rfl, rfl⟩ | ⟨rfl, rfl⟩ | ⟨rfl, ad, cap, xs, rfl, _⟩ | ⟨rfl, ad, m, cap, xs, rfl, _⟩
  · obtain ⟨l1, l2⟩ := leaf (by grind)
    refine ⟨_, _, _, _, rfl, mSizeNone, fun w => enterOf _ _ w (by simp), fun w hw => ?_⟩
    rw [l1, l2]; exact noneSize_any w hw
  · obtain ⟨l1, l2⟩ := leaf (by grind)
    refine ⟨_, _, _, _, rfl, mSizeBool _, fun w => enterOf _ _ w (by simp), fun w hw => ?_⟩
    rw [l1, l2]; exact boolSize_any _ w hw
  · obtain ⟨l1, l2⟩ := leaf (by grind)
    refine ⟨_, _, _, _, rfl, mSizeInt _, fun w => enterOf _ _ w (by simp), fun w hw => ?_⟩
    rw [l1, l2]; exact intSize_any _ w hw
  · obtain ⟨l1, l2⟩ := leaf (by grind)
    refine ⟨_, _, _, _, rfl, mSizeText _, fun w => enterOf _ _ w (by simp), fun w hw => ?_⟩
    rw [l1, l2]; exact textSize_any _ w hw
  · refine ⟨_, _, _, _, rfl, mSizeList _ _ _ _ _, fun w => enterOf _ _ w (by simp), fun w hw => ?_⟩
    rw [e1, e2]; exact sizeSize_any _ _ w
  · refine ⟨_, _, _, _, rfl, mSizeRec _ _ _ _ _, fun w => enterOf _ _ w (by simp), fun w hw => ?_⟩
    rw [e1, e2]; exact sizeSize_any _ _ w
end Go.Proofs.YtfbfmhmpoaplaaaDoor
