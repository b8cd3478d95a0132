import Derived.Test.YtfbfmhmpoaplaaaDoorNVal
import Derived.Test.YtfbfmhmpoaplaaaDoorNImp
import Derived.Test.YtfbfmhmpoaplaaaDoorLVal
import Derived.Test.YtfbfmhmpoaplaaaDoorNUn2
namespace Go.Proofs.YtfbfmhmpoaplaaaDoor
open Go.RowKit
set_option maxRecDepth 20000
/-- A value was made: its atoms are l, in a row of its own. -/
def ValMade (l : List At) (w w' : World) (e : Ending) : Prop := ∃ ad c, e = .returned (.agg #[.slice ad l.length c]) ∧ OwnV w' ad l ∧ (l ≠ [] → ∀ g, ad = some ⟨g, 0, none⟩ → w.heap.size ≤ g) ∧ Below w.heap.size w w'
/-- A value and a word were answered. -/
def AnsMade (l : List At) (s : ByteArray) (w w' : World) (e : Ending) : Prop := ∃ ad c, e = .returned (.tuple #[.agg #[.slice ad l.length c], .string s]) ∧ OwnV w' ad l ∧ (l ≠ [] → ∀ g, ad = some ⟨g, 0, none⟩ → w.heap.size ≤ g) ∧ Below w.heap.size w w'
set_option maxHeartbeats 2000000 in
theorem answer_word (v : Value) (s : ByteArray) (w : World) (hs : s.toList.isEmpty = false) :
    Calls Tryd.prog 29 #[v, .string s] w fun e w' => AnsMade [] s w w' e := by
  have HB0 := hid ((Below.refl w.heap.size w).alloc (Nat.le_refl _) (.cells #[.slice none 0 0] 29))
  go_enter Tryd.func29, Tryd.ntmps29
  go_wp2
  refine bodyPost_ret (v := .tuple #[.agg #[.slice none 0 0], .string s]) (by simp [results, Tryd.results29, go_sem]) rfl ⟨none, 0, rfl, .inl rfl, fun h => absurd rfl h, ?_⟩
  exact HB0.out
set_option maxHeartbeats 2000000 in
theorem answer_thing (v : Value) (l : List At) (w : World) (hc : ∀ W, Below w.heap.size w W → Calls Tryd.prog 47 #[v] W fun e w' => ValMade l W w' e) :
    Calls Tryd.prog 29 #[v, .string ⟨#[]⟩] w fun e w' => AnsMade l ⟨#[]⟩ w w' e := by
  have HB0 := hid ((Below.refl w.heap.size w).alloc (Nat.le_refl _) (.cells #[.slice none 0 0] 29))
  have HC := hid (hc _ HB0.out)
  clear hc
  go_enter Tryd.func29, Tryd.ntmps29
  go_wp2_with fail
  refine HC.out.mono ?_
  rintro e w1 ⟨ad, c, rfl, how, hg, hb1⟩
  obtain ⟨p1, q1⟩ := one_row hb1
  have HOW := hid how
  have HG := hid hg
  have HB1 := hid hb1
  clear how hg hb1
  go_wp2
  refine bodyPost_ret (v := .tuple #[.agg #[.slice ad l.length c], .string ⟨#[]⟩]) (by simp [results, Tryd.results29, go_sem, p1]) rfl ⟨ad, c, rfl, ?_, ?_, ?_⟩
  · refine HOW.out.sv (Sv.setCell (S := fun k => k = w.heap.size) (Sv.refl _ _) (.inl rfl) _) fun h0 g e e2 => ?_
    have := HG.out h0 g e
    simp at this
    omega
  · intro h0 g e
    have := HG.out h0 g e
    simp at this
    omega
  · exact below_set (HB0.out.trans (HB1.out.mono (by simp))) _ _ (Nat.le_refl _) _
theorem OwnA.made {w w' : World} {g c : Nat} {x : At} (hg : w.heap.size ≤ g) (h : OwnA w' g 1 [x]) (hb : Below w.heap.size w w') : ValMade [x] w w' (.returned (.agg #[.slice (some ⟨g, 0, none⟩) 1 c])) :=
  ⟨_, c, rfl, .inr ⟨g, rfl, h⟩, fun _ g' e => by injection e with e; injection e with e; omega, hb⟩
theorem valueOf_bool (b : Bool) (w : World) (h1 : One w) : Calls Tryd.prog 47 #[.iface 89 (.bool b)] w fun e w' => ValMade [⟨2, if b = true then 1 else 0, ⟨#[]⟩, 0⟩] w w' e := by
  refine (valueOf_leaf 89 (.bool b) 2 (if b = true then 1 else 0) 0 _ _ w h1 (mSizeBool b) (fun w => enterOf _ _ w (by simp)) (fun w h => boolSize_any b w h) (aBool b) (tnListBool b) (tnRecBool b)).mono ?_
  rintro e w' ⟨g, c, rfl, hg, ho, hb⟩
  exact ho.made hg hb
theorem valueOf_int (n : Int) (w : World) (h1 : One w) : Calls Tryd.prog 47 #[.iface 90 (.int .i64 n)] w fun e w' => ValMade [⟨3, n, ⟨#[]⟩, 0⟩] w w' e := by
  refine (valueOf_leaf 90 (.int .i64 n) 3 n 0 _ _ w h1 (mSizeInt n) (fun w => enterOf _ _ w (by simp)) (fun w h => intSize_any n w h) (aInt n) (tnListInt n) (tnRecInt n)).mono ?_
  rintro e w' ⟨g, c, rfl, hg, ho, hb⟩
  exact ho.made hg hb
end Go.Proofs.YtfbfmhmpoaplaaaDoor
