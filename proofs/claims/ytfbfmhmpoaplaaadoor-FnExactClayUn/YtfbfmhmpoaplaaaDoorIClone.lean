import Derived.Test.YtfbfmhmpoaplaaaDoorIBase
import Derived.Lib.SliceRun
namespace Go.Proofs.YtfbfmhmpoaplaaaDoor
open Go.RowKit
set_option maxRecDepth 20000
theorem info_th : (Tryd.prog.info? 43).map (fun i => (i.zero, i.size, i.bytes)) = some (some .nilIface, 1, 16) := by kernel_rfl
theorem th_one {S : Nat → Prop} {W : World} {ts : List Tr} {xs : List Value} (h : IsThs S W ts xs) : ∀ u ∈ xs, u.oneCell' = true := by
  induction ts generalizing xs with
  | nil => simp [IsThs] at h; subst h; simp
  | cons t ts ih =>
    obtain ⟨v, vs, rfl, h1, h2⟩ := h
    intro u hu
    rcases List.mem_cons.1 hu with rfl | hu
    · obtain ⟨k, n, tx, ks⟩ := t
      simp only [IsTh] at h1
      rcases h1 with ⟨_, rfl⟩ | ⟨_, rfl⟩ | ⟨_, rfl⟩ | ⟨_, rfl⟩ | ⟨_, ad, cap, ys, rfl, _⟩ | ⟨_, ad, m, cap, ys, rfl, _⟩ <;> rfl
    · exact ih h2 u hu
set_option maxHeartbeats 1000000 in
theorem clone_nil (c : Nat) (w : World) :
    Calls Tryd.prog 37 #[.slice none 0 c] w fun e w' => ∃ v, e = .returned v ∧ w'.ownsRow w.heap.size 43 1 v 0 [] ∧ Below w.heap.size w w' := by
  have qT : ∀ (w : World) (a : Option Addr) (n c n' c' : Nat), (binOp .eql 65 (.slice a n c) (.slice none n' c')).run Tryd.prog w = .ok (.bool a.isNone) w := fun w a n c n' c' => Lib.run_eql_slice_nil w _ _ a n c n' c' Tryd.underlying65
  go_enter Tryd.func37, Tryd.ntmps37
  go_wp2
  go_ret
  exact ⟨_, rfl, World.ownsRow_nil _ _ _ _, Below.refl _ _⟩
set_option maxHeartbeats 1000000 in
theorem clone_some (a : Addr) (k c : Nat) (xs : List Value) (w : World) (hk : xs.length = k) (hk1 : k ≤ 1000) (hc : ∀ i u, xs[i]? = some u → w.cell? (a.add i) = some u) (hab : 0 < k → a.block < w.heap.size) (h1 : ∀ u ∈ xs, u.oneCell' = true) :
    Calls Tryd.prog 37 #[.slice (some a) k c] w fun e w' => ∃ v, e = .returned v ∧ w'.ownsRow w.heap.size 43 1 v k xs ∧ Below w.heap.size w w' := by
  have qT : ∀ (w : World) (a : Option Addr) (n c n' c' : Nat), (binOp .eql 65 (.slice a n c) (.slice none n' c')).run Tryd.prog w = .ok (.bool a.isNone) w := fun w a n c n' c' => Lib.run_eql_slice_nil w _ _ a n c n' c' Tryd.underlying65
  obtain ⟨i0, hi, hz0, hz1, hz2⟩ := info_parts info_th
  have HHI := hid (And.intro hi (And.intro hz0 (And.intro hz1 hz2)))
  clear hi hz0 hz1 hz2
  have HC : Hid (∀ i u, xs[i]? = some u → (w.alloc (.cells #[] 43)).cell? (a.add i) = some u) := fun i u h => by
    have hl := (List.getElem?_eq_some_iff.1 h).1
    have hb : (a.add i).block < w.heap.size := by unfold Addr.add; split <;> exact hab (by omega)
    rw [((Below.refl w.heap.size w).alloc (Nat.le_refl _) (.cells #[] 43)).cell hb]
    exact hc i u h
  have H1 := hid h1
  have HK := hid hk
  have HB := hid ((Below.refl w.heap.size w).alloc (Nat.le_refl _) (.cells #[] 43))
  have OWN1 := hid (World.ownsRow_made (e := 43) (size := 1) w #[] 0 (Nat.le_refl _) (by unfold maxLen; omega) rfl)
  clear hc h1 hk hab
  go_enter Tryd.func37, Tryd.ntmps37
  go_wp2_with (at_builtin; refine wpList_append_own_at _ rfl (.tmp 5) (.tmp 6) 65 rfl w.heap.size 43 i0 .nilIface 1 16 Tryd.underlying65 HHI.out.1 HHI.out.2.1 HHI.out.2.2.1 HHI.out.2.2.2 rfl (by decide) _ _ _ rfl OWN1.out a k c xs rfl (by rw [HK.out, Nat.mul_one]) HC.out H1.out (by unfold maxLen; omega) (by omega) (by simp) ?_; intro v1 w1 o1 g1 nn1 b1; rw [Nat.zero_add, List.nil_append] at o1; have O1 := hid o1; have HB1 := hid (HB.out.grown g1 (by simp) (fun q e => by injection e with e; exact Nat.le_of_eq e)); clear o1 g1 nn1 b1)
  obtain ⟨av, cv, rfl⟩ : ∃ av cv, v1 = .slice av k cv := by
    obtain ⟨_, ⟨h2, h3⟩ | ⟨g, cap, cur, h2, _⟩⟩ := O1.out
    · exact ⟨none, 0, by rw [h2, h3]⟩
    · exact ⟨_, _, h2⟩
  go_wp2
  go_ret
  exact ⟨_, rfl, O1.out, HB1.out⟩
end Go.Proofs.YtfbfmhmpoaplaaaDoor
