import Derived.Test.YtfbfmhmpoaplaaaDoorSOk
import Derived.Test.YtfbfmhmpoaplaaaDoorUTo
namespace Go.Proofs.YtfbfmhmpoaplaaaDoor
open Go.RowKit
set_option maxRecDepth 20000
set_option maxHeartbeats 1000000 in
theorem l5One_any (x : At) (w : World) :
    Calls Tryd.prog 46 #[.agg #[.int .i64 x.kind, .int .i64 x.n, .string x.text, .int .i64 x.kids]] w fun e w' => ∃ g, e = .returned (.agg #[.slice (some ⟨g, 0, none⟩) 1 1]) ∧ w.heap.size ≤ g ∧ g < w'.heap.size ∧ AtomsAt w' g 0 [x] ∧ Below w.heap.size w w' := by
  go_enter Tryd.func46, Tryd.ntmps46
  go_wp2
  have h0 : ∀ i, ((((w.alloc (.cells #[.int .i64 x.kind, .int .i64 x.n, .string x.text, .int .i64 x.kids] 51)).alloc (.cells #[.slice (some ⟨w.heap.size + 1 + 1, 0, none⟩) 1 1] 29)).alloc (.cells #[.int .i64 x.kind, .int .i64 x.n, .string x.text, .int .i64 x.kids] 51))).cell? ⟨w.heap.size + 1 + 1, i, none⟩ = #[.int .i64 x.kind, .int .i64 x.n, .string x.text, .int .i64 x.kids][i]? := fun i => by
    have h := cell_new_row ((w.alloc (.cells #[.int .i64 x.kind, .int .i64 x.n, .string x.text, .int .i64 x.kids] 51)).alloc (.cells #[.slice (some ⟨w.heap.size + 1 + 1, 0, none⟩) 1 1] 29)) #[.int .i64 x.kind, .int .i64 x.n, .string x.text, .int .i64 x.kids] 51 i
    simp only [World.size_alloc] at h
    exact h
  refine bodyPost_ret (v := .agg #[.slice (some ⟨w.heap.size + 1 + 1, 0, none⟩) 1 1]) (by simp [results, Tryd.results46, go_sem]) rfl ⟨_, rfl, by omega, by simp, ?_, (below_two' w _ _).alloc (by simp; omega) _⟩
  intro i y hy
  obtain rfl : i = 0 := by have := (List.getElem?_eq_some_iff.1 hy).1; simp at this; omega
  simp at hy
  subst hy
  exact ⟨h0 0, h0 1, h0 2, h0 3⟩
set_option maxHeartbeats 1000000 in
theorem l6No_any (s : ByteArray) (w : World) :
    Calls Tryd.prog 27 #[.string s] w fun e w' => e = .returned (.tuple #[.agg #[.slice none 0 0], .string s]) ∧ Below w.heap.size w w' := by
  go_enter Tryd.func27, Tryd.ntmps27
  go_wp2
  refine bodyPost_ret (v := .tuple #[.agg #[.slice none 0 0], .string s]) ?_ rfl ⟨rfl, ?_⟩
  · simp [results, Tryd.results27, go_sem]
  · exact (Below.refl _ _).alloc (Nat.le_refl _) _
theorem fKind (k n d : Int) (s : ByteArray) (w : World) : (Instr.field 51 (.agg #[.int .i64 k, .int .i64 n, .string s, .int .i64 d]) 0).run Tryd.prog w = .ok (.int .i64 k) w := by kernel_rfl
theorem fNum (k n d : Int) (s : ByteArray) (w : World) : (Instr.field 51 (.agg #[.int .i64 k, .int .i64 n, .string s, .int .i64 d]) 1).run Tryd.prog w = .ok (.int .i64 n) w := by kernel_rfl
set_option maxHeartbeats 1000000 in
theorem l6Kind_any (b o N cap : Nat) (x : At) (w : World) (hN0 : 1 ≤ N) (hN : N ≤ 1048576) (hb : b < w.heap.size) (hx : FourAt w b (o + (N - 1) * 4) x) :
    Calls Tryd.prog 24 #[.agg #[.slice (some ⟨b, o, none⟩) N cap]] w fun e w' => e = .returned (.int .i64 x.kind) ∧ Below w.heap.size w w' := by
  have HB := hid ((Below.refl w.heap.size w).alloc (Nat.le_refl _) (.cells #[.slice (some ⟨b, o, none⟩) N cap] 29))
  have HC := hid (l5Last_any b o N cap x (w.alloc (.cells #[.slice (some ⟨b, o, none⟩) N cap] 29)) hN0 hN (by simp; omega) (hx.below HB.out hb))
  have f1 := fKind x.kind x.n x.kids x.text
  clear hx
  go_enter Tryd.func24, Tryd.ntmps24
  go_wp2_with fail
  refine HC.out.mono ?_
  rintro e w1 ⟨rfl, hb1⟩
  have HB1 := hid (HB.out.trans (hb1.mono (by simp)))
  clear hb1
  simp only [atV]
  go_wp2
  go_ret
  exact ⟨rfl, HB1.out⟩
theorem one_row {w w1 : World} {u : Value} {t : TypeId} (h : Below (w.alloc (.cells #[u] t)).heap.size (w.alloc (.cells #[u] t)) w1) : w1.cell? ⟨w.heap.size, 0, none⟩ = some u ∧ w1.frozen? ⟨w.heap.size, 0, none⟩ = false := by
  have e1 : w1.heap[w.heap.size]? = some (.cells #[u] t) := by
    rw [h.block _ (by simp)]
    exact heap_alloc_new w (.cells #[u] t)
  refine ⟨?_, ?_⟩
  · unfold World.cell?; rw [e1]; rfl
  · unfold World.frozen?; rw [e1]; rfl
/-- A value of one atom, made anew. -/
def OneMade (x : At) (w w' : World) (e : Ending) : Prop := ∃ g, e = .returned (.agg #[.slice (some ⟨g, 0, none⟩) 1 1]) ∧ w.heap.size ≤ g ∧ g < w'.heap.size ∧ AtomsAt w' g 0 [x] ∧ Below w.heap.size w w'
set_option maxHeartbeats 1000000 in
theorem l5Int_any (n : Int) (w : World) : Calls Tryd.prog 28 #[.int .i64 n] w fun e w' => OneMade ⟨3, n, ⟨#[]⟩, 0⟩ w w' e := by
  have HC := hid (l5One_any ⟨3, n, ⟨#[]⟩, 0⟩ (w.alloc (.cells #[.slice none 0 0] 29)))
  go_enter Tryd.func28, Tryd.ntmps28
  go_wp2_with fail
  refine HC.out.mono ?_
  rintro e w1 ⟨g, rfl, hg, hl, ha, hb1⟩
  obtain ⟨t1, t2⟩ := one_row hb1
  simp only [World.size_alloc] at hg
  have HA := hid ha
  have HB := hid (((Below.refl w.heap.size w).alloc (Nat.le_refl _) _).trans (hb1.mono (by simp)))
  clear ha hb1
  go_wp2
  exact bodyPost_ret (v := .agg #[.slice (some ⟨g, 0, none⟩) 1 1]) (by simp [results, Tryd.results28, go_sem, t1]) rfl ⟨g, rfl, by omega, by simpa using hl, HA.out.set (by omega) _, below_set HB.out _ _ (Nat.le_refl _) _⟩
set_option maxHeartbeats 1000000 in
theorem l5Bool_any (b : Bool) (w : World) : Calls Tryd.prog 25 #[.bool b] w fun e w' => OneMade ⟨2, if b = true then 1 else 0, ⟨#[]⟩, 0⟩ w w' e := by
  cases b
  · have HC := hid (l5One_any ⟨2, 0, ⟨#[]⟩, 0⟩ (w.alloc (.cells #[.slice none 0 0] 29)))
    go_enter Tryd.func25, Tryd.ntmps25
    go_wp2_with fail
    refine HC.out.mono ?_
    rintro e w1 ⟨g, rfl, hg, hl, ha, hb1⟩
    obtain ⟨t1, t2⟩ := one_row hb1
    simp only [World.size_alloc] at hg
    have HA := hid ha
    have HB := hid (((Below.refl w.heap.size w).alloc (Nat.le_refl _) _).trans (hb1.mono (by simp)))
    clear ha hb1
    go_wp2
    exact bodyPost_ret (v := .agg #[.slice (some ⟨g, 0, none⟩) 1 1]) (by simp [results, Tryd.results25, go_sem, t1]) rfl ⟨g, rfl, by omega, by simpa using hl, HA.out.set (by omega) _, below_set HB.out _ _ (Nat.le_refl _) _⟩
  · have HC := hid (l5One_any ⟨2, 1, ⟨#[]⟩, 0⟩ (w.alloc (.cells #[.slice none 0 0] 29)))
    go_enter Tryd.func25, Tryd.ntmps25
    go_wp2_with fail
    refine HC.out.mono ?_
    rintro e w1 ⟨g, rfl, hg, hl, ha, hb1⟩
    obtain ⟨t1, t2⟩ := one_row hb1
    simp only [World.size_alloc] at hg
    have HA := hid ha
    have HB := hid (((Below.refl w.heap.size w).alloc (Nat.le_refl _) _).trans (hb1.mono (by simp)))
    clear ha hb1
    go_wp2
    exact bodyPost_ret (v := .agg #[.slice (some ⟨g, 0, none⟩) 1 1]) (by simp [results, Tryd.results25, go_sem, t1]) rfl ⟨g, rfl, by omega, by simpa using hl, HA.out.set (by omega) _, below_set HB.out _ _ (Nat.le_refl _) _⟩
end Go.Proofs.YtfbfmhmpoaplaaaDoor
