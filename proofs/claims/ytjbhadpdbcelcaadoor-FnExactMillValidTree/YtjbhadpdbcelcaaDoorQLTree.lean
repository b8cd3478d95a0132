import Derived.Test.YtjbhadpdbcelcaaDoorQLEqT
namespace Go.Proofs.YtjbhadpdbcelcaaDoor.Q
open Go.RowKit Go.Shelf
set_option maxRecDepth 20000
set_option maxHeartbeats 1000000 in
theorem szNodeS_none (ad : Option Addr) (cap : Nat) (w : World) :
    Calls Tryd.prog 9 #[.slice ad 0 cap, .int .i64 1048576] w fun e w' => e = .returned (.int .i64 1048576) ∧ w' = w := by
  go_enter Tryd.func9, Tryd.ntmps9
  go_wp2
  go_loopw [1, 5] (fun l i wr => i = .int .i64 0 ∧ l = .int .i64 1048576 ∧ wr = w) (fun _ _ _ => 0)
  case atStart => exact ⟨rfl, rfl, rfl⟩
  case round =>
    obtain ⟨rfl, rfl, rfl⟩ := hrel
    go_wp2
    go_ret
    exact ⟨rfl, rfl⟩
set_option maxHeartbeats 1000000 in
theorem toNodeS_none (ad : Option Addr) (cap : Nat) (nd : Nat → Nd) (w : World) :
    Calls Tryd.prog 13 #[.slice ad 0 cap] w fun e w' => e = .returned (.slice (some ⟨w.heap.size, 0, none⟩) 0 0) ∧ NodesAt w' w.heap.size 0 nd ∧ w.heap.size < w'.heap.size ∧ Below w.heap.size w w' := by
  obtain ⟨i0, hi, hz0, hz1, hz2⟩ := info_parts info_nd
  have HHI := hid (And.intro hi (And.intro hz0 hz1))
  clear hi hz0 hz1
  go_enter Tryd.func13, Tryd.ntmps13
  go_wp2_with (at_make; refine wpList_make_full _ rfl _ _ 27 rfl w.heap.size 39 i0 (.agg #[.int .i64 0, .int .i64 0, .int .i64 0, .int .i64 0, .string ⟨#[]⟩, .int .i64 0]) 6 Tryd.underlying27 HHI.out.1 HHI.out.2.1 HHI.out.2.2 _ _ _ _ 0 rfl rfl rfl rfl (by omega) (by unfold maxLen; omega) (Nat.le_refl _) ?_; intro w1 o1 g1)
  have hsz : w.heap.size < w1.heap.size := by
    obtain ⟨h1, ⟨h2, _⟩ | ⟨g, c, cur, e, _, h4, _, _, h7, _⟩⟩ := o1
    · cases h2
    · cases e
      exact (Array.getElem?_eq_some_iff.1 h4).1
  have HB0 := hid ((Below.refl w.heap.size w).grown g1 (Nat.le_refl _) (fun q e => by cases e))
  clear o1 g1
  go_loopw [4] (fun i wr => i = .int .i64 0 ∧ wr = w1) (fun _ _ => 0)
  case atStart => exact ⟨rfl, rfl⟩
  case round =>
    obtain ⟨rfl, rfl⟩ := hrel
    go_wp2
    go_ret
    exact ⟨rfl, fun i h => absurd h (Nat.not_lt_zero _), hsz, HB0.out⟩
theorem szNodeS_all (ad : Option Addr) (N cap : Nat) (nd : Nat → Nd) (w : World) (hN : N ≤ maxLen) (hn : NodesA w ad N nd) (ht : ∀ i, i < N → (nd i).text.size ≤ maxLen) :
    Calls Tryd.prog 9 #[.slice ad N cap, .int .i64 1048576] w fun e w' => (∃ r, e = .returned (.int .i64 r) ∧ -1 ≤ r ∧ r ≤ 1048576 ∧ (0 ≤ r → N ≤ 1048576 ∧ ∀ i, i < N → (nd i).text.size ≤ 1048576)) ∧ Below w.heap.size w w' := by
  rcases hn with rfl | ⟨a, rfl, h1, h2⟩
  · refine (szNodeS_none ad cap w).mono ?_
    rintro e w' ⟨rfl, rfl⟩
    exact ⟨⟨_, rfl, by omega, by omega, fun _ => ⟨by omega, fun i h => absurd h (Nat.not_lt_zero _)⟩⟩, Below.refl _ _⟩
  · exact szNodeS_any a N cap nd w hN h1 h2 ht
theorem toNodeS_all (ad : Option Addr) (N cap : Nat) (nd : Nat → Nd) (w : World) (hN : N ≤ 1048576) (hn : NodesA w ad N nd) :
    Calls Tryd.prog 13 #[.slice ad N cap] w fun e w' => e = .returned (.slice (some ⟨w.heap.size, 0, none⟩) N N) ∧ NodesAt w' w.heap.size N nd ∧ w.heap.size < w'.heap.size ∧ Below w.heap.size w w' := by
  rcases hn with rfl | ⟨a, rfl, h1, h2⟩
  · exact toNodeS_none ad cap nd w
  · exact toNodeS_any a N cap nd w hN h1 h2
set_option maxHeartbeats 1000000 in
theorem szTree_any (ad : Option Addr) (N cap : Nat) (nd : Nat → Nd) (w : World) (hN : N ≤ maxLen) (hn : NodesA w ad N nd) (ht : ∀ i, i < N → (nd i).text.size ≤ maxLen) :
    Calls Tryd.prog 4 #[.agg #[.slice ad N cap], .int .i64 1048576] w fun e w' => (∃ r, e = .returned (.int .i64 r) ∧ (0 ≤ r → N ≤ 1048576 ∧ ∀ i, i < N → (nd i).text.size ≤ 1048576)) ∧ Below w.heap.size w w' := by
  have HB := hid ((Below.refl w.heap.size w).alloc (Nat.le_refl _) (.cells #[.slice ad N cap] 24))
  have HN := hid (hn.below HB.out)
  have HT := hid ht
  clear hn ht
  go_enter Tryd.func4, Tryd.ntmps4
  go_wp2_with (go_at_call 9; refine (szNodeS_all ad N cap nd _ hN HN.out HT.out).mono ?_; rintro e w1 ⟨⟨r, rfl, h1, h2, h3⟩, hb1⟩; have H3 := hid h3; have HB1 := hid (HB.out.trans (hb1.mono (by simp))); clear h3 hb1)
  · go_ret
    exact ⟨⟨_, rfl, fun h => by omega⟩, HB1.out⟩
  · go_ret
    exact ⟨⟨_, rfl, H3.out⟩, HB1.out⟩
theorem three_rows {w w1 : World} {X : Obj} {u v : Value} {t : TypeId} (h : Below (((w.alloc X).alloc (.cells #[u] t)).alloc (.cells #[v] t)).heap.size (((w.alloc X).alloc (.cells #[u] t)).alloc (.cells #[v] t)) w1) :
    (w1.cell? ⟨w.heap.size + 1, 0, none⟩ = some u ∧ w1.frozen? ⟨w.heap.size + 1, 0, none⟩ = false) ∧ (w1.cell? ⟨w.heap.size + 1 + 1, 0, none⟩ = some v ∧ w1.frozen? ⟨w.heap.size + 1 + 1, 0, none⟩ = false) := by
  have e2 : w1.heap[w.heap.size + 1 + 1]? = some (.cells #[v] t) := by
    rw [h.block _ (by simp)]
    have := heap_alloc_new ((w.alloc X).alloc (.cells #[u] t)) (.cells #[v] t)
    rwa [World.size_alloc, World.size_alloc] at this
  have e1 : w1.heap[w.heap.size + 1]? = some (.cells #[u] t) := by
    rw [h.block _ (by simp), Below.heap_alloc _ _ _ (by simp)]
    have := heap_alloc_new (w.alloc X) (.cells #[u] t)
    rwa [World.size_alloc] at this
  refine ⟨⟨?_, ?_⟩, ?_, ?_⟩
  · unfold World.cell?; rw [e1]; rfl
  · unfold World.frozen?; rw [e1]; rfl
  · unfold World.cell?; rw [e2]; rfl
  · unfold World.frozen?; rw [e2]; rfl
theorem NodesAt.set {W : World} {g N b : Nat} {nd : Nat → Nd} (h : NodesAt W g N nd) (hb : b ≠ g) (v : Value) : NodesAt (W.setCell ⟨b, 0, none⟩ v) g N nd := by
  intro i hi
  obtain ⟨c0, c1, c2, c3, c4, c5⟩ := h i hi
  have k : ∀ j, (W.setCell ⟨b, 0, none⟩ v).cell? ⟨g, j, none⟩ = W.cell? ⟨g, j, none⟩ := fun j => by
    unfold World.cell? World.setCell
    simp only [Array.getElem?_modify]
    rw [if_neg hb]
  exact ⟨(k _).trans c0, (k _).trans c1, (k _).trans c2, (k _).trans c3, (k _).trans c4, (k _).trans c5⟩
set_option maxHeartbeats 1000000 in
theorem toTree_any (ad : Option Addr) (N cap : Nat) (nd : Nat → Nd) (w : World) (hN : N ≤ 1048576) (hn : NodesA w ad N nd) :
    Calls Tryd.prog 6 #[.agg #[.slice ad N cap]] w fun e w' => ∃ g, e = .returned (.agg #[.slice (some ⟨g, 0, none⟩) N N]) ∧ NodesAt w' g N nd ∧ g < w'.heap.size ∧ w.heap.size ≤ g ∧ Below w.heap.size w w' := by
  have HB := hid ((Below.refl w.heap.size w).alloc (Nat.le_refl _) (.cells #[.slice ad N cap] 24))
  have HN := hid hn
  clear hn
  go_enter Tryd.func6, Tryd.ntmps6
  go_wp2_with fail
  have HB3 := hid (((HB.out.alloc (by simp) (.cells #[.slice none 0 0] 29))).alloc (by simp; omega) (.cells #[.slice none 0 0] 29))
  refine (toNodeS_all ad N cap nd _ hN (HN.out.below HB3.out)).mono ?_
  rintro e w1 ⟨rfl, hno, hlt, hb1⟩
  obtain ⟨⟨x1, y1⟩, ⟨x2, y2⟩⟩ := three_rows hb1
  have HNO := hid hno
  have HLT := hid hlt
  have HB1 := hid (HB3.out.trans (hb1.mono (by simp; omega)))
  clear hno hlt hb1
  go_wp2
  refine bodyPost_ret (v := .agg #[.slice (some ⟨w.heap.size + 1 + 1 + 1, 0, none⟩) N N]) (by simp [results, Tryd.results6, go_sem, x1]) rfl ⟨w.heap.size + 1 + 1 + 1, rfl, ?_, ?_, by omega, ?_⟩
  · have h3 := HNO.out
    simp only [World.size_alloc] at h3
    exact (h3.set (by omega) _).set (by omega) _
  · have := HLT.out
    simp only [World.size_alloc] at this
    simpa using this
  · exact below_set (below_set HB1.out _ _ (by omega) _) _ _ (by omega) _
set_option maxHeartbeats 1000000 in
theorem eqTree_same (g1 g2 N : Nat) (nd : Nat → Nd) (w : World) (hN : N ≤ 1048576) (hl1 : g1 < w.heap.size) (hl2 : g2 < w.heap.size) (h1 : NodesAt w g1 N nd) (h2 : NodesAt w g2 N nd) :
    Calls Tryd.prog 8 #[.agg #[.slice (some ⟨g1, 0, none⟩) N N], .agg #[.slice (some ⟨g2, 0, none⟩) N N]] w fun e w' => e = .returned (.bool true) ∧ Below w.heap.size w w' := by
  have HB := hid (below_two' w (.cells #[.slice (some ⟨g1, 0, none⟩) N N] 29) (.cells #[.slice (some ⟨g2, 0, none⟩) N N] 29))
  have H1 := hid (h1.below HB.out hl1)
  have H2 := hid (h2.below HB.out hl2)
  clear h1 h2
  go_enter Tryd.func8, Tryd.ntmps8
  go_wp2_with (go_at_call 18; refine (eqNodeS_same g1 g2 N nd _ hN (by simp; omega) (by simp; omega) H1.out H2.out).mono ?_; rintro e w1 ⟨rfl, hb1⟩; have HB1 := hid (HB.out.trans (hb1.mono (by simp; omega))); clear hb1)
  go_ret
  exact ⟨rfl, HB1.out⟩
end Go.Proofs.YtjbhadpdbcelcaaDoor.Q
