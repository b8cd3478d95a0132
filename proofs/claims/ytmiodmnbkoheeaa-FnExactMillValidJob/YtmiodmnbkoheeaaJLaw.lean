import Derived.Test.YtmiodmnbkoheeaaJJobI
import Derived.Deep.RegionHeld3
/-! FnExactMillValidJob, for every argument. -/
namespace Go.Proofs.Ytmiodmnbkoheeaa.J
open Go.RowKit
set_option maxRecDepth 20000
set_option maxHeartbeats 2000000 in
theorem szJob_any (a : ByteArray) (ad : Option Addr) (N cap : Nat) (s : Nat → ByteArray) (w : World) (ha : a.size ≤ maxLen) (hN : N ≤ maxLen) (hn : TextsA w ad N s) (ht : ∀ i, i < N → (s i).size ≤ maxLen) :
    Calls Try.prog 5 #[.agg #[.string a, .slice ad N cap], .int .i64 1048576] w fun e w' => (∃ r, e = .returned (.int .i64 r) ∧ (0 ≤ r → a.size ≤ 1048576 ∧ wtx s N ≤ 1048576)) ∧ Below w.heap.size w w' := by
  have HN := hid hn
  have HT := hid ht
  have HL := hid hN
  clear hn ht hN
  unfold maxLen at ha
  have ha' : a.size ≤ 9223372036854775807 := by simpa using ha
  clear ha
  have HB0 := hid ((Below.refl w.heap.size w).alloc (Nat.le_refl _) (.cells #[.string a, .slice ad N cap] 24))
  by_cases h : (1048576 : Int) - (a.size : Int) < 0
  · go_enter Try.func5, Try.ntmps5
    go_wp2
    go_ret
    exact ⟨⟨_, rfl, fun h => by omega⟩, HB0.out⟩
  · obtain ⟨l, hl⟩ : ∃ l, (1048576 : Int) - (a.size : Int) = l := ⟨_, rfl⟩
    have hl0 : 0 ≤ l := by omega
    have hl1 : l ≤ 1048576 := by omega
    go_enter Try.func5, Try.ntmps5
    go_wp2_with fail
    refine (szTextS_all ad N cap s l _ hl0 hl1 HL.out (HN.out.below HB0.out) HT.out).mono ?_
    rintro e w1 ⟨⟨r, rfl, h3, h4, h5⟩, rfl⟩
    by_cases hr : r < 0
    · go_wp2
      go_ret
      exact ⟨⟨_, rfl, fun h => by omega⟩, HB0.out⟩
    · go_wp2
      go_ret
      exact ⟨⟨_, rfl, fun h => by have := h5 h; omega⟩, HB0.out⟩
theorem block_at {w w1 : World} {X Y Z : Obj} (h : Below (((w.alloc X).alloc Y).alloc Z).heap.size (((w.alloc X).alloc Y).alloc Z) w1) :
    w1.heap[w.heap.size]? = some X ∧ w1.heap[w.heap.size + 1]? = some Y ∧ w1.heap[w.heap.size + 1 + 1]? = some Z := by
  refine ⟨?_, ?_, ?_⟩
  · rw [h.block _ (by simp; omega), Below.heap_alloc _ _ _ (by simp; omega), Below.heap_alloc _ _ _ (by simp)]
    exact heap_alloc_new w X
  · rw [h.block _ (by simp), Below.heap_alloc _ _ _ (by simp)]
    have := heap_alloc_new (w.alloc X) Y
    rwa [World.size_alloc] at this
  · rw [h.block _ (by simp)]
    have := heap_alloc_new ((w.alloc X).alloc Y) Z
    rwa [World.size_alloc, World.size_alloc] at this
theorem TextsAt.set {W : World} {g N b i : Nat} {s : Nat → ByteArray} (h : TextsAt W g N s) (hb : b ≠ g) (v : Value) : TextsAt (W.setCell ⟨b, i, none⟩ v) g N s := by
  intro j hj
  refine Eq.trans ?_ (h j hj)
  unfold World.cell? World.setCell
  simp only [Array.getElem?_modify]
  rw [if_neg hb]
theorem TextsA.at {W : World} {g N : Nat} {s : Nat → ByteArray} (h : TextsA W (some ⟨g, 0, none⟩) N s) : TextsAt W g N s := by
  rcases h with h | ⟨a, e, _, h2⟩
  · intro i hi; omega
  · cases e
    intro i hi
    rw [← add_at]; exact h2 i hi
set_option maxHeartbeats 2000000 in
theorem toJob_any (a : ByteArray) (ad : Option Addr) (N cap : Nat) (s : Nat → ByteArray) (w : World) (hN : N ≤ 1048576) (hn : TextsA w ad N s) :
    Calls Try.prog 7 #[.agg #[.string a, .slice ad N cap]] w fun e w' => ∃ g, e = .returned (.agg #[.string a, .slice (some ⟨g, 0, none⟩) N N]) ∧ TextsAt w' g N s ∧ g < w'.heap.size ∧ w.heap.size ≤ g ∧ Below w.heap.size w w' := by
  have HB3 := hid ((below_two' w (.cells #[.string a, .slice ad N cap] 24) (.cells #[.string ⟨#[]⟩, .slice none 0 0] 27)).alloc (by simp; omega) (.cells #[.string a, .slice none 0 0] 27))
  have HN := hid hn
  clear hn
  go_enter Try.func7, Try.ntmps7
  go_wp2_with fail
  refine (toTextS_all ad N cap s _ hN (HN.out.below HB3.out)).mono ?_
  rintro e w1 ⟨rfl, hno, hlt, hb1⟩
  obtain ⟨p0, p1, p2⟩ := block_at hb1
  have HP1 := hid (And.intro p1 p2)
  have HNO := hid hno
  have HLT := hid hlt
  have HB1 := hid (HB3.out.trans (hb1.mono (by simp; omega)))
  have x1 : w1.cell? ⟨w.heap.size + 1 + 1, 0, none⟩ = some (.string a) := by unfold World.cell?; rw [p2]; rfl
  have x2 : w1.cell? ⟨w.heap.size + 1 + 1, 1, none⟩ = some (.slice none 0 0) := by unfold World.cell?; rw [p2]; rfl
  have y2 : w1.frozen? ⟨w.heap.size + 1 + 1, 1, none⟩ = false := by unfold World.frozen?; rw [p2]; rfl
  have x4 : w1.cell? ⟨w.heap.size + 1, 0, none⟩ = some (.string ⟨#[]⟩) := by unfold World.cell?; rw [p1]; rfl
  have x5 : w1.cell? ⟨w.heap.size + 1, 1, none⟩ = some (.slice none 0 0) := by unfold World.cell?; rw [p1]; rfl
  have y4 : w1.frozen? ⟨w.heap.size + 1, 0, none⟩ = false := by unfold World.frozen?; rw [p1]; rfl
  have y5 : w1.frozen? ⟨w.heap.size + 1, 1, none⟩ = false := by unfold World.frozen?; rw [p1]; rfl
  clear hno hlt hb1 p0 p1 p2
  have hs0 : w.heap.size + 1 + 1 + 1 < w1.heap.size := by simpa using HLT.out
  have HN1 : Hid (TextsAt w1 (w.heap.size + 1 + 1 + 1) N s) := by
    have h := HNO.out
    simp only [World.size_alloc] at h
    exact h.at
  go_wp2
  refine bodyPost_ret (v := .agg #[.string a, .slice (some ⟨w.heap.size + 1 + 1 + 1, 0, none⟩) N N]) (by simp [results, Try.results7, go_sem, x4, x5]) rfl ⟨w.heap.size + 1 + 1 + 1, rfl, ?_, ?_, by omega, ?_⟩
  · exact ((HN1.out.set (by omega) _).set (by omega) _).set (by omega) _
  · simp; omega
  · exact below_set (below_set (below_set HB1.out _ _ (by omega) _) _ _ (by omega) _) _ _ (by omega) _
set_option maxHeartbeats 2000000 in
theorem eqJob_same (a : ByteArray) (g1 g2 N c1 c2 : Nat) (s : Nat → ByteArray) (w : World) (hN : N ≤ 1048576) (l1 : g1 < w.heap.size) (l2 : g2 < w.heap.size) (h1 : TextsAt w g1 N s) (h2 : TextsAt w g2 N s) :
    Calls Try.prog 9 #[.agg #[.string a, .slice (some ⟨g1, 0, none⟩) N c1], .agg #[.string a, .slice (some ⟨g2, 0, none⟩) N c2]] w fun e w' => e = .returned (.bool true) ∧ Below w.heap.size w w' := by
  have H1 := hid (h1.a l1)
  have H2 := hid (h2.a l2)
  clear h1 h2
  have h5 : (a.toList != a.toList) = false := by simp
  have HB2 := hid (below_two' w (.cells #[.string a, .slice (some ⟨g1, 0, none⟩) N c1] 27) (.cells #[.string a, .slice (some ⟨g2, 0, none⟩) N c2] 27))
  go_enter Try.func9, Try.ntmps9
  go_wp2_with (go_at_call 18; refine (eqTextS_all _ _ N c1 c2 s _ hN (H1.out.below HB2.out) (H2.out.below HB2.out)).mono ?_; rintro e w3 ⟨rfl, hb3⟩; have HB3 := hid (HB2.out.trans (hb3.mono HB2.out.size)); clear hb3)
  go_ret
  exact ⟨rfl, HB3.out⟩
set_option maxHeartbeats 4000000 in
theorem law_job (a : ByteArray) (ad : Option Addr) (N cap : Nat) (s : Nat → ByteArray) (w : World) (ha : a.size ≤ maxLen) (hN : N ≤ maxLen) (hn : TextsA w ad N s) (ht : ∀ i, i < N → (s i).size ≤ maxLen) :
    Calls Try.prog 3 #[.agg #[.string a, .slice ad N cap]] w fun e w' => e = .returned (.bool true) ∧ Below w.heap.size w w' := by
  have HN := hid hn
  have HT := hid ht
  clear hn ht
  go_enter Try.func3, Try.ntmps3
  go_wp2_with fail
  have HB0 := hid (Below.refl (w.heap.size + 1) (w.alloc (.cells #[.string a, .slice ad N cap] 24)))
  have HST : Hid (∀ W W', Below (w.heap.size + 1) (w.alloc (.cells #[.string a, .slice ad N cap] 24)) W → Below W.heap.size W W' → Below (w.heap.size + 1) (w.alloc (.cells #[.string a, .slice ad N cap] 24)) W') := fun W W' h h2 => h.trans (h2.mono (by have := h.size; simpa using this))
  refine (szJob_any a ad N cap s _ ha hN (HN.out.below (btree HB0.out)) HT.out).mono ?_
  rintro e w1 ⟨⟨r, rfl, h3⟩, hb1⟩
  have HB1 := hid (HST.out _ _ HB0.out hb1)
  obtain ⟨t1, u1⟩ := box2 HB1.out
  clear hb1
  by_cases hr : r < 0
  · clear h3
    go_wp2
    go_ret
    exact ⟨rfl, btree HB1.out⟩
  · obtain ⟨ha2, hw2⟩ := h3 (by omega)
    clear h3
    have hN2 : N ≤ 1048576 := Nat.le_trans (wtx_ge s N) hw2
    have HT2 : Hid (∀ i, i < N → (s i).size ≤ 1048576) := fun i hi => by have := wtx_at s hi; omega
    clear hw2
    go_wp2_with fail
    refine (toJob_any a ad N cap s _ hN2 (HN.out.below (btree HB1.out))).mono ?_
    rintro e w2 ⟨g2, rfl, n2, l2, _, hb2⟩
    have HB2 := hid (HST.out _ _ HB1.out hb2)
    have NA2 := hid n2
    clear hb2 n2
    go_wp2_with fail
    refine (specJob_any a g2 N N s _ ha2 hN2 l2 NA2.out HT.out).mono ?_
    rintro e w3 ⟨⟨b3, rfl, hv3⟩, hb3⟩
    have HB3 := hid (HST.out _ _ HB2.out hb3)
    obtain ⟨t3, u3⟩ := box2 HB3.out
    have HV3 := hid hv3
    clear hb3 hv3 t1 u1
    go_wp2_with fail
    refine (toJob_any a ad N cap s _ hN2 (HN.out.below (btree HB3.out))).mono ?_
    rintro e w4 ⟨g4, rfl, n4, l4, _, hb4⟩
    have HB4 := hid (HST.out _ _ HB3.out hb4)
    have NA4 := hid n4
    clear hb4 n4 t3 u3
    go_wp2_with fail
    have HA4 := hid ((Below.refl w4.heap.size w4).alloc (Nat.le_refl _) (.cells #[.string a, .slice (some ⟨g4, 0, none⟩) N N] 27))
    have HB4a := hid (HST.out _ _ HB4.out HA4.out)
    refine (implJob_any a g4 N N s _ ha2 hN2 (by simp; omega) (NA4.out.below HA4.out l4) HT2.out).mono ?_
    rintro e w5 ⟨⟨b5, rfl, hv5⟩, hb5⟩
    have hbb : b5 = b3 := by rw [Bool.eq_iff_iff]; exact hv5.trans HV3.out.symm
    subst hbb
    have HB5 := hid (HST.out _ _ HB4a.out hb5)
    obtain ⟨t5, u5⟩ := box2 HB5.out
    obtain ⟨x5, z5⟩ := box2 (w := w4) (by simpa using hb5)
    have NA5 := hid (NA4.out.below (HA4.out.trans (hb5.mono (by simp))) l4)
    have hl5 : g4 < w5.heap.size := by have := hb5.size; simp at this; omega
    have hl5b : w4.heap.size < w5.heap.size := by have := hb5.size; simp at this; omega
    clear hb5 hv5
    have hne : (b5 != b5) = false := by simp
    go_wp2_with fail
    have HS6 : Hid (∀ W, Below w5.heap.size w5 W → (W.cell? ⟨w.heap.size, 0, none⟩ = some (.string a) ∧ W.cell? ⟨w.heap.size, 1, none⟩ = some (.slice ad N cap)) ∧ W.cell? ⟨w4.heap.size, 0, none⟩ = some (.string a) ∧ W.cell? ⟨w4.heap.size, 1, none⟩ = some (.slice (some ⟨g4, 0, none⟩) N N)) := fun W h => ⟨box2 (HST.out _ _ HB5.out h), (h.cell (p := ⟨w4.heap.size, 0, none⟩) hl5b).trans x5, (h.cell (p := ⟨w4.heap.size, 1, none⟩) hl5b).trans z5⟩
    go_region_held3 (fun w' => (w'.cell? ⟨w.heap.size, 0, none⟩ = some (.string a) ∧ w'.cell? ⟨w.heap.size, 1, none⟩ = some (.slice ad N cap)) ∧ w'.cell? ⟨w4.heap.size, 0, none⟩ = some (.string a) ∧ w'.cell? ⟨w4.heap.size, 1, none⟩ = some (.slice (some ⟨g4, 0, none⟩) N N)) (first | (exact HS6.out _ HC7.out) | (exact HS6.out _ HC6.out) | go_keep) (first
      | (go_at_call 7; refine (toJob_any a ad N cap s _ hN2 (HN.out.below (btree HB5.out).drew)).mono ?_; rintro e w6 ⟨g6, rfl, n6, l6, _, hb6⟩; have NA6 := hid n6; have HC6 := hid ((Below.refl w5.heap.size w5).drew.trans hb6); clear n6 hb6)
      | (go_at_call 9; refine (eqJob_same a g4 g6 N N N s _ hN2 (Nat.lt_of_lt_of_le hl5 HC6.out.size) l6 (NA5.out.below HC6.out hl5) NA6.out).mono ?_; rintro e w7 ⟨rfl, hb7⟩; have HC7 := hid (HC6.out.trans (hb7.mono HC6.out.size)); clear hb7))
    have HB7 := hid (HST.out _ _ HB5.out HC7.out)
    go_wp2
    go_ret
    exact ⟨rfl, btree HB7.out⟩
end Go.Proofs.Ytmiodmnbkoheeaa.J
