import Derived.Test.YtmhcmbhhcmmakaaDoorOImp2
import Derived.Deep.RegionHeld3
namespace Go.Proofs.YtmhcmbhhcmmakaaDoor
open Go.RowKit
set_option maxRecDepth 20000
set_option maxHeartbeats 16000000 in
theorem law_order (ad ad' : Option Addr) (l l' : List At) (N cap N' cap' : Nat) (w : World) (h1 : One w) (hl : l.length = N) (hl' : l'.length = N') (hN : N ≤ maxLen) (hN' : N' ≤ maxLen) (hn : AtomsA w ad l) (hn' : AtomsA w ad' l') (ht : ∀ x ∈ l, x.text.size ≤ maxLen) (ht' : ∀ x ∈ l', x.text.size ≤ maxLen) :
    Calls Tryd.prog 4 #[.agg #[.slice ad N cap], .agg #[.slice ad' N' cap']] w fun e w' => e = .returned (.bool true) ∧ Below w.heap.size w w' := by
  have HN := hid hn
  have HT := hid ht
  have HL := hid hl
  have HN' := hid hn'
  have HT' := hid ht'
  have HL' := hid hl'
  have HO := hid h1
  have hz := h1.2.2
  clear hn ht hl h1 hn' ht' hl'
  have HB0 := hid (below_two' w (.cells #[.slice ad N cap] 24) (.cells #[.slice ad' N' cap'] 24))
  have HBX : Hid (∀ W, Below (w.heap.size + 1 + 1) ((w.alloc (.cells #[.slice ad N cap] 24)).alloc (.cells #[.slice ad' N' cap'] 24)) W → W.cell? ⟨w.heap.size, 0, none⟩ = some (.slice ad N cap) ∧ W.cell? ⟨w.heap.size + 1, 0, none⟩ = some (.slice ad' N' cap') ∧ Below w.heap.size w W) := fun W hW => by
    refine ⟨?_, ?_, HB0.out.trans (hW.mono (by omega))⟩
    · rw [hW.cell (p := ⟨w.heap.size, 0, none⟩) (by show w.heap.size < w.heap.size + 1 + 1; omega), ((Below.refl (w.heap.size + 1) (w.alloc (.cells #[.slice ad N cap] 24))).alloc (by simp) _).cell (p := ⟨w.heap.size, 0, none⟩) (Nat.lt_succ_self _), cell_new_row]; rfl
    · have h := cell_new_row (w.alloc (.cells #[.slice ad N cap] 24)) #[.slice ad' N' cap'] 24 0
      rw [World.size_alloc] at h
      rw [hW.cell (p := ⟨w.heap.size + 1, 0, none⟩) (Nat.lt_succ_self _)]
      exact h
  have HBR := hid (Below.refl (w.heap.size + 1 + 1) ((w.alloc (.cells #[.slice ad N cap] 24)).alloc (.cells #[.slice ad' N' cap'] 24)))
  have HST : Hid (∀ W W', Below (w.heap.size + 1 + 1) ((w.alloc (.cells #[.slice ad N cap] 24)).alloc (.cells #[.slice ad' N' cap'] 24)) W → Below W.heap.size W W' → Below (w.heap.size + 1 + 1) ((w.alloc (.cells #[.slice ad N cap] 24)).alloc (.cells #[.slice ad' N' cap'] 24)) W') := fun W W' h h2 => h.trans (h2.mono (by have := h.size; simpa using this))
  go_enter Tryd.func4, Tryd.ntmps4
  go_wp2_with fail
  refine (szValue_any ad l N cap 1048576 _ HL.out (by omega) (by omega) hN (HN.out.below HB0.out) HT.out).mono ?_
  rintro e w1 ⟨⟨r, rfl, _, hr1, h3⟩, hb1⟩
  have HB1 := hid (HST.out _ _ HBR.out hb1)
  obtain ⟨s1, u1, hw1⟩ := HBX.out _ HB1.out
  have HW1 := hid hw1
  clear hb1 hw1
  by_cases hr : r < 0
  · clear h3
    go_wp2
    go_ret
    exact ⟨rfl, HW1.out⟩
  obtain ⟨hN2, _⟩ := h3 (by omega)
  clear h3
  go_wp2_with fail
  refine (szValue_any ad' l' N' cap' r _ HL'.out (by omega) (by omega) hN' (HN'.out.below HW1.out) HT'.out).mono ?_
  rintro e w2 ⟨⟨r2, rfl, _, _, h3⟩, hb2⟩
  have HB2 := hid (HST.out _ _ HB1.out hb2)
  obtain ⟨s2, u2, hw2⟩ := HBX.out _ HB2.out
  have HW2 := hid hw2
  clear hb2 hw2
  by_cases hr2 : r2 < 0
  · clear h3
    go_wp2
    go_ret
    exact ⟨rfl, HW2.out⟩
  obtain ⟨hN2', _⟩ := h3 (by omega)
  clear h3
  go_wp2_with fail
  have HS2 : Hid (∀ W, Below w2.heap.size w2 W → W.cell? ⟨w.heap.size, 0, none⟩ = some (.slice ad N cap) ∧ W.cell? ⟨w.heap.size + 1, 0, none⟩ = some (.slice ad' N' cap')) := fun W h => ⟨(HBX.out _ (HST.out _ _ HB2.out h)).1, (HBX.out _ (HST.out _ _ HB2.out h)).2.1⟩
  have HTO1 : Hid (∀ W, Below w2.heap.size w2 W → Calls Tryd.prog 8 #[.agg #[.slice ad N cap]] W fun e w' => ∃ g, e = .returned (.agg #[.slice (some ⟨g, 0, none⟩) N N]) ∧ AtomsAt w' g 0 l ∧ g < w'.heap.size ∧ Below W.heap.size W w') := fun W hW => (toValue_any ad l N cap W HL.out hN2 (HN.out.below (HW2.out.trans (hW.mono HW2.out.size)))).mono fun e w' ⟨g, h1, h2, h3, _, h5⟩ => ⟨g, h1, h2, h3, h5⟩
  have HTO2 : Hid (∀ W, Below w2.heap.size w2 W → Calls Tryd.prog 8 #[.agg #[.slice ad' N' cap']] W fun e w' => ∃ g, e = .returned (.agg #[.slice (some ⟨g, 0, none⟩) N' N']) ∧ AtomsAt w' g 0 l' ∧ g < w'.heap.size ∧ Below W.heap.size W w') := fun W hW => (toValue_any ad' l' N' cap' W HL'.out hN2' (HN'.out.below (HW2.out.trans (hW.mono HW2.out.size)))).mono fun e w' ⟨g, h1, h2, h3, _, h5⟩ => ⟨g, h1, h2, h3, h5⟩
  go_region_held3 (fun w' => w'.cell? ⟨w.heap.size, 0, none⟩ = some (.slice ad N cap) ∧ w'.cell? ⟨w.heap.size + 1, 0, none⟩ = some (.slice ad' N' cap')) (first | (exact HS2.out _ HC5.out) | (exact HS2.out _ HC4.out) | (exact HS2.out _ HC3.out) | go_keep) (first
    | (go_at_call 11; refine (specOrder_any g3 0 N N g4 0 N' N' l l' _ HL.out HL'.out (Nat.le_refl _) hN2 (Nat.le_refl _) hN2' l3 l4 NA3.out NA4.out HT.out HT'.out).mono ?_; rintro e w5 ⟨⟨x5, rfl, hx5⟩, hb5⟩; have HX5 := hid hx5; have HC5 := hid (HC4.out.trans (hb5.mono HC4.out.size)); clear hb5 hx5)
    | (refine (HTO1.out _ (Below.refl w2.heap.size w2).drew).mono ?_; rintro e w3 ⟨g3, rfl, n3, l3, hb3⟩; have NA3 := hid n3; have HC3 := hid ((Below.refl w2.heap.size w2).drew.trans hb3); clear n3 hb3)
    | (refine (HTO2.out _ HC3.out).mono ?_; rintro e w4 ⟨g4, rfl, n4, l4, hb4⟩; have NA4 := hid n4; have l3 := Nat.lt_of_lt_of_le l3 hb4.size; have NA3 := hid (NA3.out.below hb4 (by assumption)); have HC4 := hid (HC3.out.trans (hb4.mono HC3.out.size)); clear n4 hb4))
  have HB5 := hid (HST.out _ _ HB2.out HC5.out)
  obtain ⟨s5, u5, _⟩ := HBX.out _ HB5.out
  clear NA4 NA3 l3 l4
  go_wp2_with fail
  refine (HTO1.out _ HC5.out).mono ?_
  rintro e w6 ⟨g6, rfl, n6, l6, hb6⟩
  have NA6 := hid n6
  have HC6 := hid (HC5.out.trans (hb6.mono HC5.out.size))
  clear n6 hb6
  have HA6 := hid ((Below.refl w6.heap.size w6).alloc (Nat.le_refl _) (.cells #[.slice (some ⟨g6, 0, none⟩) N N] 29))
  have HC6a := hid (HC6.out.trans (HA6.out.mono HC6.out.size))
  have u6 := (HS2.out _ HC6a.out).2
  go_wp2_with fail
  refine (HTO2.out _ HC6a.out).mono ?_
  rintro e w7 ⟨g7, rfl, n7, l7, hb7⟩
  have NA7 := hid n7
  have HC7 := hid (HC6a.out.trans (hb7.mono HC6a.out.size))
  have x7 : w7.cell? ⟨w6.heap.size, 0, none⟩ = some (.slice (some ⟨g6, 0, none⟩) N N) := by
    rw [hb7.cell (p := ⟨w6.heap.size, 0, none⟩) (by simp), cell_new_row]; rfl
  have NB7 := hid (NA6.out.below (HA6.out.trans (hb7.mono (by simp))) l6)
  have k6 : w6.heap.size < w7.heap.size := by have := hb7.size; simp at this; omega
  have m6 : g6 < w7.heap.size := by omega
  clear n7 hb7
  have HA7 := hid ((Below.refl w7.heap.size w7).alloc (Nat.le_refl _) (.cells #[.slice (some ⟨g7, 0, none⟩) N' N'] 29))
  have HC7a := hid (HC7.out.trans (HA7.out.mono HC7.out.size))
  have x7a := (HA7.out.cell (p := ⟨w6.heap.size, 0, none⟩) k6).trans x7
  have y7a : (w7.alloc (.cells #[.slice (some ⟨g7, 0, none⟩) N' N'] 29)).cell? ⟨w7.heap.size, 0, none⟩ = some (.slice (some ⟨g7, 0, none⟩) N' N') := by
    rw [cell_new_row]; rfl
  go_wp2_with fail
  refine (implOrder_any g6 0 N N g7 0 N' N' l l' _ (HO.out.below (HW2.out.trans (HC7a.out.mono HW2.out.size)) hz) HL.out HL'.out hN2 hN2' (by simp; omega) (by simp; omega) (NB7.out.below HA7.out m6) (NA7.out.below HA7.out l7) HT.out HT'.out).mono ?_
  rintro e w8 ⟨⟨x8, rfl, hx8⟩, hb8⟩
  obtain rfl : x8 = x5 := hx8.uniq HX5.out
  have HC8 := hid (HC7a.out.trans (hb8.mono HC7a.out.size))
  have HD8 := hid (HA7.out.trans (hb8.mono HA7.out.size))
  have NA8 := hid (NB7.out.below HD8.out m6)
  have NB8 := hid (NA7.out.below HD8.out l7)
  have k8 : w6.heap.size < w8.heap.size := by have := HD8.out.size; omega
  have k8b : w7.heap.size < w8.heap.size := by have := hb8.size; simp at this; omega
  have m8 : g6 < w8.heap.size := by omega
  have m8b : g7 < w8.heap.size := by omega
  have x8a := (hb8.cell (p := ⟨w6.heap.size, 0, none⟩) (by simp; omega)).trans x7a
  have y8a := (hb8.cell (p := ⟨w7.heap.size, 0, none⟩) (by simp)).trans y7a
  have HS8 : Hid (∀ W, Below w8.heap.size w8 W → W.cell? ⟨w.heap.size, 0, none⟩ = some (.slice ad N cap) ∧ W.cell? ⟨w.heap.size + 1, 0, none⟩ = some (.slice ad' N' cap') ∧ W.cell? ⟨w6.heap.size, 0, none⟩ = some (.slice (some ⟨g6, 0, none⟩) N N) ∧ W.cell? ⟨w7.heap.size, 0, none⟩ = some (.slice (some ⟨g7, 0, none⟩) N' N')) := fun W h => ⟨(HS2.out _ (HC8.out.trans (h.mono HC8.out.size))).1, (HS2.out _ (HC8.out.trans (h.mono HC8.out.size))).2, (h.cell (p := ⟨w6.heap.size, 0, none⟩) k8).trans x8a, (h.cell (p := ⟨w7.heap.size, 0, none⟩) k8b).trans y8a⟩
  have HTA : Hid (∀ W, Below w8.heap.size w8 W → Calls Tryd.prog 8 #[.agg #[.slice ad N cap]] W fun e w' => ∃ g, e = .returned (.agg #[.slice (some ⟨g, 0, none⟩) N N]) ∧ AtomsAt w' g 0 l ∧ g < w'.heap.size ∧ Below W.heap.size W w') := fun W hW => HTO1.out W (HC8.out.trans (hW.mono HC8.out.size))
  have HTB : Hid (∀ W, Below w8.heap.size w8 W → Calls Tryd.prog 8 #[.agg #[.slice ad' N' cap']] W fun e w' => ∃ g, e = .returned (.agg #[.slice (some ⟨g, 0, none⟩) N' N']) ∧ AtomsAt w' g 0 l' ∧ g < w'.heap.size ∧ Below W.heap.size W w') := fun W hW => HTO2.out W (HC8.out.trans (hW.mono HC8.out.size))
  have HEA : Hid (∀ W g, Below w8.heap.size w8 W → g < W.heap.size → AtomsAt W g 0 l → Calls Tryd.prog 10 #[.agg #[.slice (some ⟨g6, 0, none⟩) N N], .agg #[.slice (some ⟨g, 0, none⟩) N N]] W fun e w' => e = .returned (.bool true) ∧ Below W.heap.size W w') := fun W g hW hg ha => eqValue_same (some ⟨g6, 0, none⟩) (some ⟨g, 0, none⟩) N N N l W HL.out hN2 (.inr ⟨g6, 0, rfl, Nat.lt_of_lt_of_le m8 hW.size, NA8.out.below hW m8⟩) (.inr ⟨g, 0, rfl, hg, ha⟩)
  have HEB : Hid (∀ W g, Below w8.heap.size w8 W → g < W.heap.size → AtomsAt W g 0 l' → Calls Tryd.prog 10 #[.agg #[.slice (some ⟨g7, 0, none⟩) N' N'], .agg #[.slice (some ⟨g, 0, none⟩) N' N']] W fun e w' => e = .returned (.bool true) ∧ Below W.heap.size W w') := fun W g hW hg ha => eqValue_same (some ⟨g7, 0, none⟩) (some ⟨g, 0, none⟩) N' N' N' l' W HL'.out hN2' (.inr ⟨g7, 0, rfl, Nat.lt_of_lt_of_le m8b hW.size, NB8.out.below hW m8b⟩) (.inr ⟨g, 0, rfl, hg, ha⟩)
  have HBW : Hid (∀ W, Below w8.heap.size w8 W → Below w.heap.size w W) := fun W h => HW2.out.trans ((HC8.out.trans (h.mono HC8.out.size)).mono HW2.out.size)
  clear hb8 hx8 x8a y8a x7a y7a x7 u6
  have hne : (x8 != x8) = false := by simp
  go_wp2_with fail
  go_region_held3 (fun w' => w'.cell? ⟨w.heap.size, 0, none⟩ = some (.slice ad N cap) ∧ w'.cell? ⟨w.heap.size + 1, 0, none⟩ = some (.slice ad' N' cap') ∧ w'.cell? ⟨w6.heap.size, 0, none⟩ = some (.slice (some ⟨g6, 0, none⟩) N N) ∧ w'.cell? ⟨w7.heap.size, 0, none⟩ = some (.slice (some ⟨g7, 0, none⟩) N' N')) (first | (exact HS8.out _ HD10.out) | (exact HS8.out _ HD9.out) | (exact HS8.out _ (Below.refl w8.heap.size w8).drew) | go_keep) (first
    | (go_at_call 8; refine (HTA.out _ (Below.refl w8.heap.size w8).drew).mono ?_; rintro e w9 ⟨g9, rfl, n9, l9, hb9⟩; have NA9 := hid n9; have HD9 := hid ((Below.refl w8.heap.size w8).drew.trans hb9); clear n9 hb9)
    | (go_at_call 10; refine (HEA.out _ g9 HD9.out l9 NA9.out).mono ?_; rintro e w10 ⟨rfl, hb10⟩; have HD10 := hid (HD9.out.trans (hb10.mono HD9.out.size)); clear hb10))
  clear NA9 l9
  obtain ⟨z0, z1, z2, z3⟩ := HS8.out _ HD10.out
  go_wp2_with fail
  go_region_held3 (fun w' => w'.cell? ⟨w.heap.size, 0, none⟩ = some (.slice ad N cap) ∧ w'.cell? ⟨w.heap.size + 1, 0, none⟩ = some (.slice ad' N' cap') ∧ w'.cell? ⟨w6.heap.size, 0, none⟩ = some (.slice (some ⟨g6, 0, none⟩) N N) ∧ w'.cell? ⟨w7.heap.size, 0, none⟩ = some (.slice (some ⟨g7, 0, none⟩) N' N')) (first | (exact HS8.out _ HD12.out) | (exact HS8.out _ HD11.out) | (exact HS8.out _ HD10.out.drew) | go_keep) (first
    | (go_at_call 8; refine (HTB.out _ HD10.out.drew).mono ?_; rintro e w11 ⟨g11, rfl, n11, l11, hb11⟩; have NA11 := hid n11; have HD11 := hid (HD10.out.drew.trans (hb11.mono HD10.out.drew.size)); clear n11 hb11)
    | (go_at_call 10; refine (HEB.out _ g11 HD11.out l11 NA11.out).mono ?_; rintro e w12 ⟨rfl, hb12⟩; have HD12 := hid (HD11.out.trans (hb12.mono HD11.out.size)); clear hb12))
  go_wp2
  go_ret
  exact ⟨rfl, HBW.out _ HD12.out⟩
end Go.Proofs.YtmhcmbhhcmmakaaDoor
