import Derived.Test.YtmhcmbhhcmmakaaDoorOSpec
namespace Go.Proofs.YtmhcmbhhcmmakaaDoor
open Go.RowKit
set_option maxRecDepth 20000
/-- What the order of two rows of atoms is. -/
def OrdV (l l' : List At) (x : Int) : Prop := (¬ (ValidV l ∧ ValidV l') ∧ x = 0) ∨ ∃ t t', l = flat t ∧ l' = flat t' ∧ ValidV l ∧ ValidV l' ∧ x = ord t t'
set_option maxHeartbeats 2000000 in
theorem specOrder_any (b o N cap b' o' N' cap' : Nat) (l l' : List At) (w : World) (hl : l.length = N) (hl' : l'.length = N') (hcap : N ≤ cap) (hcm : cap ≤ 1048576) (hcap' : N' ≤ cap') (hcm' : cap' ≤ 1048576) (hb : b < w.heap.size) (hb' : b' < w.heap.size) (hn : AtomsAt w b o l) (hn' : AtomsAt w b' o' l') (hx : ∀ x ∈ l, x.text.size ≤ maxLen) (hx' : ∀ x ∈ l', x.text.size ≤ maxLen) :
    Calls Tryd.prog 11 #[.agg #[.slice (some ⟨b, o, none⟩) N cap], .agg #[.slice (some ⟨b', o', none⟩) N' cap']] w fun e w' => (∃ x, e = .returned (.int .i64 x) ∧ OrdV l l' x) ∧ Below w.heap.size w w' := by
  have HB0 := hid (below_two' w (.cells #[.slice (some ⟨b, o, none⟩) N cap] 29) (.cells #[.slice (some ⟨b', o', none⟩) N' cap'] 29))
  have HC1 : Hid (∀ W, Below w.heap.size w W → Calls Tryd.prog 7 #[.agg #[.slice (some ⟨b, o, none⟩) N cap]] W fun e w' => Says e (ValidV l) ∧ Below W.heap.size W w') := fun W hW => specValue_any b o N cap l W hl hcap hcm (by have := hW.size; omega) (hn.below hW hb) hx
  have HC2 : Hid (∀ W, Below w.heap.size w W → Calls Tryd.prog 7 #[.agg #[.slice (some ⟨b', o', none⟩) N' cap']] W fun e w' => Says e (ValidV l') ∧ Below W.heap.size W w') := fun W hW => specValue_any b' o' N' cap' l' W hl' hcap' hcm' (by have := hW.size; omega) (hn'.below hW hb') hx'
  have HC3 : Hid (∀ t t', l = flat t → l' = flat t' → OkT t → OkT t' → ∀ W, Below w.heap.size w W → Calls Tryd.prog 22 #[.agg #[.slice (some ⟨b, o, none⟩) N cap], .agg #[.slice (some ⟨b', o', none⟩) N' cap']] W fun e w' => e = .returned (.int .i64 (ord t t')) ∧ Below W.heap.size W w') := fun t t' h1 h2 h3 h4 W hW => l5Order_any N b o N cap b' o' N' cap' t t' W (Nat.le_refl _) (by rw [← h1]; exact hl) (by rw [← h2]; exact hl') hcap hcm hcap' hcm' (by have := hW.size; omega) (by have := hW.size; omega) (by rw [← h1]; exact hn.below hW hb) (by rw [← h2]; exact hn'.below hW hb') h3 h4
  have HBX : Hid (∀ W, Below (w.heap.size + 1 + 1) ((w.alloc (.cells #[.slice (some ⟨b, o, none⟩) N cap] 29)).alloc (.cells #[.slice (some ⟨b', o', none⟩) N' cap'] 29)) W → W.cell? ⟨w.heap.size, 0, none⟩ = some (.slice (some ⟨b, o, none⟩) N cap) ∧ W.cell? ⟨w.heap.size + 1, 0, none⟩ = some (.slice (some ⟨b', o', none⟩) N' cap') ∧ Below w.heap.size w W) := fun W hW => by
    refine ⟨?_, ?_, HB0.out.trans (hW.mono (by omega))⟩
    · rw [hW.cell (p := ⟨w.heap.size, 0, none⟩) (by show w.heap.size < w.heap.size + 1 + 1; omega), ((Below.refl (w.heap.size + 1) (w.alloc (.cells #[.slice (some ⟨b, o, none⟩) N cap] 29))).alloc (by simp) _).cell (p := ⟨w.heap.size, 0, none⟩) (Nat.lt_succ_self _), cell_new_row]; rfl
    · have h := cell_new_row (w.alloc (.cells #[.slice (some ⟨b, o, none⟩) N cap] 29)) #[.slice (some ⟨b', o', none⟩) N' cap'] 29 0
      rw [World.size_alloc] at h
      rw [hW.cell (p := ⟨w.heap.size + 1, 0, none⟩) (Nat.lt_succ_self _)]
      exact h
  have HBR := hid (Below.refl (w.heap.size + 1 + 1) ((w.alloc (.cells #[.slice (some ⟨b, o, none⟩) N cap] 29)).alloc (.cells #[.slice (some ⟨b', o', none⟩) N' cap'] 29)))
  clear hn hn' hx hx' hl hl'
  have HPV : Hid (¬ ValidV l → OrdV l l' 0) := fun h => .inl ⟨fun h2 => h h2.1, rfl⟩
  have HPW : Hid (¬ ValidV l' → OrdV l l' 0) := fun h => .inl ⟨fun h2 => h h2.2, rfl⟩
  have HPO : Hid (∀ t t', l = flat t → l' = flat t' → ValidV l → ValidV l' → OrdV l l' (ord t t')) := fun t t' h1 h2 h3 h4 => .inr ⟨t, t', h1, h2, h3, h4, rfl⟩
  by_cases hv : ValidV l
  · by_cases hv' : ValidV l'
    · obtain ⟨t, e1, k1, _⟩ := hv.2
      obtain ⟨t', e2, k2, _⟩ := hv'.2
      have HX := hid (HPO.out t t' e1 e2 hv hv')
      have HC4 := hid (HC3.out t t' e1 e2 k1 k2)
      clear e1 e2 k1 k2
      go_enter Tryd.func11, Tryd.ntmps11
      go_wp2_with fail
      refine (HC1.out _ HB0.out).mono ?_
      rintro e w1 ⟨hs, hb1⟩
      obtain rfl := hs.pos hv
      have HB1 := hid (HBR.out.trans (hb1.mono (by simp)))
      obtain ⟨p0, p1, hw1⟩ := HBX.out _ HB1.out
      have HW1 := hid hw1
      clear hs hb1 hw1
      go_wp2_with fail
      refine (HC2.out _ HW1.out).mono ?_
      rintro e w2 ⟨hs, hb2⟩
      obtain rfl := hs.pos hv'
      have HB2 := hid (HB1.out.trans (hb2.mono (by simpa using HB1.out.size)))
      obtain ⟨q0, q1, hw2⟩ := HBX.out _ HB2.out
      have HW2 := hid hw2
      clear hs hb2 hw2
      go_wp2_with fail
      refine (HC4.out _ HW2.out).mono ?_
      rintro e w3 ⟨rfl, hb3⟩
      have HB3 := hid (HW2.out.trans (hb3.mono HW2.out.size))
      clear hb3
      go_wp2
      go_ret
      exact ⟨⟨_, rfl, HX.out⟩, HB3.out⟩
    · have HX := hid (HPW.out hv')
      go_enter Tryd.func11, Tryd.ntmps11
      go_wp2_with fail
      refine (HC1.out _ HB0.out).mono ?_
      rintro e w1 ⟨hs, hb1⟩
      obtain rfl := hs.pos hv
      have HB1 := hid (HBR.out.trans (hb1.mono (by simp)))
      obtain ⟨p0, p1, hw1⟩ := HBX.out _ HB1.out
      have HW1 := hid hw1
      clear hs hb1 hw1
      go_wp2_with fail
      refine (HC2.out _ HW1.out).mono ?_
      rintro e w2 ⟨hs, hb2⟩
      obtain rfl := hs.neg hv'
      have HB2 := hid (HB1.out.trans (hb2.mono (by simpa using HB1.out.size)))
      obtain ⟨q0, q1, hw2⟩ := HBX.out _ HB2.out
      have HW2 := hid hw2
      clear hs hb2 hw2
      go_wp2
      go_ret
      exact ⟨⟨_, rfl, HX.out⟩, HW2.out⟩
  · have HX := hid (HPV.out hv)
    go_enter Tryd.func11, Tryd.ntmps11
    go_wp2_with fail
    refine (HC1.out _ HB0.out).mono ?_
    rintro e w1 ⟨hs, hb1⟩
    obtain rfl := hs.neg hv
    have HB1 := hid (HBR.out.trans (hb1.mono (by simp)))
    obtain ⟨p0, p1, hw1⟩ := HBX.out _ HB1.out
    have HW1 := hid hw1
    clear hs hb1 hw1
    go_wp2
    go_ret
    exact ⟨⟨_, rfl, HX.out⟩, HW1.out⟩
end Go.Proofs.YtmhcmbhhcmmakaaDoor
