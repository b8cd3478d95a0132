import Derived.Test.YtmhcmbhhcmmakaaDoorOImp
namespace Go.Proofs.YtmhcmbhhcmmakaaDoor
open Go.RowKit
set_option maxRecDepth 20000
theorem OrdV.invalid {l l' : List At} (h : ¬ ValidV l ∨ ¬ ValidV l') : OrdV l l' 0 := .inl ⟨fun h2 => h.elim (fun h => h h2.1) (fun h => h h2.2), rfl⟩
theorem OrdV.uniq {l l' : List At} {x y : Int} (h : OrdV l l' x) (h' : OrdV l l' y) : x = y := by
  rcases h with ⟨h1, rfl⟩ | ⟨t, t', h1, h2, h3, h4, rfl⟩ <;> rcases h' with ⟨k1, rfl⟩ | ⟨u, u', k1, k2, k3, k4, rfl⟩
  · rfl
  · exact absurd ⟨k3, k4⟩ h1
  · exact absurd ⟨h3, h4⟩ k1
  · rw [flat_inj (h1.symm.trans k1), flat_inj (h2.symm.trans k2)]
set_option maxHeartbeats 2000000 in
theorem implOrder_any (b o N cap b' o' N' cap' : Nat) (l l' : List At) (w : World) (h1 : One w) (hl : l.length = N) (hl' : l'.length = N') (hN : N ≤ 1048576) (hN' : N' ≤ 1048576) (hb : b < w.heap.size) (hb' : b' < w.heap.size) (hn : AtomsAt w b o l) (hn' : AtomsAt w b' o' l') (hx : ∀ x ∈ l, x.text.size ≤ maxLen) (hx' : ∀ x ∈ l', x.text.size ≤ maxLen) :
    Calls Tryd.prog 12 #[.agg #[.slice (some ⟨b, o, none⟩) N cap], .agg #[.slice (some ⟨b', o', none⟩) N' cap']] w fun e w' => (∃ x, e = .returned (.int .i64 x) ∧ OrdV l l' x) ∧ Below w.heap.size w w' := by
  have HB0 := hid (below_two' w (.cells #[.slice (some ⟨b, o, none⟩) N cap] 29) (.cells #[.slice (some ⟨b', o', none⟩) N' cap'] 29))
  have HC1 : Hid (∀ W, Below w.heap.size w W → Calls Tryd.prog 20 #[.agg #[.slice (some ⟨b, o, none⟩) N cap]] W fun e w' => ThingEnd l W w' e) := fun W hW => thingOf_all b o N cap l W (h1.below hW h1.2.2) hl hN (by have := hW.size; omega) (hn.below hW hb) hx
  have HC2 : Hid (∀ W, Below w.heap.size w W → Calls Tryd.prog 20 #[.agg #[.slice (some ⟨b', o', none⟩) N' cap']] W fun e w' => ThingEnd l' W w' e) := fun W hW => thingOf_all b' o' N' cap' l' W (h1.below hW h1.2.2) hl' hN' (by have := hW.size; omega) (hn'.below hW hb') hx'
  have HBX : Hid (∀ W, Below (w.heap.size + 1 + 1) ((w.alloc (.cells #[.slice (some ⟨b, o, none⟩) N cap] 29)).alloc (.cells #[.slice (some ⟨b', o', none⟩) N' cap'] 29)) W → W.cell? ⟨w.heap.size, 0, none⟩ = some (.slice (some ⟨b, o, none⟩) N cap) ∧ W.cell? ⟨w.heap.size + 1, 0, none⟩ = some (.slice (some ⟨b', o', none⟩) N' cap') ∧ Below w.heap.size w W) := fun W hW => by
    refine ⟨?_, ?_, HB0.out.trans (hW.mono (by omega))⟩
    · rw [hW.cell (p := ⟨w.heap.size, 0, none⟩) (by show w.heap.size < w.heap.size + 1 + 1; omega), ((Below.refl (w.heap.size + 1) (w.alloc (.cells #[.slice (some ⟨b, o, none⟩) N cap] 29))).alloc (by simp) _).cell (p := ⟨w.heap.size, 0, none⟩) (Nat.lt_succ_self _), cell_new_row]; rfl
    · have h := cell_new_row (w.alloc (.cells #[.slice (some ⟨b, o, none⟩) N cap] 29)) #[.slice (some ⟨b', o', none⟩) N' cap'] 29 0
      rw [World.size_alloc] at h
      rw [hW.cell (p := ⟨w.heap.size + 1, 0, none⟩) (Nat.lt_succ_self _)]
      exact h
  have HBR := hid (Below.refl (w.heap.size + 1 + 1) ((w.alloc (.cells #[.slice (some ⟨b, o, none⟩) N cap] 29)).alloc (.cells #[.slice (some ⟨b', o', none⟩) N' cap'] 29)))
  clear hn hn' hx hx' hl hl' h1
  go_enter Tryd.func12, Tryd.ntmps12
  go_wp2_with fail
  refine (HC1.out _ HB0.out).mono ?_
  rintro e w1 ⟨hb1, ⟨t, v, e1, g1, rfl, th1⟩ | ⟨hno, v, rfl⟩⟩
  · have HB1 := hid (HBR.out.trans (hb1.mono (by simp)))
    obtain ⟨p0, p1, hw1⟩ := HBX.out _ HB1.out
    have HW1 := hid hw1
    have HE1 := hid (And.intro e1 g1)
    have HT1 := hid th1
    clear hb1 hw1 e1 g1 th1
    go_wp2_with fail
    refine (HC2.out _ HW1.out).mono ?_
    rintro e w2 ⟨hb2, ⟨t', v', e2, g2, rfl, th2⟩ | ⟨hno, v', rfl⟩⟩
    · have HW2 := hid (HW1.out.trans (hb2.mono HW1.out.size))
      have HC3 := hid (order_any (flat t).length _ _ t t' v v' w2 (Nat.le_refl _) HE1.out.2 g2 (isTh_below HT1.out hb2) th2)
      have HX : Hid (OrdV l l' (ord t t')) := .inr ⟨t, t', HE1.out.1, e2, validV_good.2 ⟨t, HE1.out.1, HE1.out.2⟩, validV_good.2 ⟨t', e2, g2⟩, rfl⟩
      clear hb2 e2 g2 th2
      go_wp2_with fail
      refine HC3.out.mono ?_
      rintro e w3 ⟨rfl, hb3⟩
      have HW3 := hid (HW2.out.trans (hb3.mono HW2.out.size))
      clear hb3
      go_wp2
      go_ret
      exact ⟨⟨_, rfl, HX.out⟩, HW3.out⟩
    · have HW2 := hid (HW1.out.trans (hb2.mono HW1.out.size))
      have HX := hid (OrdV.invalid (l := l) (l' := l') (.inr hno))
      clear hb2 hno
      go_wp2
      go_ret
      exact ⟨⟨_, rfl, HX.out⟩, HW2.out⟩
  · have HW1 := hid (HB0.out.trans (hb1.mono HB0.out.size))
    have HX := hid (OrdV.invalid (l := l) (l' := l') (.inl hno))
    clear hb1 hno
    go_wp2
    go_ret
    exact ⟨⟨_, rfl, HX.out⟩, HW1.out⟩
end Go.Proofs.YtmhcmbhhcmmakaaDoor
