import Derived.Deep.RegionHeld3
import Derived.Test.YtfookokepnnmoaaDoorJITof
import Derived.Test.YtfookokepnnmoaaDoorJSOk
import Derived.Test.YtfookokepnnmoaaDoorJUTo
namespace Go.Proofs.YtfookokepnnmoaaDoor
open Go.RowKit
set_option maxRecDepth 20000
theorem thingOf_all (b o N cap : Nat) (l : List At) (w : World) (h1 : One w) (hl : l.length = N) (hN : N ≤ 1048576) (hb : b < w.heap.size) (hn : AtomsAt w b o l) (hx : ∀ x ∈ l, x.text.size ≤ maxLen) :
    Calls Tryd.prog 19 #[.agg #[.slice (some ⟨b, o, none⟩) N cap]] w fun e w' => ThingEnd l w w' e := by
  by_cases h : N ≤ 1000
  · exact thingOf_any b o N cap l w h1 hl h hb hn hx
  · exact thingOf_big b o N cap l w hl hN (by omega)
theorem ThingEnd.valid {l : List At} {w w' : World} {e : Ending} (h : ThingEnd l w w' e) : Below w.heap.size w w' ∧ ∃ v b, e = .returned (.tuple #[v, .bool b]) ∧ (b = true ↔ ValidV l) := by
  obtain ⟨hb, ⟨t, v, h1, h2, h3, _⟩ | ⟨h1, v, h2⟩⟩ := h
  · exact ⟨hb, v, true, h3, ⟨fun _ => validV_good.2 ⟨t, h1, h2⟩, fun _ => rfl⟩⟩
  · exact ⟨hb, v, false, h2, ⟨fun h => (by cases h), fun h => absurd h h1⟩⟩
set_option maxHeartbeats 1000000 in
theorem implValue_any (b o N cap : Nat) (l : List At) (w : World) (h1 : One w) (hl : l.length = N) (hN : N ≤ 1048576) (hb : b < w.heap.size) (hn : AtomsAt w b o l) (hx : ∀ x ∈ l, x.text.size ≤ maxLen) :
    Calls Tryd.prog 13 #[.agg #[.slice (some ⟨b, o, none⟩) N cap]] w fun e w' => Says e (ValidV l) ∧ Below w.heap.size w w' := by
  have HB := hid ((Below.refl w.heap.size w).alloc (Nat.le_refl _) (.cells #[.slice (some ⟨b, o, none⟩) N cap] 25))
  have HC := hid (thingOf_all b o N cap l (w.alloc (.cells #[.slice (some ⟨b, o, none⟩) N cap] 25)) (h1.below HB.out h1.2.2) hl hN (by simp; omega) (hn.below HB.out hb) hx)
  clear h1 hl hn hx
  go_enter Tryd.func13, Tryd.ntmps13
  go_wp2_with (go_at_call 19; refine HC.out.mono ?_; rintro e w1 he; have hq := he.valid; obtain ⟨hb1, v, bb, rfl, hbb⟩ := hq; have HBB := hid hbb; have HB1 := hid (HB.out.trans (hb1.mono (by simp))); clear hb1 hbb he)
  go_ret
  exact ⟨⟨bb, rfl, HBB.out⟩, HB1.out⟩
set_option maxHeartbeats 4000000 in
theorem law_value (ad : Option Addr) (l : List At) (N cap : Nat) (w : World) (h1 : One w) (hl : l.length = N) (hN : N ≤ maxLen) (hn : AtomsA w ad l) (ht : ∀ x ∈ l, x.text.size ≤ maxLen) :
    Calls Tryd.prog 4 #[.agg #[.slice ad N cap]] w fun e w' => e = .returned (.bool true) ∧ Below w.heap.size w w' := by
  have HN := hid hn
  have HT := hid ht
  have HL := hid hl
  have HO := hid h1
  have hz := h1.2.2
  clear hn ht hl h1
  go_enter Tryd.func4, Tryd.ntmps4
  go_wp2_with fail
  have HB0 := hid (Below.refl (w.heap.size + 1) (w.alloc (.cells #[.slice ad N cap] 34)))
  have HST : Hid (∀ W W', Below (w.heap.size + 1) (w.alloc (.cells #[.slice ad N cap] 34)) W → Below W.heap.size W W' → Below (w.heap.size + 1) (w.alloc (.cells #[.slice ad N cap] 34)) W') := fun W W' h h2 => h.trans (h2.mono (by have := h.size; simpa using this))
  refine (szValue_any ad l N cap 1048576 _ HL.out (by omega) (by omega) hN (HN.out.below (btree HB0.out)) HT.out).mono ?_
  rintro e w1 ⟨⟨r, rfl, _, _, h3⟩, hb1⟩
  have HB1 := hid (HST.out _ _ HB0.out hb1)
  have t1 := tree_cell HB1.out
  clear hb1
  by_cases hr : r < 0
  · clear h3
    go_wp2
    go_ret
    exact ⟨rfl, btree HB1.out⟩
  · obtain ⟨hN2, _⟩ := h3 (by omega)
    clear h3
    go_wp2_with fail
    refine (toValue_any ad l N cap _ HL.out hN2 (HN.out.below (btree HB1.out))).mono ?_
    rintro e w2 ⟨g2, rfl, n2, l2, k2, hb2⟩
    have HB2 := hid (HST.out _ _ HB1.out hb2)
    have NA2 := hid n2
    clear hb2 n2
    go_wp2_with fail
    refine (specValue_any g2 0 N N l _ HL.out (Nat.le_refl _) ⟨hN2, by omega⟩ l2 NA2.out HT.out).mono ?_
    rintro e w3 ⟨⟨b3, rfl, hv3⟩, hb3⟩
    have HB3 := hid (HST.out _ _ HB2.out hb3)
    have t3 := tree_cell HB3.out
    have HV3 := hid hv3
    clear hb3 hv3
    go_wp2_with fail
    refine (toValue_any ad l N cap _ HL.out hN2 (HN.out.below (btree HB3.out))).mono ?_
    rintro e w4 ⟨g4, rfl, n4, l4, k4, hb4⟩
    have HB4 := hid (HST.out _ _ HB3.out hb4)
    have NA4 := hid n4
    clear hb4 n4
    go_wp2_with fail
    have HA4 := hid ((Below.refl w4.heap.size w4).alloc (Nat.le_refl _) (.cells #[.slice (some ⟨g4, 0, none⟩) N N] 25))
    have HB4a := hid (HST.out _ _ HB4.out HA4.out)
    refine (implValue_any g4 0 N N l _ (HO.out.below (btree HB4a.out) hz) HL.out hN2 (by simp; omega) (NA4.out.below HA4.out l4) HT.out).mono ?_
    rintro e w5 ⟨⟨b5, rfl, hv5⟩, hb5⟩
    have hbb : b5 = b3 := by rw [Bool.eq_iff_iff]; exact hv5.trans HV3.out.symm
    subst hbb
    have HB5 := hid (HST.out _ _ HB4a.out hb5)
    have t5 := tree_cell HB5.out
    have x5 : w5.cell? ⟨w4.heap.size, 0, none⟩ = some (.slice (some ⟨g4, 0, none⟩) N N) := by
      rw [hb5.cell (p := ⟨w4.heap.size, 0, none⟩) (by simp), cell_new_row]; rfl
    have NA5 := hid (NA4.out.below (HA4.out.trans (hb5.mono (by simp))) l4)
    have hl5 : g4 < w5.heap.size := by have := hb5.size; simp at this; omega
    have hl5b : w4.heap.size < w5.heap.size := by have := hb5.size; simp at this; omega
    clear hb5 hv5
    have hne : (b5 != b5) = false := by simp
    go_wp2_with fail
    have HS6 : Hid (∀ W, Below w5.heap.size w5 W → W.cell? ⟨w.heap.size, 0, none⟩ = some (.slice ad N cap) ∧ W.cell? ⟨w4.heap.size, 0, none⟩ = some (.slice (some ⟨g4, 0, none⟩) N N)) := fun W h => ⟨tree_cell (HST.out _ _ HB5.out h), (h.cell (p := ⟨w4.heap.size, 0, none⟩) hl5b).trans x5⟩
    go_region_held3 (fun w' => w'.cell? ⟨w.heap.size, 0, none⟩ = some (.slice ad N cap) ∧ w'.cell? ⟨w4.heap.size, 0, none⟩ = some (.slice (some ⟨g4, 0, none⟩) N N)) (first | (exact HS6.out _ HC7.out) | (exact HS6.out _ HC6.out) | go_keep) (first
      | (go_at_call 12; refine (toValue_any ad l N cap _ HL.out hN2 (HN.out.below (btree HB5.out).drew)).mono ?_; rintro e w6 ⟨g6, rfl, n6, l6, k6, hb6⟩; have NA6 := hid n6; have HC6 := hid ((Below.refl w5.heap.size w5).drew.trans hb6); clear n6 hb6)
      | (go_at_call 14; refine (eqValue_same (some ⟨g4, 0, none⟩) (some ⟨g6, 0, none⟩) N N N l _ HL.out hN2 (.inr ⟨g4, 0, rfl, Nat.lt_of_lt_of_le hl5 HC6.out.size, NA5.out.below HC6.out hl5⟩) (.inr ⟨g6, 0, rfl, l6, NA6.out⟩)).mono ?_; rintro e w7 ⟨rfl, hb7⟩; have HC7 := hid (HC6.out.trans (hb7.mono HC6.out.size)); clear hb7))
    have HB7 := hid (HST.out _ _ HB5.out HC7.out)
    go_wp2
    go_ret
    exact ⟨rfl, btree HB7.out⟩
end Go.Proofs.YtfookokepnnmoaaDoor
