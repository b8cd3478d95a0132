import Derived.Deep.RegionHeld3
import Derived.Test.YtkngjbpbjjoneaaGreatDoorJ49
import Derived.Test.YtkngjbpbjjoneaaGreatDoorJ24
/-! The law. Cut out of milltree's QLaw. -/
namespace Go.Proofs.YtkngjbpbjjoneaaGreatDoor.Q
open Go.RowKit Go.Shelf
set_option maxRecDepth 20000
set_option maxHeartbeats 4000000 in
theorem lawP_any (ad : Option Addr) (N cap : Nat) (nd : Nat → Nd) (w : World) (he : EnvB w) (hep : EnvP w) (hN : N ≤ maxLen) (hn : NodesA w ad N nd) (ht : ∀ i, i < N → (nd i).text.size ≤ maxLen) :
    Calls Tryz.prog 3 #[.agg #[.slice ad N cap]] w fun e w' => e = .returned (.bool true) ∧ Below w.heap.size w w' := by
  have HN := hid hn
  have HT := hid ht
  have HE := hid he
  have HEP := hid hep
  have h8 := hep.sz
  clear hn ht he hep
  go_enter Tryz.func3, Tryz.ntmps3
  go_wp2_with fail
  have HB0 := hid (Below.refl (w.heap.size + 1) (w.alloc (.cells #[.slice ad N cap] 24)))
  have HST : Hid (∀ W W', Below (w.heap.size + 1) (w.alloc (.cells #[.slice ad N cap] 24)) W → Below W.heap.size W W' → Below (w.heap.size + 1) (w.alloc (.cells #[.slice ad N cap] 24)) W') := fun W W' h h2 => h.trans (h2.mono (by have := h.size; simpa using this))
  refine (szTree_any ad N cap nd _ hN (HN.out.below (btree HB0.out)) HT.out).mono ?_
  rintro e w1 ⟨⟨r, rfl, h3⟩, hb1⟩
  have HB1 := hid (HST.out _ _ HB0.out hb1)
  have t1 := tree_cell HB1.out
  clear hb1
  by_cases hr : r < 0
  · clear h3
    go_wp2
    go_ret
    exact ⟨rfl, btree HB1.out⟩
  · obtain ⟨hN2, _⟩ := h3 (by omega)
    clear h3
    go_wp2_with fail
    refine (toTree_any ad N cap nd _ hN2 (HN.out.below (btree HB1.out))).mono ?_
    rintro e w2 ⟨g2, rfl, n2, l2, k2, hb2⟩
    have HB2 := hid (HST.out _ _ HB1.out hb2)
    have NA2 := hid n2
    clear hb2 n2
    go_wp2_with fail
    refine (specPrint_all g2 N N nd _ hN2 l2 NA2.out HT.out).mono ?_
    rintro e w3 ⟨⟨b3, rfl, hv3⟩, hb3⟩
    have HB3 := hid (HST.out _ _ HB2.out hb3)
    have t3 := tree_cell HB3.out
    have HV3 := hid hv3
    clear hb3 hv3
    go_wp2_with fail
    refine (toTree_any ad N cap nd _ hN2 (HN.out.below (btree HB3.out))).mono ?_
    rintro e w4 ⟨g4, rfl, n4, l4, k4, hb4⟩
    have HB4 := hid (HST.out _ _ HB3.out hb4)
    have NA4 := hid n4
    clear hb4 n4
    go_wp2_with fail
    have HA4 := hid ((Below.refl w4.heap.size w4).alloc (Nat.le_refl _) (.cells #[.slice (some ⟨g4, 0, none⟩) N N] 29))
    have HB4a := hid (HST.out _ _ HB4.out HA4.out)
    refine (implPrint_all g4 N N nd _ (HE.out.below (btree HB4a.out)) (HEP.out.below ((btree HB4a.out).mono h8)) hN2 (by simp; omega) (NA4.out.below HA4.out l4) HT.out).mono ?_
    rintro e w5 ⟨⟨b5, rfl, hv5⟩, hb5⟩
    have hbb : b5 = b3 := by
      by_cases hV : ValidT nd N
      · exact (hv5.2 hV).trans (HV3.out.2 hV).symm
      · exact (hv5.1 hV).trans (HV3.out.1 hV).symm
    subst hbb
    have HB5 := hid (HST.out _ _ HB4a.out hb5)
    have t5 := tree_cell HB5.out
    have x5 : w5.cell? ⟨w4.heap.size, 0, none⟩ = some (.slice (some ⟨g4, 0, none⟩) N N) := by
      rw [hb5.cell (p := ⟨w4.heap.size, 0, none⟩) (by simp), cell_new_row]; rfl
    have NA5 := hid (NA4.out.below (HA4.out.trans (hb5.mono (by simp))) l4)
    have hl5 : g4 < w5.heap.size := by have := hb5.size; simp at this; omega
    have hl5b : w4.heap.size < w5.heap.size := by have := hb5.size; simp at this; omega
    clear hb5 hv5
    go_wp2_with fail
    have HS6 : Hid (∀ W, Below w5.heap.size w5 W → W.cell? ⟨w.heap.size, 0, none⟩ = some (.slice ad N cap) ∧ W.cell? ⟨w4.heap.size, 0, none⟩ = some (.slice (some ⟨g4, 0, none⟩) N N)) := fun W h => ⟨tree_cell (HST.out _ _ HB5.out h), (h.cell (p := ⟨w4.heap.size, 0, none⟩) hl5b).trans x5⟩
    go_region_held3 (fun w' => w'.cell? ⟨w.heap.size, 0, none⟩ = some (.slice ad N cap) ∧ w'.cell? ⟨w4.heap.size, 0, none⟩ = some (.slice (some ⟨g4, 0, none⟩) N N)) (first | (exact HS6.out _ HC7.out) | (exact HS6.out _ HC6.out) | go_keep) (first
      | (go_at_call 6; refine (toTree_any ad N cap nd _ hN2 (HN.out.below (btree HB5.out).drew)).mono ?_; rintro e w6 ⟨g6, rfl, n6, l6, k6, hb6⟩; have NA6 := hid n6; have HC6 := hid ((Below.refl w5.heap.size w5).drew.trans hb6); clear n6 hb6)
      | (go_at_call 8; refine (eqTree_same g4 g6 N nd _ hN2 (Nat.lt_of_lt_of_le hl5 HC6.out.size) l6 (NA5.out.below HC6.out hl5) NA6.out).mono ?_; rintro e w7 ⟨rfl, hb7⟩; have HC7 := hid (HC6.out.trans (hb7.mono HC6.out.size)); clear hb7))
    have HB7 := hid (HST.out _ _ HB5.out HC7.out)
    go_wp2
    go_ret
    exact ⟨rfl, btree HB7.out⟩
end Go.Proofs.YtkngjbpbjjoneaaGreatDoor.Q
