import Derived.Deep.RegionHeld3
import Derived.Test.YtpobfklbbkdglaaDoorJMany
namespace Go.Proofs.YtpobfklbbkdglaaDoor
open Go.RowKit
set_option maxRecDepth 20000
set_option maxHeartbeats 4000000 in
theorem law_binds (ad : Option Addr) (N cap : Nat) (nd : Nat → Nd) (w : World) (hN : N ≤ maxLen) (hn : NodesA w ad N nd) (ht : ∀ i, i < N → (nd i).text.size ≤ maxLen) (hE : BEnv w) :
    Calls Tryd.prog 4 #[.agg #[.slice ad N cap]] w fun e w' => e = .returned (.bool true) ∧ Below w.heap.size w w' := by
  have HN := hid hn
  have HT := hid ht
  have HE := hid hE
  clear hn ht hE
  go_enter Tryd.func4, Tryd.ntmps4
  go_wp2_with fail
  have HB0 := hid (Below.refl (w.heap.size + 1) (w.alloc (.cells #[.slice ad N cap] 24)))
  have HST : Hid (∀ W W', Below (w.heap.size + 1) (w.alloc (.cells #[.slice ad N cap] 24)) W → Below W.heap.size W W' → Below (w.heap.size + 1) (w.alloc (.cells #[.slice ad N cap] 24)) W') := fun W W' h h2 => h.trans (h2.mono (by have := h.size; simpa using this))
  have HSZ : Hid (∀ W, Below (w.heap.size + 1) (w.alloc (.cells #[.slice ad N cap] 24)) W → w.heap.size + 1 ≤ W.heap.size) := fun W h => by have := h.size; simpa using this
  refine (szTree_any ad N cap nd _ hN (HN.out.below (btree HB0.out)) HT.out).mono ?_
  rintro e w1 ⟨⟨r, rfl, h3⟩, hb1⟩
  have HB1 := hid (HST.out _ _ HB0.out hb1)
  have t1 := tree_cell HB1.out
  clear hb1
  by_cases hr : r < 0
  · clear h3
    go_wp2
    go_ret
    exact ⟨rfl, btree HB1.out⟩
  · obtain ⟨hN2, _⟩ := h3 (by omega)
    clear h3
    go_wp2_with fail
    refine (toTree_any ad N cap nd _ hN2 (HN.out.below (btree HB1.out))).mono ?_
    rintro e w2 ⟨g2, rfl, n2, l2, k2, hb2⟩
    have HB2 := hid (HST.out _ _ HB1.out hb2)
    have NA2 := hid n2
    clear hb2 n2
    go_wp2_with fail
    refine (specBinds_any g2 N N nd _ hN2 l2 NA2.out HT.out).mono ?_
    rintro e w3 ⟨⟨a3, M, c3, bn, rfl, hi3, hp3, hM, _⟩, hb3⟩
    have HP := hid hp3
    have HI3 := hid hi3
    have HB3 := hid (HST.out _ _ HB2.out hb3)
    have hs3 := HSZ.out _ HB3.out
    have t3 := tree_cell HB3.out
    have hM2 : M ≤ 1048576 := by omega
    clear hb3 hi3 hp3
    go_wp2_with fail
    refine (toTreeX_any ad N cap nd _ hN2 (HN.out.below (btree HB3.out))).mono ?_
    rintro e w4 ⟨g4, rfl, n4, l4, k4, hb4⟩
    have HB4 := hid (HST.out _ _ HB3.out hb4)
    have NA4 := hid n4
    have HI4 := hid (HI3.out.next hb4)
    have HL3 : Hid (M ≠ 0 → ∀ g, a3 = some ⟨g, 0, none⟩ → g < w3.heap.size) := HI3.out.lt
    clear hb4 n4 t3
    go_wp2_with fail
    have HA4 := hid ((Below.refl w4.heap.size w4).alloc (Nat.le_refl _) (.cells #[.slice (some ⟨g4, 0, none⟩) N N] 31))
    have HB4a := hid (HST.out _ _ HB4.out HA4.out)
    refine (implBinds_any g4 N N nd _ hN2 (by simp; omega) (NA4.out.2.below HA4.out l4) HT.out (HE.out.below (btree HB4a.out) HE.out.pos)).mono ?_
    rintro e w5 ⟨⟨a5, M5, bn5, rfl, hi5, hp5, hg5, _⟩, hb5⟩
    obtain ⟨rfl, hbn⟩ := hp5.unique HP.out
    have HI5 : Hid (IntsA w5 a5 M5 bn) := by
      by_cases h0 : M5 = 0
      · exact .inl h0
      · rw [← hbn h0]; exact hi5
    have HG5 : Hid (M5 ≠ 0 → ∀ g, a5 = some ⟨g, 0, none⟩ → w4.heap.size ≤ g) := fun h0 g e => by
      obtain ⟨g', e', h2⟩ := hg5 h0
      rw [e] at e'
      injection e' with e'
      injection e' with e'
      subst e'
      simp at h2
      omega
    have HB5 := hid (HST.out _ _ HB4a.out hb5)
    have HC5 := hid (HA4.out.trans (hb5.mono (by simp)))
    have HX5 : Hid (w5.cell? ⟨w4.heap.size, 0, none⟩ = some (.slice (some ⟨g4, 0, none⟩) N N)) := by
      show _ = _
      rw [hb5.cell (p := ⟨w4.heap.size, 0, none⟩) (by simp), cell_new_row]; rfl
    have HJ5 := hid (HI4.out.next HC5.out)
    have NA5 := hid (NA4.out.next HC5.out)
    clear hb5 hi5 hp5 hg5 hbn
    go_wp2_with fail
    refine (eqInts_any _ _ hM2 HI5.out HJ5.out).mono ?_
    rintro e w6 ⟨rfl, hb6⟩
    have HB6 := hid (HST.out _ _ HB5.out hb6)
    have t6 := tree_cell HB6.out
    have x6 : w6.cell? ⟨w4.heap.size, 0, none⟩ = some (.slice (some ⟨g4, 0, none⟩) N N) := (hb6.cell (p := ⟨w4.heap.size, 0, none⟩) (World.block_lt_of_cell? _ _ HX5.out)).trans HX5.out
    have hx6 : w4.heap.size < w6.heap.size := World.block_lt_of_cell? _ _ x6
    have HI6 := hid (HI5.out.next hb6)
    have HJ6 := hid (HJ5.out.next hb6)
    have NA6 := hid (NA5.out.next hb6)
    have hl6 : g4 < w6.heap.size := by omega
    clear hb6
    go_wp2_with fail
    have HS6 : Hid (∀ W, Below w6.heap.size w6 W → W.cell? ⟨w.heap.size, 0, none⟩ = some (.slice ad N cap) ∧ W.cell? ⟨w4.heap.size, 0, none⟩ = some (.slice (some ⟨g4, 0, none⟩) N N)) := fun W h => ⟨tree_cell (HST.out _ _ HB6.out h), (h.cell (p := ⟨w4.heap.size, 0, none⟩) hx6).trans x6⟩
    go_region_held3 (fun w' => w'.cell? ⟨w.heap.size, 0, none⟩ = some (.slice ad N cap) ∧ w'.cell? ⟨w4.heap.size, 0, none⟩ = some (.slice (some ⟨g4, 0, none⟩) N N)) (first | (exact HS6.out _ HC8.out) | (exact HS6.out _ HC7.out) | go_keep) (first
      | (go_at_call 9; refine (toTree_any ad N cap nd _ hN2 (HN.out.below (btree HB6.out).drew)).mono ?_; rintro e w7 ⟨g7, rfl, n7, l7, k7, hb7⟩; have NA7 := hid n7; have HC7 := hid ((Below.refl w6.heap.size w6).drew.trans hb7); clear n7 hb7)
      | (go_at_call 12; refine (eqTree_same g4 g7 N nd _ hN2 (Nat.lt_of_lt_of_le hl6 HC7.out.size) l7 (NA6.out.2.below HC7.out hl6) NA7.out).mono ?_; rintro e w8 ⟨rfl, hb8⟩; have HC8 := hid (HC7.out.trans (hb8.mono HC7.out.size)); clear hb8))
    have HB8 := hid (HST.out _ _ HB6.out HC8.out)
    have HI8 := hid (HI6.out.next HC8.out)
    have HJ8 := hid (HJ6.out.next HC8.out)
    have NA8 := hid (NA6.out.next HC8.out)
    have x8 := (HS6.out _ HC8.out).2
    clear t6 x6
    go_wp2_with fail
    refine (markTree_any g4 N N nd _ hN2 NA8.out).mono ?_
    rintro e w9 ⟨rfl, hsv9, _⟩
    have HB9 := hid (HB8.out.trans (hsv9.below (HSZ.out _ HB8.out) (fun k e => by omega)))
    have HI9 := hid (HI8.out.sv2 hsv9 (fun h0 g e => by have := HG5.out h0 g e; omega))
    have HJ9 := hid (HJ8.out.sv2 hsv9 (fun h0 g e => by have := HL3.out h0 g e; omega))
    clear hsv9 x8
    go_wp2_with fail
    refine (eqInts_any _ _ hM2 HI9.out HJ9.out).mono ?_
    rintro e w10 ⟨rfl, hb10⟩
    have HB10 := hid (HST.out _ _ HB9.out hb10)
    have HI10 := hid (HI9.out.next hb10)
    have HJ10 := hid (HJ9.out.next hb10)
    clear hb10
    go_wp2_with fail
    refine (markInts_any _ hM2 HI10.out).mono ?_
    rintro e w11 ⟨rfl, hsv11, hi11⟩
    have HB11 := hid (HB10.out.trans (hsv11.below (HSZ.out _ HB10.out) (fun k e => by have := HG5.out e.1 k e.2; omega)))
    have HI11 := hid hi11
    have HJ11 := hid (HJ10.out.sv2 hsv11 (fun h0 g e e2 => by have := HL3.out h0 g e; have := HG5.out h0 g e2.2; omega))
    clear hsv11 hi11
    go_wp2_with fail
    refine (heldInts_any _ hM2 HI11.out).mono ?_
    rintro e w12 ⟨rfl, hb12⟩
    have HB12 := hid (HST.out _ _ HB11.out hb12)
    have HI12 := hid (HI11.out.next hb12)
    have HJ12 := hid (HJ11.out.next hb12)
    have t12 := tree_cell HB12.out
    clear hb12
    go_wp2_with fail
    refine (toTree_any ad N cap nd _ hN2 (HN.out.below (btree HB12.out))).mono ?_
    rintro e w13 ⟨g13, rfl, n13, l13, k13, hb13⟩
    have HB13 := hid (HST.out _ _ HB12.out hb13)
    have HI13 := hid (HI12.out.next hb13)
    have HJ13 := hid (HJ12.out.next hb13)
    have NA13 := hid n13
    clear hb13 n13 t12
    go_wp2_with fail
    refine (implBinds_any g13 N N nd _ hN2 l13 NA13.out HT.out (HE.out.below (btree HB13.out) HE.out.pos)).mono ?_
    rintro e w14 ⟨⟨a14, M14, bn14, rfl, hi14, hp14, _, _⟩, hb14⟩
    obtain ⟨rfl, hbn⟩ := hp14.unique HP.out
    have HK14 : Hid (IntsA w14 a14 M14 bn) := by
      by_cases h0 : M14 = 0
      · exact .inl h0
      · rw [← hbn h0]; exact hi14
    have HB14 := hid (HST.out _ _ HB13.out hb14)
    have HI14 := hid (HI13.out.next hb14)
    have HJ14 := hid (HJ13.out.next hb14)
    clear hb14 hi14 hp14 hbn
    go_wp2_with fail
    refine (eqInts_any _ _ hM2 HK14.out HJ14.out).mono ?_
    rintro e w15 ⟨rfl, hb15⟩
    have HB15 := hid (HST.out _ _ HB14.out hb15)
    have HI15 := hid (HI14.out.next hb15)
    clear hb15
    go_wp2_with fail
    refine (heldInts_any _ hM2 HI15.out).mono ?_
    rintro e w16 ⟨rfl, hb16⟩
    have HB16 := hid (HST.out _ _ HB15.out hb16)
    clear hb16
    go_wp2
    go_ret
    exact ⟨rfl, btree HB16.out⟩
end Go.Proofs.YtpobfklbbkdglaaDoor
