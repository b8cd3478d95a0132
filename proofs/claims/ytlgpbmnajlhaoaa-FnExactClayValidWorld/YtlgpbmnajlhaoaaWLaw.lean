import Derived.Test.YtlgpbmnajlhaoaaWS
import Derived.Test.YtlgpbmnajlhaoaaWI
import Derived.Test.YtlgpbmnajlhaoaaWW
import Derived.Deep.RegionHeld3
namespace Go.Proofs.Ytlgpbmnajlhaoaa
open Go.RowKit
set_option maxRecDepth 20000
set_option maxHeartbeats 4000000 in
theorem law_any (ad an : Option Addr) (N M c1 c2 : Nat) (f : Nat → Fl) (s : Nat → ByteArray) (w : World) (hN : N ≤ maxLen) (hM : M ≤ maxLen) (hF : FilesA w ad N f) (hS : TextsA w an M s) (hx : ∀ i, i < N → (f i).name.size ≤ maxLen ∧ (f i).text.size ≤ maxLen) (hy : ∀ i, i < M → (s i).size ≤ maxLen) :
    Calls Try.prog 3 #[.agg #[.slice ad N c1, .slice an M c2]] w fun e w' => e = .returned (.bool true) ∧ Below w.heap.size w w' := by
  have HF := hid hF
  have HS := hid hS
  have HX := hid hx
  have HY := hid hy
  clear hF hS hx hy
  go_enter Try.func3, Try.ntmps3
  go_wp2_with fail
  have HB0 := hid (Below.refl (w.heap.size + 1) (w.alloc (.cells #[.slice ad N c1, .slice an M c2] 25)))
  have HST : Hid (∀ W W', Below (w.heap.size + 1) (w.alloc (.cells #[.slice ad N c1, .slice an M c2] 25)) W → Below W.heap.size W W' → Below (w.heap.size + 1) (w.alloc (.cells #[.slice ad N c1, .slice an M c2] 25)) W') := fun W W' h h2 => h.trans (h2.mono (by have := h.size; simpa using this))
  refine (szWorld_any ad an N M c1 c2 f s _ hN hM (HF.out.below (btwo HB0.out)) (HS.out.below (btwo HB0.out)) HX.out HY.out).mono ?_
  rintro e w1 ⟨⟨r, rfl, h3⟩, hb1⟩
  have HB1 := hid (HST.out _ _ HB0.out hb1)
  obtain ⟨t1, u1⟩ := world_box HB1.out
  clear hb1
  by_cases hr : r < 0
  · clear h3
    go_wp2
    go_ret
    exact ⟨rfl, btwo HB1.out⟩
  · obtain ⟨hN2, hM2⟩ := h3 (by omega)
    clear h3
    go_wp2_with fail
    refine (toWorld_any ad an N M c1 c2 f s _ hN2 hM2 (HF.out.below (btwo HB1.out)) (HS.out.below (btwo HB1.out))).mono ?_
    rintro e w2 ⟨g2, k2, rfl, n2, m2, l2, l2', _, _, hb2⟩
    have HB2 := hid (HST.out _ _ HB1.out hb2)
    have NA2 := hid (And.intro n2 m2)
    clear hb2 n2 m2
    go_wp2_with fail
    refine (specWorld_any g2 k2 N M f s _ hN2 hM2 l2 l2' NA2.out.1 NA2.out.2 HX.out HY.out).mono ?_
    rintro e w3 ⟨⟨b3, rfl, hv3⟩, hb3⟩
    have HB3 := hid (HST.out _ _ HB2.out hb3)
    obtain ⟨t3, u3⟩ := world_box HB3.out
    have HV3 := hid hv3
    clear hb3 hv3 t1 u1
    go_wp2_with fail
    refine (toWorld_any ad an N M c1 c2 f s _ hN2 hM2 (HF.out.below (btwo HB3.out)) (HS.out.below (btwo HB3.out))).mono ?_
    rintro e w4 ⟨g4, k4, rfl, n4, m4, l4, l4', _, _, hb4⟩
    have HB4 := hid (HST.out _ _ HB3.out hb4)
    have NA4 := hid (And.intro n4 m4)
    clear hb4 n4 m4 t3 u3
    go_wp2_with fail
    have HA4 := hid ((Below.refl w4.heap.size w4).alloc (Nat.le_refl _) (.cells #[.slice (some ⟨g4, 0, none⟩) N N, .slice (some ⟨k4, 0, none⟩) M M] 30))
    have HB4a := hid (HST.out _ _ HB4.out HA4.out)
    refine (implWorld_any g4 k4 N M f s _ hN2 hM2 (by simp; omega) (by simp; omega) (NA4.out.1.below HA4.out l4) (NA4.out.2.below HA4.out l4') HX.out HY.out).mono ?_
    rintro e w5 ⟨⟨b5, rfl, hv5⟩, hb5⟩
    have hbb : b5 = b3 := by rw [Bool.eq_iff_iff]; exact hv5.trans HV3.out.symm
    subst hbb
    have HB5 := hid (HST.out _ _ HB4a.out hb5)
    obtain ⟨t5, u5⟩ := world_box HB5.out
    obtain ⟨x5, z5⟩ := world_box (w := w4) (by simpa using hb5)
    have NA5 := hid (And.intro (NA4.out.1.below (HA4.out.trans (hb5.mono (by simp))) l4) (NA4.out.2.below (HA4.out.trans (hb5.mono (by simp))) l4'))
    have hl5 : g4 < w5.heap.size := by have := hb5.size; simp at this; omega
    have hl5' : k4 < w5.heap.size := by have := hb5.size; simp at this; omega
    have hl5b : w4.heap.size < w5.heap.size := by have := hb5.size; simp at this; omega
    clear hb5 hv5
    have hne : (b5 != b5) = false := by simp
    go_wp2_with fail
    have HS6 : Hid (∀ W, Below w5.heap.size w5 W → (W.cell? ⟨w.heap.size, 0, none⟩ = some (.slice ad N c1) ∧ W.cell? ⟨w.heap.size, 1, none⟩ = some (.slice an M c2)) ∧ W.cell? ⟨w4.heap.size, 0, none⟩ = some (.slice (some ⟨g4, 0, none⟩) N N) ∧ W.cell? ⟨w4.heap.size, 1, none⟩ = some (.slice (some ⟨k4, 0, none⟩) M M)) := fun W h => ⟨world_box (HST.out _ _ HB5.out h), (h.cell (p := ⟨w4.heap.size, 0, none⟩) hl5b).trans x5, (h.cell (p := ⟨w4.heap.size, 1, none⟩) hl5b).trans z5⟩
    go_region_held3 (fun w' => (w'.cell? ⟨w.heap.size, 0, none⟩ = some (.slice ad N c1) ∧ w'.cell? ⟨w.heap.size, 1, none⟩ = some (.slice an M c2)) ∧ w'.cell? ⟨w4.heap.size, 0, none⟩ = some (.slice (some ⟨g4, 0, none⟩) N N) ∧ w'.cell? ⟨w4.heap.size, 1, none⟩ = some (.slice (some ⟨k4, 0, none⟩) M M)) (first | (exact HS6.out _ HC7.out) | (exact HS6.out _ HC6.out) | go_keep) (first
      | (go_at_call 6; refine (toWorld_any ad an N M c1 c2 f s _ hN2 hM2 (HF.out.below (btwo HB5.out).drew) (HS.out.below (btwo HB5.out).drew)).mono ?_; rintro e w6 ⟨g6, k6, rfl, n6, m6, l6, l6', _, _, hb6⟩; have NA6 := hid (And.intro n6 m6); have HC6 := hid ((Below.refl w5.heap.size w5).drew.trans hb6); clear n6 m6 hb6)
      | (go_at_call 8; refine (eqWorld_same g4 g6 k4 k6 N M f s _ hN2 hM2 (Nat.lt_of_lt_of_le hl5 HC6.out.size) l6 (Nat.lt_of_lt_of_le hl5' HC6.out.size) l6' (NA5.out.1.below HC6.out hl5) NA6.out.1 (NA5.out.2.below HC6.out hl5') NA6.out.2).mono ?_; rintro e w7 ⟨rfl, hb7⟩; have HC7 := hid (HC6.out.trans (hb7.mono HC6.out.size)); clear hb7))
    have HB7 := hid (HST.out _ _ HB5.out HC7.out)
    go_wp2
    go_ret
    exact ⟨rfl, btwo HB7.out⟩
end Go.Proofs.Ytlgpbmnajlhaoaa
