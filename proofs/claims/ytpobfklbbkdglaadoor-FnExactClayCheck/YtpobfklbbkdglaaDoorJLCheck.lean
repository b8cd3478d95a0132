import Derived.Deep.RegionHeld3
import Derived.Test.YtpobfklbbkdglaaDoorJEnds
import Derived.Test.YtpobfklbbkdglaaDoorJTree
namespace Go.Proofs.YtpobfklbbkdglaaDoor
open Go.RowKit
set_option maxRecDepth 20000
set_option maxHeartbeats 4000000 in
theorem law_check (ad : Option Addr) (N cap : Nat) (nd : Nat → Nd) (w : World) (hN : N ≤ maxLen) (hn : NodesA w ad N nd) (ht : ∀ i, i < N → (nd i).text.size ≤ maxLen) (hE : BEnv w) :
    Calls Tryd.prog 3 #[.agg #[.slice ad N cap]] w fun e w' => e = .returned (.bool true) ∧ Below w.heap.size w w' := by
  have HN := hid hn
  have HT := hid ht
  have HE := hid hE
  clear hn ht hE
  go_enter Tryd.func3, Tryd.ntmps3
  go_wp2_with fail
  have HB0 := hid (Below.refl (w.heap.size + 1) (w.alloc (.cells #[.slice ad N cap] 24)))
  have HST : Hid (∀ W W', Below (w.heap.size + 1) (w.alloc (.cells #[.slice ad N cap] 24)) W → Below W.heap.size W W' → Below (w.heap.size + 1) (w.alloc (.cells #[.slice ad N cap] 24)) W') := fun W W' h h2 => h.trans (h2.mono (by have := h.size; simpa using this))
  refine (szTree_any ad N cap nd _ hN (HN.out.below (btree HB0.out)) HT.out).mono ?_
  rintro e w1 ⟨⟨r, rfl, h3⟩, hb1⟩
  have HB1 := hid (HST.out _ _ HB0.out hb1)
  have t1 := tree_cell HB1.out
  clear hb1
  by_cases hr : r < 0
  · clear h3
    go_wp2
    go_ret
    exact ⟨rfl, btree HB1.out⟩
  · obtain ⟨hN2, _⟩ := h3 (by omega)
    clear h3
    go_wp2_with fail
    refine (toTree_any ad N cap nd _ hN2 (HN.out.below (btree HB1.out))).mono ?_
    rintro e w2 ⟨g2, rfl, n2, l2, k2, hb2⟩
    have HB2 := hid (HST.out _ _ HB1.out hb2)
    have NA2 := hid n2
    clear hb2 n2
    go_wp2_with fail
    refine (specCheck_any g2 N N nd _ hN2 l2 NA2.out HT.out).mono ?_
    rintro e w3 ⟨⟨c, a, rfl, hc3⟩, hb3⟩
    have HF3 := hid (faultI_of hc3)
    have HB3 := hid (HST.out _ _ HB2.out hb3)
    have HA3 := hid ((Below.refl w3.heap.size w3).alloc (Nat.le_refl _) (.cells #[.int .i64 c, .int .i64 a] 27))
    have HB3a := hid (HST.out _ _ HB3.out HA3.out)
    have t3 := tree_cell HB3a.out
    clear hb3 hc3
    go_wp2_with fail
    refine (toTree_any ad N cap nd _ hN2 (HN.out.below (btree HB3a.out))).mono ?_
    rintro e w4 ⟨g4, rfl, n4, l4, k4, hb4⟩
    have HB4 := hid (HST.out _ _ HB3a.out hb4)
    have NA4 := hid n4
    have HL4 : Hid (w4.heap[w3.heap.size]? = some (.cells #[.int .i64 c, .int .i64 a] 27 (0, 0)) ∧ w3.heap.size < w4.heap.size) := ⟨(hb4.block _ (by simp)).trans (heap_alloc_new w3 _), by have := hb4.size; simp at this; omega⟩
    clear hb4 n4 t3
    go_wp2_with fail
    have HA4 := hid ((Below.refl w4.heap.size w4).alloc (Nat.le_refl _) (.cells #[.slice (some ⟨g4, 0, none⟩) N N] 31))
    have HB4a := hid (HST.out _ _ HB4.out HA4.out)
    refine (implCheck_any g4 N N nd _ hN2 (by simp; omega) (NA4.out.below HA4.out l4) HT.out (HE.out.below (btree HB4a.out) HE.out.pos)).mono ?_
    rintro e w5 ⟨⟨c5, a5, rfl, hf5⟩, hb5⟩
    obtain ⟨rfl, rfl⟩ := hf5.unique HF3.out
    have HB5 := hid (HST.out _ _ HB4a.out hb5)
    have HC5 := hid (HA4.out.trans (hb5.mono (by simp)))
    have HA5 := hid ((Below.refl w5.heap.size w5).alloc (Nat.le_refl _) (.cells #[.int .i64 c5, .int .i64 a5] 27))
    have HB5a := hid (HST.out _ _ HB5.out HA5.out)
    have HC5a := hid (HC5.out.trans (HA5.out.mono HC5.out.size))
    have y0 : (w5.alloc (.cells #[.int .i64 c5, .int .i64 a5] 27)).cell? ⟨w3.heap.size, 0, none⟩ = some (.int .i64 c5) := by
      rw [HC5a.out.cell (p := ⟨w3.heap.size, 0, none⟩) HL4.out.2]; exact cell_hp HL4.out.1 0
    have y1 : (w5.alloc (.cells #[.int .i64 c5, .int .i64 a5] 27)).cell? ⟨w3.heap.size, 1, none⟩ = some (.int .i64 a5) := by
      rw [HC5a.out.cell (p := ⟨w3.heap.size, 1, none⟩) HL4.out.2]; exact cell_hp HL4.out.1 1
    have HX5 : Hid ((w5.alloc (.cells #[.int .i64 c5, .int .i64 a5] 27)).cell? ⟨w4.heap.size, 0, none⟩ = some (.slice (some ⟨g4, 0, none⟩) N N)) := by
      have hl : w4.heap.size < w5.heap.size := by have := hb5.size; simp at this; omega
      show _ = _
      rw [cell_alloc_lt _ _ _ _ hl, hb5.cell (p := ⟨w4.heap.size, 0, none⟩) (by simp), cell_new_row]; rfl
    clear hb5 hf5
    go_wp2_with fail
    refine (eqFlt_any _ _ _).mono ?_
    rintro e w6 ⟨rfl, hb6⟩
    have HB6 := hid (HST.out _ _ HB5a.out hb6)
    have t6 := tree_cell HB6.out
    have hx6 : w4.heap.size < w6.heap.size := by have := HC5a.out.size; have := hb6.size; have := World.block_lt_of_cell? _ _ HX5.out; simp only at *; omega
    have x6 : w6.cell? ⟨w4.heap.size, 0, none⟩ = some (.slice (some ⟨g4, 0, none⟩) N N) := (hb6.cell (p := ⟨w4.heap.size, 0, none⟩) (World.block_lt_of_cell? _ _ HX5.out)).trans HX5.out
    have HC6 := hid (HC5a.out.trans (hb6.mono HC5a.out.size))
    have hl6 : g4 < w6.heap.size := Nat.lt_of_lt_of_le l4 HC6.out.size
    have NA6 := hid (NA4.out.below HC6.out l4)
    clear hb6 y0 y1
    go_wp2_with fail
    have HS6 : Hid (∀ W, Below w6.heap.size w6 W → W.cell? ⟨w.heap.size, 0, none⟩ = some (.slice ad N cap) ∧ W.cell? ⟨w4.heap.size, 0, none⟩ = some (.slice (some ⟨g4, 0, none⟩) N N)) := fun W h => ⟨tree_cell (HST.out _ _ HB6.out h), (h.cell (p := ⟨w4.heap.size, 0, none⟩) hx6).trans x6⟩
    go_region_held3 (fun w' => w'.cell? ⟨w.heap.size, 0, none⟩ = some (.slice ad N cap) ∧ w'.cell? ⟨w4.heap.size, 0, none⟩ = some (.slice (some ⟨g4, 0, none⟩) N N)) (first | (exact HS6.out _ HC8.out) | (exact HS6.out _ HC7.out) | go_keep) (first
      | (go_at_call 9; refine (toTree_any ad N cap nd _ hN2 (HN.out.below (btree HB6.out).drew)).mono ?_; rintro e w7 ⟨g7, rfl, n7, l7, k7, hb7⟩; have NA7 := hid n7; have HC7 := hid ((Below.refl w6.heap.size w6).drew.trans hb7); clear n7 hb7)
      | (go_at_call 12; refine (eqTree_same g4 g7 N nd _ hN2 (Nat.lt_of_lt_of_le hl6 HC7.out.size) l7 (NA6.out.below HC7.out hl6) NA7.out).mono ?_; rintro e w8 ⟨rfl, hb8⟩; have HC8 := hid (HC7.out.trans (hb8.mono HC7.out.size)); clear hb8))
    have HB8 := hid (HST.out _ _ HB6.out HC8.out)
    go_wp2
    go_ret
    exact ⟨rfl, btree HB8.out⟩
end Go.Proofs.YtpobfklbbkdglaaDoor
