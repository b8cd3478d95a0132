import Derived.Test.YtfbfmhmpoaplaaaDoorNUnI
import Derived.Deep.RegionHeld3
namespace Go.Proofs.YtfbfmhmpoaplaaaDoor
open Go.RowKit
set_option maxRecDepth 20000
/-- Three variables of the law. -/
def Vars3 (W : World) (k8 k10 k11 : Nat) (x y z : Value) : Prop := W.heap[k8]? = some (.cells #[x] 29 (0, 0)) ∧ W.heap[k10]? = some (.cells #[y] 29 (0, 0)) ∧ W.heap[k11]? = some (.cells #[z] 29 (0, 0))
theorem Vars3.next {W W' : World} {k8 k10 k11 : Nat} {x y z : Value} (h : Vars3 W k8 k10 k11 x y z) (hb : Below W.heap.size W W') : Vars3 W' k8 k10 k11 x y z :=
  ⟨(hb.block _ (Array.getElem?_eq_some_iff.1 h.1).1).trans h.1, (hb.block _ (Array.getElem?_eq_some_iff.1 h.2.1).1).trans h.2.1, (hb.block _ (Array.getElem?_eq_some_iff.1 h.2.2).1).trans h.2.2⟩
theorem Vars3.sv {S : Nat → Prop} {W W' : World} {k8 k10 k11 : Nat} {x y z : Value} (h : Vars3 W k8 k10 k11 x y z) (hb : Sv S W W') (h1 : ¬ S k8) (h2 : ¬ S k10) (h3 : ¬ S k11) : Vars3 W' k8 k10 k11 x y z :=
  ⟨(hb.block _ (Array.getElem?_eq_some_iff.1 h.1).1 h1).trans h.1, (hb.block _ (Array.getElem?_eq_some_iff.1 h.2.1).1 h2).trans h.2.1, (hb.block _ (Array.getElem?_eq_some_iff.1 h.2.2).1 h3).trans h.2.2⟩
theorem Vars3.cells {W : World} {k8 k10 k11 : Nat} {x y z : Value} (h : Vars3 W k8 k10 k11 x y z) : W.cell? ⟨k8, 0, none⟩ = some x ∧ W.cell? ⟨k10, 0, none⟩ = some y ∧ W.cell? ⟨k11, 0, none⟩ = some z := ⟨cell_hp h.1 0, cell_hp h.2.1 0, cell_hp h.2.2 0⟩
set_option maxHeartbeats 8000000 in
theorem law_un (op : Int) (ad : Option Addr) (l : List At) (N cap : Nat) (w : World) (h1 : One w) (hl : l.length = N) (hN : N ≤ maxLen) (hn : AtomsA w ad l) (ht : ∀ x ∈ l, x.text.size ≤ maxLen) (hbits : Bits l) :
    Calls Tryd.prog 5 #[.int .i64 op, .agg #[.slice ad N cap]] w fun e w' => e = .returned (.bool true) ∧ Below w.heap.size w w' := by
  have HN := hid hn
  have HT := hid ht
  have HL := hid hl
  have HO := hid h1
  have HBI := hid hbits
  have hz := h1.2.2
  clear hn ht hl h1 hbits
  go_enter Tryd.func5, Tryd.ntmps5
  go_wp2_with fail
  have HB0 := hid (Below.refl (w.heap.size + 1) (w.alloc (.cells #[.slice ad N cap] 24)))
  have HST : Hid (∀ W W', Below (w.heap.size + 1) (w.alloc (.cells #[.slice ad N cap] 24)) W → Below W.heap.size W W' → Below (w.heap.size + 1) (w.alloc (.cells #[.slice ad N cap] 24)) W') := fun W W' h h2 => h.trans (h2.mono (by have := h.size; simpa using this))
  have HSZ : Hid (∀ W, Below (w.heap.size + 1) (w.alloc (.cells #[.slice ad N cap] 24)) W → w.heap.size + 1 ≤ W.heap.size) := fun W h => by have := h.size; simpa using this
  refine (szValue_any ad l N cap 1048576 _ HL.out (by omega) (by omega) hN (HN.out.below (btree HB0.out)) HT.out).mono ?_
  rintro e w1 ⟨⟨r, rfl, _, _, h3⟩, hb1⟩
  have HB1 := hid (HST.out _ _ HB0.out hb1)
  have t1 := tree_cell HB1.out
  clear hb1
  by_cases hr : r < 0
  · clear h3
    go_wp2
    go_ret
    exact ⟨rfl, btree HB1.out⟩
  · obtain ⟨hN2, _⟩ := h3 (by omega)
    clear h3
    go_wp2_with fail
    refine (toValue_any ad l N cap _ HL.out hN2 (HN.out.below (btree HB1.out))).mono ?_
    rintro e w2 ⟨g2, rfl, n2, l2, k2, hb2⟩
    have HB2 := hid (HST.out _ _ HB1.out hb2)
    have NA2 := hid n2
    clear hb2 n2
    go_wp2_with fail
    refine (specUn_any op g2 0 N N l _ HL.out (Nat.le_refl _) hN2 l2 NA2.out HT.out HBI.out).mono ?_
    rintro e w3 ⟨⟨a3, c3, r3, s3, rfl, hp3, hnb3⟩, hb3⟩
    obtain ⟨M, hM⟩ : ∃ M, r3.length = M := ⟨_, rfl⟩
    have hM2 : M ≤ 1048576 := by have := hp3.short.1; omega
    rw [hM]
    have HM := hid hM
    have HP := hid hp3
    have HB3 := hid (HST.out _ _ HB2.out hb3)
    have HA3 := hid ((Below.refl w3.heap.size w3).alloc (Nat.le_refl _) (.cells #[.slice a3 M c3] 29))
    have HB3a := hid (HST.out _ _ HB3.out HA3.out)
    have hs3z := HSZ.out _ HB3.out
    have t3 := tree_cell HB3a.out
    have HNB3 := hid (hnb3.below HA3.out)
    have HL3 : Hid (r3 ≠ [] → ∀ g o, a3 = some ⟨g, o, none⟩ → g < w3.heap.size) := hnb3.lt
    clear hb3 hp3 hnb3 hM
    go_wp2_with fail
    refine (toValueX_any ad l N cap _ HL.out hN2 (HN.out.below (btree HB3a.out))).mono ?_
    rintro e w4 ⟨g4, rfl, n4, l4, k4, hb4⟩
    have HB4 := hid (HST.out _ _ HB3a.out hb4)
    have NA4 := hid n4
    have HNB4 := hid (HNB3.out.below hb4)
    have hk4 : w3.heap.size + 1 ≤ g4 := by simpa using k4
    have HK8 : Hid (w4.heap[w3.heap.size]? = some (.cells #[.slice a3 M c3] 29 (0, 0))) := (hb4.block _ (by simp)).trans (heap_alloc_new w3 _)
    clear hb4 n4 t3
    go_wp2_with fail
    have HA4 := hid ((Below.refl w4.heap.size w4).alloc (Nat.le_refl _) (.cells #[.slice (some ⟨g4, 0, none⟩) N N] 29))
    have HB4a := hid (HST.out _ _ HB4.out HA4.out)
    refine (implUn_any op g4 0 N N l _ (HO.out.below (btree HB4a.out) hz) HL.out hN2 (by simp; omega) (NA4.out.2.below HA4.out l4) HT.out HBI.out).mono ?_
    rintro e w5 ⟨r5, s5, hp5, a5, cc5, rfl, how5, hg5, hb5⟩
    obtain ⟨rfl, rfl⟩ := hp5.unique HP.out
    have hM5 := HM.out
    rw [hM5]
    have hw45 : w4.heap.size + 1 ≤ w5.heap.size := by have := hb5.size; simpa using this
    have HC5 := hid (HA4.out.trans (hb5.mono (by simp)))
    have HA5 := hid ((Below.refl w5.heap.size w5).alloc (Nat.le_refl _) (.cells #[.slice a5 M cc5] 29))
    have HC6 := hid (HC5.out.trans (HA5.out.mono HC5.out.size))
    have HB6 := hid (HST.out _ _ HB4.out HC6.out)
    have HG5 : Hid (r5 ≠ [] → ∀ g, a5 = some ⟨g, 0, none⟩ → w4.heap.size + 1 ≤ g ∧ g < w5.heap.size) := fun h0 g e => ⟨by have := hg5 h0 g e; simpa using this, how5.lt h0 g e⟩
    have HO6 := hid (how5.next HA5.out)
    have HNB6 := hid (HNB4.out.below HC6.out)
    have NA6 := hid (NA4.out.next HC6.out)
    have HV6 : Hid (Vars3 (w5.alloc (.cells #[.slice a5 M cc5] 29)) w3.heap.size w4.heap.size w5.heap.size (.slice a3 M c3) (.slice (some ⟨g4, 0, none⟩) N N) (.slice a5 M cc5)) := by
      refine ⟨(HC6.out.block _ (Array.getElem?_eq_some_iff.1 HK8.out).1).trans HK8.out, ?_, heap_alloc_new w5 _⟩
      rw [Below.heap_alloc _ _ _ (by omega), hb5.block _ (by simp)]
      exact heap_alloc_new w4 _
    clear hb5 hp5 hg5 how5 hM5
    generalize hW6 : w5.alloc (.cells #[.slice a5 M cc5] 29) = w6 at *
    have hw6 : w6.heap.size = w5.heap.size + 1 := by rw [← hW6]; simp
    obtain ⟨x8, x10, x11⟩ := HV6.out.cells
    have hnn : (s5.toList != s5.toList) = false := by simp
    go_wp2_with fail
    refine (eqValue_same a5 a3 M cc5 c3 r5 _ HM.out hM2 HO6.out.atoms HNB6.out).mono ?_
    rintro e w7 ⟨rfl, hb7⟩
    have HB7 := hid (HST.out _ _ HB6.out hb7)
    have HO7 := hid (HO6.out.next hb7)
    have HNB7 := hid (HNB6.out.below hb7)
    have NA7 := hid (NA6.out.next hb7)
    have HV7 := hid (HV6.out.next hb7)
    have hz7 := hb7.size
    clear hb7 x8 x10 x11
    obtain ⟨x8, x10, x11⟩ := HV7.out.cells
    have t7 := tree_cell HB7.out
    have hl7 : g4 < w7.heap.size := by omega
    go_wp2_with fail
    have HS7 : Hid (∀ W, Below w7.heap.size w7 W → W.cell? ⟨w.heap.size, 0, none⟩ = some (.slice ad N cap) ∧ W.cell? ⟨w4.heap.size, 0, none⟩ = some (.slice (some ⟨g4, 0, none⟩) N N)) := fun W h => ⟨tree_cell (HST.out _ _ HB7.out h), ((HV7.out.next h).cells).2.1⟩
    go_region_held3 (fun w' => w'.cell? ⟨w.heap.size, 0, none⟩ = some (.slice ad N cap) ∧ w'.cell? ⟨w4.heap.size, 0, none⟩ = some (.slice (some ⟨g4, 0, none⟩) N N)) (first | (exact HS7.out _ HC9.out) | (exact HS7.out _ HC8.out) | go_keep) (first
      | (go_at_call 8; refine (toValue_any ad l N cap _ HL.out hN2 (HN.out.below (btree HB7.out).drew)).mono ?_; rintro e w8 ⟨g8, rfl, n8, l8, k8, hb8⟩; have NA8 := hid n8; have HC8 := hid ((Below.refl w7.heap.size w7).drew.trans hb8); clear n8 hb8)
      | (go_at_call 10; refine (eqValue_same (some ⟨g4, 0, none⟩) (some ⟨g8, 0, none⟩) N N N l _ HL.out hN2 (.inr ⟨g4, 0, rfl, Nat.lt_of_lt_of_le hl7 HC8.out.size, NA7.out.2.below HC8.out hl7⟩) (.inr ⟨g8, 0, rfl, l8, NA8.out⟩)).mono ?_; rintro e w9 ⟨rfl, hb9⟩; have HC9 := hid (HC8.out.trans (hb9.mono HC8.out.size)); clear hb9))
    have HB9 := hid (HST.out _ _ HB7.out HC9.out)
    have HO9 := hid (HO7.out.next HC9.out)
    have HNB9 := hid (HNB7.out.below HC9.out)
    have NA9 := hid (NA7.out.next HC9.out)
    have HV9 := hid (HV7.out.next HC9.out)
    clear t7 x8 x10 x11
    obtain ⟨x8, x10, x11⟩ := HV9.out.cells
    go_wp2_with fail
    refine (markValue_gen (some ⟨g4, 0, none⟩) N N l _ HL.out hN2 (.inr ⟨g4, rfl, by rw [HL.out]; exact NA9.out⟩)).mono ?_
    rintro e w10 ⟨rfl, hsv10, _⟩
    have hsv10' : Sv (fun k => k = g4) _ w10 := ⟨hsv10.os, hsv10.tape, hsv10.output, hsv10.size, fun k hk hn => hsv10.block k hk (fun e => by obtain ⟨_, e⟩ := e; injection e with e; injection e with e; exact hn e.symm)⟩
    clear hsv10
    have HB10 := hid (HB9.out.trans (hsv10'.below (HSZ.out _ HB9.out) (fun k e => by omega)))
    have HO10 := hid (HO9.out.sv hsv10' (fun h0 g e => by have := (HG5.out h0 g e).1; omega))
    have HNB10 := hid (HNB9.out.sv hsv10' (fun h0 g o e => by have := HL3.out h0 g o e; omega))
    have HV10 := hid (HV9.out.sv hsv10' (by omega) (by omega) (by omega))
    clear hsv10' x8 x10 x11
    obtain ⟨x8, x10, x11⟩ := HV10.out.cells
    go_wp2_with fail
    refine (eqValue_same a5 a3 M cc5 c3 r5 _ HM.out hM2 HO10.out.atoms HNB10.out).mono ?_
    rintro e w11 ⟨rfl, hb11⟩
    have HB11 := hid (HST.out _ _ HB10.out hb11)
    have HO11 := hid (HO10.out.next hb11)
    have HNB11 := hid (HNB10.out.below hb11)
    have HV11 := hid (HV10.out.next hb11)
    clear hb11 x8 x10 x11
    obtain ⟨x8, x10, x11⟩ := HV11.out.cells
    go_wp2_with fail
    refine (markValue_gen a5 cc5 M r5 _ HM.out hM2 HO11.out).mono ?_
    rintro e w12 ⟨rfl, hsv12, ho12⟩
    have HB12 := hid (HB11.out.trans (hsv12.below (HSZ.out _ HB11.out) (fun k e => by have := (HG5.out e.1 k e.2).1; omega)))
    have HO12 := hid ho12
    have HNB12 := hid (HNB11.out.sv hsv12 (fun h0 g o e e2 => by have := HL3.out h0 g o e; have := (HG5.out h0 g e2.2).1; omega))
    have HV12 := hid (HV11.out.sv hsv12 (fun e => by have := (HG5.out e.1 _ e.2).1; omega) (fun e => by have := (HG5.out e.1 _ e.2).1; omega) (fun e => by have := (HG5.out e.1 _ e.2).2; omega))
    clear hsv12 ho12 x8 x10 x11
    obtain ⟨x8, x10, x11⟩ := HV12.out.cells
    go_wp2_with fail
    refine (heldValue_gen a5 cc5 M _ hM2 HO12.out).mono ?_
    rintro e w13 ⟨rfl, hb13⟩
    have HB13 := hid (HST.out _ _ HB12.out hb13)
    have HO13 := hid (HO12.out.next hb13)
    have HNB13 := hid (HNB12.out.below hb13)
    have HV13 := hid (HV12.out.next hb13)
    have t13 := tree_cell HB13.out
    clear hb13 x8 x10 x11
    go_wp2_with fail
    refine (toValue_any ad l N cap _ HL.out hN2 (HN.out.below (btree HB13.out))).mono ?_
    rintro e w14 ⟨g14, rfl, n14, l14, k14, hb14⟩
    have HB14 := hid (HST.out _ _ HB13.out hb14)
    have HO14 := hid (HO13.out.next hb14)
    have HNB14 := hid (HNB13.out.below hb14)
    have HV14 := hid (HV13.out.next hb14)
    have NA14 := hid n14
    clear hb14 n14 t13
    go_wp2_with fail
    refine (implUn_any op g14 0 N N l _ (HO.out.below (btree HB14.out) hz) HL.out hN2 l14 NA14.out HT.out HBI.out).mono ?_
    rintro e w15 ⟨r15, s15, hp15, a15, cc15, rfl, how15, -, hb15⟩
    obtain ⟨rfl, rfl⟩ := hp15.unique HP.out
    have hM15 := HM.out
    rw [hM15]
    have HA15 := hid ((Below.refl w15.heap.size w15).alloc (Nat.le_refl _) (.cells #[.slice a15 M cc15] 29))
    have HC16 := hid (hb15.trans (HA15.out.mono hb15.size))
    have HB16 := hid (HST.out _ _ HB14.out HC16.out)
    have HQ16 := hid (how15.next HA15.out)
    have HO16 := hid (HO14.out.next HC16.out)
    have HNB16 := hid (HNB14.out.below HC16.out)
    have HV16 := hid (HV14.out.next HC16.out)
    have x16 : (w15.alloc (.cells #[.slice a15 M cc15] 29)).cell? ⟨w15.heap.size, 0, none⟩ = some (.slice a15 M cc15) := cell_new_row w15 _ _ 0
    clear hb15 hp15 how15 hM15
    generalize hW16 : w15.alloc (.cells #[.slice a15 M cc15] 29) = w16 at *
    obtain ⟨x8, x10, x11⟩ := HV16.out.cells
    have hnn : (s15.toList != s15.toList) = false := by simp
    go_wp2_with fail
    refine (eqValue_same a15 a3 M cc15 c3 r15 _ HM.out hM2 HQ16.out.atoms HNB16.out).mono ?_
    rintro e w17 ⟨rfl, hb17⟩
    have HB17 := hid (HST.out _ _ HB16.out hb17)
    have HO17 := hid (HO16.out.next hb17)
    have HV17 := hid (HV16.out.next hb17)
    clear hb17 x8 x10 x11 x16
    obtain ⟨x8, x10, x11⟩ := HV17.out.cells
    go_wp2_with fail
    refine (heldValue_gen a5 cc5 M _ hM2 HO17.out).mono ?_
    rintro e w18 ⟨rfl, hb18⟩
    have HB18 := hid (HST.out _ _ HB17.out hb18)
    clear hb18 x8 x10 x11
    go_wp2
    go_ret
    exact ⟨rfl, btree HB18.out⟩
end Go.Proofs.YtfbfmhmpoaplaaaDoor
