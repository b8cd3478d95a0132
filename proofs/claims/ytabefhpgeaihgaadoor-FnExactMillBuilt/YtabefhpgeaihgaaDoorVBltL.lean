import Derived.Test.YtabefhpgeaihgaaDoorVBltT
/-! The law of built words. -/
namespace Go.Proofs.YtabefhpgeaihgaaDoor.V
open Go.RowKit Go.Shelf
set_option maxRecDepth 20000
theorem specB_any (op : Int) (g N : Nat) (vl : Nat → Vl) (hN : N ≤ 1048576) (w : World) (hg : g < w.heap.size) (hv : ValsAt w g N vl) (hbd : ∀ i, i < N → -9223372036854775808 ≤ (vl i).n ∧ (vl i).n ≤ 9223372036854775807) :
    Calls Tryd.prog 5 #[.int .i64 op, .slice (some ⟨g, 0, none⟩) N N] w fun e w' => SEnd op N vl w e w' := by
  by_cases h : op < 6 ∨ 12 < op ∨ 3 < N
  · exact specB_out op g N vl h hN w
  · exact specB_in op g N vl (by omega) (by omega) (by omega) w hg hv hbd
theorem szS_all (ad : Option Addr) (N cap : Nat) (vl : Nat → Vl) (w : World) (hN : N ≤ maxLen) (hn : ValsA w ad N vl) (ht : ∀ i, i < N → (vl i).s.size ≤ maxLen) :
    Calls Tryd.prog 4 #[.slice ad N cap, .int .i64 1048576] w fun e w' => (∃ r, e = .returned (.int .i64 r) ∧ (0 ≤ r → N ≤ 1048576)) ∧ Below w.heap.size w w' := by
  rcases hn with rfl | ⟨a, rfl, h1, h2⟩
  · exact szValS_nil ad cap w
  · exact szValS_any a N cap vl w hN h1 h2 ht
theorem toS_all (ad : Option Addr) (N cap : Nat) (vl : Nat → Vl) (w : World) (hN : N ≤ 1048576) (hn : ValsA w ad N vl) :
    Calls Tryd.prog 6 #[.slice ad N cap] w fun e w' => e = .returned (.slice (some ⟨w.heap.size, 0, none⟩) N N) ∧ ValsAt w' w.heap.size N vl ∧ w.heap.size < w'.heap.size ∧ Below w.heap.size w w' := by
  rcases hn with rfl | ⟨a, rfl, h1, h2⟩
  · exact toValS_nil ad cap vl w
  · exact toValS_any a N cap vl w hN h1 h2
set_option maxHeartbeats 8000000 in
theorem law_blt (op : Int) (ad : Option Addr) (N cap : Nat) (vl : Nat → Vl) (w : World) (hN : N ≤ maxLen) (hn : ValsA w ad N vl) (ht : ∀ i, i < N → (vl i).s.size ≤ maxLen) (hbd : ∀ i, i < N → -9223372036854775808 ≤ (vl i).n ∧ (vl i).n ≤ 9223372036854775807) (p q r : Addr) (hE : EnvT w p q r) :
    Calls Tryd.prog 3 #[.int .i64 op, .slice ad N cap] w fun e w' => e = .returned (.bool true) ∧ Below w.heap.size w w' := by
  have HSZ := hid (szS_all ad N cap vl w hN hn ht)
  have HTO : Hid (∀ W, Below w.heap.size w W → N ≤ 1048576 → _) := fun W hW h => toS_all ad N cap vl W h (hn.below hW)
  have HSP : Hid (∀ g W, N ≤ 1048576 → g < W.heap.size → ValsAt W g N vl → _) := fun g W h hg hv => specB_any op g N vl h W hg hv hbd
  have HIM : Hid (∀ g W, Below w.heap.size w W → N ≤ 1048576 → g < W.heap.size → ValsAt W g N vl → _) := fun g W hW h hg hv => implB_any op g N vl h p q r W hg hv hbd (hE.next hW)
  clear hn ht hbd hE hN
  go_enter Tryd.func3, Tryd.ntmps3
  go_wp2_with fail
  refine HSZ.out.mono ?_
  rintro e w1 ⟨⟨r0, rfl, hr⟩, hb1⟩
  have HB1 := hid hb1
  have HR := hid hr
  clear hb1 hr HSZ
  by_cases hneg : r0 < 0
  · go_wp2
    go_ret
    exact ⟨rfl, HB1.out⟩
  have HN2 : Hid (N ≤ 1048576) := HR.out (by omega)
  go_wp2_with fail
  refine (HTO.out _ HB1.out HN2.out).mono ?_
  rintro e w2 ⟨rfl, hv2, hl2, hb2⟩
  have HV2 := hid hv2
  have HL2 := hid hl2
  have HB2 := hid (go2 HB1.out hb2)
  clear hv2 hl2 hb2
  generalize w1.heap.size = g2 at *
  go_wp2_with fail
  refine (HSP.out g2 _ HN2.out HL2.out HV2.out).mono ?_
  rintro e w3 ⟨y, z, st, wd, rfl, hx, hb3⟩
  have HX := hid hx
  have HB3 := hid (go2 (go2 HB2.out hb3) (alloc_below w3 (vbox y z st)))
  have HG3 := hid (heap_new w3 (vbox y z st))
  clear hx hb3 HV2 HL2
  go_wp2_with fail
  refine (HTO.out _ HB3.out HN2.out).mono ?_
  rintro e w4 ⟨rfl, hv4, hl4, hb4⟩
  have HV4 := hid hv4
  have HL4 := hid hl4
  have HB4 := hid (go2 HB3.out hb4)
  have HG4 := hid (keep_box HG3.out hb4)
  clear hv4 hl4 hb4
  generalize (w3.alloc (vbox y z st)).heap.size = g4 at *
  generalize w3.heap.size = gw at *
  go_wp2_with fail
  refine (HIM.out g4 _ HB4.out HN2.out HL4.out HV4.out).mono ?_
  rintro e w5 ⟨y', z', st', wd', rfl, hx', hb5⟩
  obtain ⟨rfl, rfl, rfl, rfl⟩ := HX.out.uniq hx'
  have hb5a := go2 hb5 (alloc_below w5 (vbox y z st))
  have HB5 := hid (go2 HB4.out hb5a)
  have HG5 := hid (keep_box HG4.out hb5a)
  have HZ5 := hid (heap_new w5 (vbox y z st))
  have HV5 := hid (HV4.out.below hb5a HL4.out)
  have HL5 := hid (Nat.lt_of_lt_of_le HL4.out hb5a.size)
  clear hx' hb5 hb5a HX
  obtain ⟨x0, x1, x2, _, _, _⟩ := six HG5.out
  obtain ⟨z0, z1, z2, _, _, _⟩ := six HZ5.out
  have e3 : (wd.toList != wd.toList) = false := by simp
  go_wp2_with fail
  refine (eqVal_any y z st _).mono ?_
  rintro e w6 ⟨rfl, hb6⟩
  have HB6 := hid (go2 HB5.out hb6)
  have HV6 := hid (HV5.out.below hb6 HL5.out)
  have HL6 := hid (Nat.lt_of_lt_of_le HL5.out hb6.size)
  clear hb6 x0 x1 x2 z0 z1 z2
  go_wp2_with fail
  refine (HTO.out _ HB6.out HN2.out).mono ?_
  rintro e w7 ⟨rfl, hv7, hl7, hb7⟩
  have HV7 := hid hv7
  have HL7 := hid hl7
  have HB7 := hid (go2 HB6.out hb7)
  have HV8 := hid (HV6.out.below hb7 HL6.out)
  have HL8 := hid (Nat.lt_of_lt_of_le HL6.out hb7.size)
  clear hv7 hl7 hb7
  go_wp2_with fail
  refine (eqValS_same g4 _ N vl _ HN2.out HL8.out HL7.out HV8.out HV7.out).mono ?_
  rintro e w8 ⟨rfl, hb8⟩
  have HB8 := hid (go2 HB7.out hb8)
  clear hb8
  go_wp2
  go_ret
  exact ⟨rfl, HB8.out⟩
end Go.Proofs.YtabefhpgeaihgaaDoor.V
