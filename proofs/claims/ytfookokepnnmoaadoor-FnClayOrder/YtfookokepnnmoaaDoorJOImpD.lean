import Derived.Test.YtfookokepnnmoaaDoorJOImpL
namespace Go.Proofs.YtfookokepnnmoaaDoor
open Go.RowKit
set_option maxRecDepth 20000
set_option maxHeartbeats 4000000 in
theorem order_list (a b a' b' : Int) (ad ad' : Option Addr) (M M' cap cap' : Nat) (c : Int) (w : World) (hc : ∀ W, Below w.heap.size w W → Calls Tryd.prog 34 #[.slice ad M cap, .slice ad' M' cap', .func (.func 20) #[] #[]] W fun e w' => e = .returned (.int .i64 c) ∧ Below W.heap.size W w') :
    Calls Tryd.prog 20 #[.iface 70 (.agg #[.int .i64 a, .int .i64 b, .slice ad M cap]), .iface 70 (.agg #[.int .i64 a', .int .i64 b', .slice ad' M' cap'])] w fun e w' => e = .returned (.int .i64 (c)) ∧ Below w.heap.size w w' := by
  obtain ⟨T, x, f, rv, hv, m1, m2, m3⟩ := aList a b ad M cap
  cases hv
  obtain ⟨T', x', f', rv', hv', n1, n2, n3⟩ := aList a' b' ad' M' cap'
  cases hv'
  dsimp only at m3 n3
  have M3 := hid m3
  have N3 := hid n3
  clear m3 n3
  have g1 := fldKind 5 0 M ⟨#[]⟩
  have g2 := fldKind 5 0 M' ⟨#[]⟩
  have t1 := tnTextList a b ad M cap
  have t2 := ttList a b ad M cap
  have t3 := tfList a' b' ad' M' cap'
  have f1 := fldItems a' b' ad' M' cap'
  have HC := hid hc
  clear hc
  go_enter Tryd.func20, Tryd.ntmps20
  go_wp2_with fail
  refine (M3.out _).mono ?_
  rintro e w1 ⟨rfl, hb1⟩
  have HB1 := hid hb1
  clear hb1
  go_wp2_with fail
  refine (N3.out _).mono ?_
  rintro e w2 ⟨rfl, hb2⟩
  have HB2 := hid (HB1.out.trans (hb2.mono HB1.out.size))
  clear hb2
  go_wp2_with fail
  refine (cmpSame_any _ _).mono ?_
  rintro e w3 ⟨rfl, hw⟩
  have hw2 := hw.symm
  clear hw
  subst hw2
  go_wp2_with fail
  have HB3 := hid (HB2.out.alloc HB2.out.size (.cells #[.int .i64 a, .int .i64 b, .slice ad M cap] 70))
  have q2 : ∀ p : Gr (w2.alloc (.cells #[.int .i64 a, .int .i64 b, .slice ad M cap] 70)), p.W.cell? ⟨w2.heap.size, 2, none⟩ = some (.slice ad M cap) := fun p => by
    rw [p.h.cell (p := ⟨w2.heap.size, 2, none⟩) (by simp), cell_new_row]; rfl
  have hne : Nonempty (Gr (w2.alloc (.cells #[.int .i64 a, .int .i64 b, .slice ad M cap] 70))) := ⟨⟨_, Below.refl _ _⟩⟩
  refine wp_region_gr (by kernel_rfl) (by kernel_rfl) ?_
  repeat (first | go_big_quiet_step ((refine Calls.gr_of (v := .int .i64 c) fun hp => ?_; exact HC.out _ (HB3.out.trans (hp.mono HB3.out.size)))) | quiet_step ((refine Calls.gr_of (v := .int .i64 c) fun hp => ?_; exact HC.out _ (HB3.out.trans (hp.mono HB3.out.size)))))
  refine wpQuiet_nil ?_
  intro _ hw'
  obtain ⟨pw, rfl⟩ := hw'
  have HB4 := hid (HB3.out.trans (pw.h.mono HB3.out.size))
  clear q2
  go_wp2
  go_ret
  exact ⟨rfl, HB4.out⟩
set_option maxHeartbeats 4000000 in
theorem order_rec (a b a' b' : Int) (ad ad' : Option Addr) (M M' cap cap' : Nat) (c : Int) (w : World) (hM : M ≤ 1000000) (hM' : M' ≤ 1000000) (hc : ∀ W, Below w.heap.size w W → Calls Tryd.prog 35 #[.slice ad M cap, .slice ad' M' cap', .func (.func 36) #[] #[]] W fun e w' => e = .returned (.int .i64 c) ∧ Below W.heap.size W w') :
    Calls Tryd.prog 20 #[.iface 74 (.agg #[.int .i64 a, .int .i64 b, .slice ad M cap]), .iface 74 (.agg #[.int .i64 a', .int .i64 b', .slice ad' M' cap'])] w fun e w' => e = .returned (.int .i64 (c)) ∧ Below w.heap.size w w' := by
  obtain ⟨T, x, f, rv, hv, m1, m2, m3⟩ := aRec a b ad M cap hM
  cases hv
  obtain ⟨T', x', f', rv', hv', n1, n2, n3⟩ := aRec a' b' ad' M' cap' hM'
  cases hv'
  dsimp only at m3 n3
  have M3 := hid m3
  have N3 := hid n3
  clear m3 n3
  have g1 := fldKind 6 0 (2 * M) ⟨#[]⟩
  have g2 := fldKind 6 0 (2 * M') ⟨#[]⟩
  have t1 := tnTextRec a b ad M cap
  have t4 := tnListRec a b ad M cap
  have t2 := ttRec a b ad M cap
  have t3 := tfRec a' b' ad' M' cap'
  have f1 := fldFields a' b' ad' M' cap'
  have HC := hid hc
  clear hc
  go_enter Tryd.func20, Tryd.ntmps20
  go_wp2_with fail
  refine (M3.out _).mono ?_
  rintro e w1 ⟨rfl, hb1⟩
  have HB1 := hid hb1
  clear hb1
  go_wp2_with fail
  refine (N3.out _).mono ?_
  rintro e w2 ⟨rfl, hb2⟩
  have HB2 := hid (HB1.out.trans (hb2.mono HB1.out.size))
  clear hb2
  go_wp2_with fail
  refine (cmpSame_any _ _).mono ?_
  rintro e w3 ⟨rfl, hw⟩
  have hw2 := hw.symm
  clear hw
  subst hw2
  go_wp2_with fail
  have HB3 := hid (HB2.out.alloc HB2.out.size (.cells #[.int .i64 a, .int .i64 b, .slice ad M cap] 74))
  have q2 : ∀ p : Gr (w2.alloc (.cells #[.int .i64 a, .int .i64 b, .slice ad M cap] 74)), p.W.cell? ⟨w2.heap.size, 2, none⟩ = some (.slice ad M cap) := fun p => by
    rw [p.h.cell (p := ⟨w2.heap.size, 2, none⟩) (by simp), cell_new_row]; rfl
  have hne : Nonempty (Gr (w2.alloc (.cells #[.int .i64 a, .int .i64 b, .slice ad M cap] 74))) := ⟨⟨_, Below.refl _ _⟩⟩
  refine wp_region_gr (by kernel_rfl) (by kernel_rfl) ?_
  repeat (first | go_big_quiet_step ((refine Calls.gr_of (v := .int .i64 c) fun hp => ?_; exact HC.out _ (HB3.out.trans (hp.mono HB3.out.size)))) | quiet_step ((refine Calls.gr_of (v := .int .i64 c) fun hp => ?_; exact HC.out _ (HB3.out.trans (hp.mono HB3.out.size)))))
  refine wpQuiet_nil ?_
  intro _ hw'
  obtain ⟨pw, rfl⟩ := hw'
  have HB4 := hid (HB3.out.trans (pw.h.mono HB3.out.size))
  clear q2
  go_wp2
  go_ret
  exact ⟨rfl, HB4.out⟩
set_option maxHeartbeats 2000000 in
theorem orderFields_any (s s' : ByteArray) (T T' : TypeId) (x x' : Value) (c : Int) (w : World)
    (hc : ∀ W, Below w.heap.size w W → Calls Tryd.prog 20 #[.iface T x, .iface T' x'] W fun e w' => e = .returned (.int .i64 c) ∧ Below W.heap.size W w') :
    Calls Tryd.prog 36 #[.agg #[.string s, .iface T x], .agg #[.string s', .iface T' x']] w fun e w' => e = .returned (.int .i64 (if cmpT s s' ≠ 0 then cmpT s s' else c)) ∧ Below w.heap.size w w' := by
  have HC := hid hc
  clear hc
  have HB := hid (below_two' w (.cells #[.string s, .iface T x] 77) (.cells #[.string s', .iface T' x'] 77))
  have HS := hid (cmpString_any s s')
  generalize cmpT s s' = d at HS ⊢
  by_cases hd : d = 0
  · subst hd
    rw [if_neg (by simp)]
    go_enter Tryd.func36, Tryd.ntmps36
    go_wp2_with fail
    refine (HS.out _).mono ?_
    rintro e w1 ⟨rfl, hw⟩
    have hw2 := hw.symm
    clear hw
    subst hw2
    go_wp2_with fail
    refine (HC.out _ HB.out).mono ?_
    rintro e w1 ⟨rfl, hb1⟩
    have HB1 := hid (HB.out.trans (hb1.mono HB.out.size))
    clear hb1
    go_wp2
    go_ret
    exact ⟨rfl, HB1.out⟩
  · rw [if_pos hd]
    have hdb : (d != 0) = true := by simpa using hd
    go_enter Tryd.func36, Tryd.ntmps36
    go_wp2_with fail
    refine (HS.out _).mono ?_
    rintro e w1 ⟨rfl, hw⟩
    have hw2 := hw.symm
    clear hw
    subst hw2
    go_wp2
    go_ret
    exact ⟨rfl, HB.out⟩
end Go.Proofs.YtfookokepnnmoaaDoor
