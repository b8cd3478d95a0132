import Derived.Test.YtmmgpbjmegfffaaDoorVBits
import Derived.Test.YtmmgpbjmegfffaaDoorVDrF
import Derived.Test.YtmmgpbjmegfffaaDoorVLawB
import Derived.Laws.StructEq
import Derived.Test.YtmmgpbjmegfffaaDoorVQuiet
/-! Printed by gen_vlawm.py. The law of bits. -/
namespace Go.Proofs.YtmmgpbjmegfffaaDoor.V
open Go.RowKit Go.Shelf
set_option maxRecDepth 20000
theorem eqSame (t n : Int) (s : ByteArray) (w : World) : (Op.equalIn 10000 25 (val t n s) (val t n s)).run Tryd.prog w = .ok true w := by
  have u3 := Tryd.underlying3
  have u2 := Tryd.underlying2
  have u9 := Tryd.underlying9
  have hS : Tryd.prog.underlying 25 = some (.struct (Tryd.prog.fieldsOf 25)) := by kernel_rfl
  have hp : Tryd.prog.stoodInHeld 25 = false := by kernel_rfl
  rw [show (10000 : Nat) = 9999 + 1 from rfl, run_equalIn_agg w 9999 25 _ _ hS hp]
  simp only [Program.fieldsOf, Tryd.underlying25]
  go_simp
theorem neqSame (t n : Int) (s : ByteArray) (w : World) : (binOp .neq 25 (val t n s) (val t n s)).run Tryd.prog w = .ok (.bool false) w := by
  rw [run_neq_struct, eqSame]; rfl
/-- What the law takes as two numbers of one type. -/
def Fine (va vb : Bool) (ta tb : Int) : Prop := va = true ∧ vb = true ∧ ta = tb ∧ 3 ≤ ta
instance (va vb : Bool) (ta tb : Int) : Decidable (Fine va vb ta tb) := by unfold Fine; infer_instance
set_option maxHeartbeats 16000000 in
theorem law_bits (ad : Option Addr) (n cap : Nat) (w : World) (hc : n ≤ cap) (hcm : cap ≤ 9223372036854775807) (h : n ≤ 1048576 → CodeA w ad n) (hnil : ad = none → n = 0 ∧ cap = 0) (p q l : Addr) (hp : ErrAt w 0 p wType) (hq : ErrAt w 2 q wDiv) (hl : ErrAt w 1 l wLong) :
    Calls Tryd.prog 4 #[.slice ad n cap] w fun e w' => e = .returned (.bool true) ∧ Below w.heap.size w w' := by
  have HE : Hid (Errs w p q l) := ⟨hp, hq, hl⟩
  clear hp hq hl
  have hn9 : (n : Int) ≤ 9223372036854775807 := by omega
  by_cases hbig : 1048576 < n
  · clear h hnil
    go_enter Tryd.func4, Tryd.ntmps4
    go_wp2
    go_ret
    exact ⟨rfl, Below.refl _ _⟩
  have HD := hid (draw_any ad n cap w (by omega) hc hcm (h (by omega)) hnil)
  clear h hnil
  go_enter Tryd.func4, Tryd.ntmps4
  go_wp2_with fail
  refine HD.out.mono ?_
  rintro e w1 ⟨op, ta, na, sa, tb, nb, sb, rfl, hna, hnb, hb1⟩
  obtain ⟨hna1, hna2⟩ := hna
  obtain ⟨hnb1, hnb2⟩ := hnb
  have HB2 := hid (go2 hb1 (alloc2 w1 (vbox ta na sa) (vbox tb nb sb)))
  have HGA : Hid (((w1.alloc (vbox ta na sa)).alloc (vbox tb nb sb)).heap[w1.heap.size]? = some (vbox ta na sa)) := heap_old (heap_new w1 _)
  have HGB : Hid (((w1.alloc (vbox ta na sa)).alloc (vbox tb nb sb)).heap[w1.heap.size + 1]? = some (vbox tb nb sb)) := by
    have := heap_new (w1.alloc (vbox ta na sa)) (vbox tb nb sb)
    rwa [World.size_alloc] at this
  clear hb1 HD
  go_upto_region 4 with fail
  obtain ⟨W2, hW2⟩ : ∃ W2, (w1.alloc (vbox ta na sa)).alloc (vbox tb nb sb) = W2 := ⟨_, rfl⟩
  obtain ⟨gb, hgb⟩ : ∃ gb, w1.heap.size + 1 = gb := ⟨_, rfl⟩
  rw [hW2] at HB2 HGA HGB ⊢
  rw [hgb] at HGB ⊢
  obtain ⟨ga, hga⟩ : ∃ ga, w1.heap.size = ga := ⟨_, rfl⟩
  rw [hga] at HGA ⊢
  clear hga hgb hW2
  have HKA : Hid (∀ W, Below W2.heap.size W2 W → W.cell? ⟨ga, 0, none⟩ = some (.int .i64 ta) ∧ W.cell? ⟨ga, 1, none⟩ = some (.int .i64 na) ∧ W.cell? ⟨ga, 2, none⟩ = some (.string sa)) := fun W hW => by
    obtain ⟨a, b, c, _⟩ := six (keep_box HGA.out hW)
    exact ⟨a, b, c⟩
  have HKB : Hid (∀ W, Below W2.heap.size W2 W → W.cell? ⟨gb, 0, none⟩ = some (.int .i64 tb) ∧ W.cell? ⟨gb, 1, none⟩ = some (.int .i64 nb) ∧ W.cell? ⟨gb, 2, none⟩ = some (.string sb)) := fun W hW => by
    obtain ⟨a, b, c, _⟩ := six (keep_box HGB.out hW)
    exact ⟨a, b, c⟩
  obtain ⟨va, hva⟩ : ∃ va, validB ta na sa = va := ⟨_, rfl⟩
  obtain ⟨vb, hvb⟩ : ∃ vb, validB tb nb sb = vb := ⟨_, rfl⟩
  have SA : Hid (∀ W, Calls Tryd.prog 11 #[val ta na sa] W fun e w' => e = .returned (.bool va) ∧ Below W.heap.size W w') := fun W => by have := specVV ta na sa hna1 hna2 W; rwa [hva] at this
  have SB : Hid (∀ W, Calls Tryd.prog 11 #[val tb nb sb] W fun e w' => e = .returned (.bool vb) ∧ Below W.heap.size W w') := fun W => by have := specVV tb nb sb hnb1 hnb2 W; rwa [hvb] at this
  have IA : Hid (∀ W, Calls Tryd.prog 12 #[val ta na sa] W fun e w' => e = .returned (.bool va) ∧ Below W.heap.size W w') := fun W => by have := implVV ta na sa hna1 hna2 W; rwa [hva] at this
  have IB : Hid (∀ W, Calls Tryd.prog 12 #[val tb nb sb] W fun e w' => e = .returned (.bool vb) ∧ Below W.heap.size W w') := fun W => by have := implVV tb nb sb hnb1 hnb2 W; rwa [hvb] at this
  have HVA := hid hva
  have HVB := hid hvb
  clear hva hvb
  have HR2 := hid (Below.refl W2.heap.size W2)
  have HWW : Hid (∀ W, Below W2.heap.size W2 W → Below w.heap.size w W) := fun W hW => go2 HB2.out hW
  obtain ⟨x0, x1, x2⟩ := HKA.out _ HR2.out
  go_wp2_with fail
  refine (SA.out _).mono ?_
  rintro e w3 ⟨rfl, hb3⟩
  have HB3 := hid hb3
  clear hb3 x0 x1 x2
  cases va
  · go_upto_region 5 with fail
    have a0 := fun p : Gr w3 => (HKA.out p.W (go2 HB3.out p.h)).1
    have a1 := fun p : Gr w3 => (HKA.out p.W (go2 HB3.out p.h)).2.1
    have a2 := fun p : Gr w3 => (HKA.out p.W (go2 HB3.out p.h)).2.2
    have b0 := fun p : Gr w3 => (HKB.out p.W (go2 HB3.out p.h)).1
    have b1 := fun p : Gr w3 => (HKB.out p.W (go2 HB3.out p.h)).2.1
    have b2 := fun p : Gr w3 => (HKB.out p.W (go2 HB3.out p.h)).2.2
    have hne2 : Nonempty (Gr w3) := ⟨⟨w3, Below.refl _ _⟩⟩
    refine wp_region_gr (by kernel_rfl) (by kernel_rfl) ?_
    repeat (go_big_quiet_step (first
      | (go_at_call_of 12 (Value.agg #[Value.int IntKind.i64 ta, Value.int IntKind.i64 na, Value.string sa]); refine Calls.gr_of (v := .bool false) fun _ => ?_; exact IA.out _)
      | (go_at_call_of 11 (Value.agg #[Value.int IntKind.i64 ta, Value.int IntKind.i64 na, Value.string sa]); refine Calls.gr_of (v := .bool false) fun _ => ?_; exact SA.out _)
      | (go_at_call_of 12 (Value.agg #[Value.int IntKind.i64 tb, Value.int IntKind.i64 nb, Value.string sb]); refine Calls.gr_of (v := .bool vb) fun _ => ?_; exact IB.out _)
      | (go_at_call_of 11 (Value.agg #[Value.int IntKind.i64 tb, Value.int IntKind.i64 nb, Value.string sb]); refine Calls.gr_of (v := .bool vb) fun _ => ?_; exact SB.out _)
      | fail))
    refine wpQuiet_nil ?_
    intro _ hw'
    obtain ⟨pw, rfl⟩ := hw'
    have HB6 := hid (go2 HB3.out pw.h)
    clear a0 a1 a2 b0 b1 b2
    go_wp2
    go_ret
    exact ⟨rfl, HWW.out _ HB6.out⟩
  · obtain ⟨x0, x1, x2⟩ := HKB.out _ HB3.out
    go_wp2_with fail
    refine (SB.out _).mono ?_
    rintro e w4 ⟨rfl, hb4⟩
    have HB4 := hid (go2 HB3.out hb4)
    clear hb4 x0 x1 x2
    cases vb
    · go_upto_region 5 with fail
      have a0 := fun p : Gr w4 => (HKA.out p.W (go2 HB4.out p.h)).1
      have a1 := fun p : Gr w4 => (HKA.out p.W (go2 HB4.out p.h)).2.1
      have a2 := fun p : Gr w4 => (HKA.out p.W (go2 HB4.out p.h)).2.2
      have b0 := fun p : Gr w4 => (HKB.out p.W (go2 HB4.out p.h)).1
      have b1 := fun p : Gr w4 => (HKB.out p.W (go2 HB4.out p.h)).2.1
      have b2 := fun p : Gr w4 => (HKB.out p.W (go2 HB4.out p.h)).2.2
      have hne2 : Nonempty (Gr w4) := ⟨⟨w4, Below.refl _ _⟩⟩
      refine wp_region_gr (by kernel_rfl) (by kernel_rfl) ?_
      repeat (go_big_quiet_step (first
        | (go_at_call_of 12 (Value.agg #[Value.int IntKind.i64 ta, Value.int IntKind.i64 na, Value.string sa]); refine Calls.gr_of (v := .bool true) fun _ => ?_; exact IA.out _)
        | (go_at_call_of 11 (Value.agg #[Value.int IntKind.i64 ta, Value.int IntKind.i64 na, Value.string sa]); refine Calls.gr_of (v := .bool true) fun _ => ?_; exact SA.out _)
        | (go_at_call_of 12 (Value.agg #[Value.int IntKind.i64 tb, Value.int IntKind.i64 nb, Value.string sb]); refine Calls.gr_of (v := .bool false) fun _ => ?_; exact IB.out _)
        | (go_at_call_of 11 (Value.agg #[Value.int IntKind.i64 tb, Value.int IntKind.i64 nb, Value.string sb]); refine Calls.gr_of (v := .bool false) fun _ => ?_; exact SB.out _)
        | fail))
      refine wpQuiet_nil ?_
      intro _ hw'
      obtain ⟨pw, rfl⟩ := hw'
      have HB6 := hid (go2 HB4.out pw.h)
      clear a0 a1 a2 b0 b1 b2
      go_wp2
      go_ret
      exact ⟨rfl, HWW.out _ HB6.out⟩
    obtain ⟨x0, x1, x2⟩ := HKA.out _ HB4.out
    obtain ⟨z0, z1, z2⟩ := HKB.out _ HB4.out
    by_cases ht : ta = tb
    · subst ht
      have htb : (ta != ta) = false := by simp
      by_cases h3n : ta < 3
      · go_upto_region 5 with fail
        clear x0 x1 x2 z0 z1 z2
        have a0 := fun p : Gr w4 => (HKA.out p.W (go2 HB4.out p.h)).1
        have a1 := fun p : Gr w4 => (HKA.out p.W (go2 HB4.out p.h)).2.1
        have a2 := fun p : Gr w4 => (HKA.out p.W (go2 HB4.out p.h)).2.2
        have b0 := fun p : Gr w4 => (HKB.out p.W (go2 HB4.out p.h)).1
        have b1 := fun p : Gr w4 => (HKB.out p.W (go2 HB4.out p.h)).2.1
        have b2 := fun p : Gr w4 => (HKB.out p.W (go2 HB4.out p.h)).2.2
        have hne2 : Nonempty (Gr w4) := ⟨⟨w4, Below.refl _ _⟩⟩
        refine wp_region_gr (by kernel_rfl) (by kernel_rfl) ?_
        repeat (go_big_quiet_step (first
          | (go_at_call_of 12 (Value.agg #[Value.int IntKind.i64 ta, Value.int IntKind.i64 na, Value.string sa]); refine Calls.gr_of (v := .bool true) fun _ => ?_; exact IA.out _)
          | (go_at_call_of 11 (Value.agg #[Value.int IntKind.i64 ta, Value.int IntKind.i64 na, Value.string sa]); refine Calls.gr_of (v := .bool true) fun _ => ?_; exact SA.out _)
          | (go_at_call_of 12 (Value.agg #[Value.int IntKind.i64 ta, Value.int IntKind.i64 nb, Value.string sb]); refine Calls.gr_of (v := .bool true) fun _ => ?_; exact IB.out _)
          | (go_at_call_of 11 (Value.agg #[Value.int IntKind.i64 ta, Value.int IntKind.i64 nb, Value.string sb]); refine Calls.gr_of (v := .bool true) fun _ => ?_; exact SB.out _)
          | fail))
        refine wpQuiet_nil ?_
        intro _ hw'
        obtain ⟨pw, rfl⟩ := hw'
        have HB6 := hid (go2 HB4.out pw.h)
        clear a0 a1 a2 b0 b1 b2
        go_wp2
        go_ret
        exact ⟨rfl, HWW.out _ HB6.out⟩
      have h3 : 3 ≤ ta := by omega
      have h10 : ta ≤ 10 := (valid_typ HVA.out).2
      go_upto_region 6 with fail
      clear SA SB IA IB x0 x1 x2 z0 z1 z2
      obtain ⟨w5, hw5⟩ : ∃ w5, w4 = w5 := ⟨_, rfl⟩
      have HB5 := hid HB4.out
      rw [hw5] at HB5 ⊢
      clear hw5 HB4 HB3
      have O11 : Hid (∀ W, Below W2.heap.size W2 W → Calls Tryd.prog 8 #[.int .i64 11, val ta na sa, val ta nb sb] W fun e w' => e = .returned (ans ta (cntT ta 11 na nb) wNone wNone) ∧ Below W.heap.size W w') := fun W hW => bits_op 11 ta na sa nb sb h3 h10 (by decide) HVA.out HVB.out hna1 hna2 hnb1 hnb2 p q l W (HE.out.next (HWW.out W hW))
      have O16 : Hid (∀ W, Below W2.heap.size W2 W → Calls Tryd.prog 8 #[.int .i64 16, val ta na sa, val ta nb sb] W fun e w' => e = .returned (ans ta (cntT ta 16 na nb) wNone wNone) ∧ Below W.heap.size W w') := fun W hW => bits_op 16 ta na sa nb sb h3 h10 (by decide) HVA.out HVB.out hna1 hna2 hnb1 hnb2 p q l W (HE.out.next (HWW.out W hW))
      have O12 : Hid (∀ W, Below W2.heap.size W2 W → Calls Tryd.prog 8 #[.int .i64 12, val ta na sa, val ta nb sb] W fun e w' => e = .returned (ans ta (cntT ta 12 na nb) wNone wNone) ∧ Below W.heap.size W w') := fun W hW => bits_op 12 ta na sa nb sb h3 h10 (by decide) HVA.out HVB.out hna1 hna2 hnb1 hnb2 p q l W (HE.out.next (HWW.out W hW))
      have O9 : Hid (∀ W, Below W2.heap.size W2 W → Calls Tryd.prog 8 #[.int .i64 9, val ta (cntT ta 16 na nb) wNone, val ta (cntT ta 12 na nb) wNone] W fun e w' => e = .returned (ans ta (cntT ta 9 (cntT ta 16 na nb) (cntT ta 12 na nb)) wNone wNone) ∧ Below W.heap.size W w') := fun W hW => bits_op 9 ta (cntT ta 16 na nb) wNone (cntT ta 12 na nb) wNone h3 h10 (by decide) (valid_mk h3 h10 (cnt_into ta 16 na nb (by decide))) (valid_mk h3 h10 (cnt_into ta 12 na nb (by decide))) (cnt_bd ta 16 na nb (by decide)).1 (cnt_bd ta 16 na nb (by decide)).2 (cnt_bd ta 12 na nb (by decide)).1 (cnt_bd ta 12 na nb (by decide)).2 p q l W (HE.out.next (HWW.out W hW))
      rw [or_sum] at O9
      obtain ⟨zo, hzo⟩ : ∃ z, cntT ta 11 na nb = z := ⟨_, rfl⟩
      obtain ⟨zn, hzn⟩ : ∃ z, cntT ta 16 na nb = z := ⟨_, rfl⟩
      obtain ⟨zx, hzx⟩ : ∃ z, cntT ta 12 na nb = z := ⟨_, rfl⟩
      rw [hzo, hzn, hzx] at O9
      rw [hzo] at O11
      rw [hzn] at O16
      rw [hzx] at O12
      clear hzo hzn hzx
      have HL : Hid (∀ (j : Int), j = 17 ∨ j = 18 → ∀ k : Nat, k ≤ 100 → ∃ zp zq, (∀ W, Below W2.heap.size W2 W → Calls Tryd.prog 8 #[.int .i64 j, val ta na sa, val ta (k : Int) wNone] W fun e w' => e = .returned (ans ta zp wNone wNone) ∧ Below W.heap.size W w') ∧ (∀ W, Below W2.heap.size W2 W → Calls Tryd.prog 8 #[.int .i64 j, val ta zp wNone, val ta 1 wNone] W fun e w' => e = .returned (ans ta zq wNone wNone) ∧ Below W.heap.size W w') ∧ (∀ W, Below W2.heap.size W2 W → Calls Tryd.prog 8 #[.int .i64 j, val ta na sa, val ta ((k : Int) + 1) wNone] W fun e w' => e = .returned (ans ta zq wNone wNone) ∧ Below W.heap.size W w')) := fun j hj k hk => by
        have hj6 : j = 9 ∨ j = 11 ∨ j = 12 ∨ j = 16 ∨ j = 17 ∨ j = 18 := by omega
        refine ⟨cntT ta j na k, cntT ta j na ((k : Int) + 1), fun W hW => ?_, fun W hW => ?_, fun W hW => ?_⟩
        · exact bits_op j ta na sa k wNone h3 h10 hj6 HVA.out (valid_mk h3 h10 (small_into ta (by omega) (by omega))) hna1 hna2 (by omega) (by omega) p q l W (HE.out.next (HWW.out W hW))
        · have e : cntT ta j (cntT ta j na k) 1 = cntT ta j na ((k : Int) + 1) := by
            rcases hj with rfl | rfl
            · exact shl_add ta na k hk
            · exact shr_add ta na k hk
          have := bits_op j ta (cntT ta j na k) wNone 1 wNone h3 h10 hj6 (valid_mk h3 h10 (cnt_into ta j na k hj6)) (valid_mk h3 h10 (small_into ta (by decide) (by decide))) (cnt_bd ta j na k hj6).1 (cnt_bd ta j na k hj6).2 (by decide) (by decide) p q l W (HE.out.next (HWW.out W hW))
          rwa [e] at this
        · exact bits_op j ta na sa ((k : Int) + 1) wNone h3 h10 hj6 HVA.out (valid_mk h3 h10 (small_into ta (by omega) (by omega))) hna1 hna2 (by omega) (by omega) p q l W (HE.out.next (HWW.out W hW))
      have hcat : (wNone ++ wNone : ByteArray) = wNone := rfl
      obtain ⟨x0, x1, x2⟩ := HKA.out _ HB5.out
      obtain ⟨z0, z1, z2⟩ := HKB.out _ HB5.out
      go_wp2_with fail
      refine (O11.out _ HB5.out).mono ?_
      rintro e w6 ⟨rfl, hb6⟩
      have HB6 := hid (go2 (go2 HB5.out hb6) (alloc_below w6 (vbox ta zo wNone)))
      have HG6 := hid (heap_new w6 (vbox ta zo wNone))
      clear hb6 x0 x1 x2
      try clear z0 z1 z2
      go_upto_region 7 with fail
      obtain ⟨g6, hg6⟩ : ∃ g, w6.heap.size = g := ⟨_, rfl⟩
      obtain ⟨W6, hW6⟩ : ∃ W, w6.alloc (vbox ta zo wNone) = W := ⟨_, rfl⟩
      rw [hW6] at HB6 HG6 ⊢
      rw [hg6] at HG6 ⊢
      clear hg6 hW6
      obtain ⟨x0, x1, x2⟩ := HKA.out _ HB6.out
      obtain ⟨z0, z1, z2⟩ := HKB.out _ HB6.out
      go_wp2_with fail
      refine (O16.out _ HB6.out).mono ?_
      rintro e w7 ⟨rfl, hb7⟩
      have HB7 := hid (go2 (go2 HB6.out hb7) (alloc_below w7 (vbox ta zn wNone)))
      have HG7 := hid (heap_new w7 (vbox ta zn wNone))
      have HG6 := hid (keep_box HG6.out (go2 hb7 (alloc_below w7 (vbox ta zn wNone))))
      clear hb7 x0 x1 x2
      try clear z0 z1 z2
      go_upto_region 8 with fail
      obtain ⟨g7, hg7⟩ : ∃ g, w7.heap.size = g := ⟨_, rfl⟩
      obtain ⟨W7, hW7⟩ : ∃ W, w7.alloc (vbox ta zn wNone) = W := ⟨_, rfl⟩
      rw [hW7] at HB7 HG7 HG6 ⊢
      rw [hg7] at HG7 ⊢
      clear hg7 hW7
      obtain ⟨x0, x1, x2⟩ := HKA.out _ HB7.out
      obtain ⟨z0, z1, z2⟩ := HKB.out _ HB7.out
      go_wp2_with fail
      refine (O12.out _ HB7.out).mono ?_
      rintro e w8 ⟨rfl, hb8⟩
      have HB8 := hid (go2 (go2 HB7.out hb8) (alloc_below w8 (vbox ta zx wNone)))
      have HG8 := hid (heap_new w8 (vbox ta zx wNone))
      have HG6 := hid (keep_box HG6.out (go2 hb8 (alloc_below w8 (vbox ta zx wNone))))
      have HG7 := hid (keep_box HG7.out (go2 hb8 (alloc_below w8 (vbox ta zx wNone))))
      clear hb8 x0 x1 x2
      try clear z0 z1 z2
      go_upto_region 9 with fail
      obtain ⟨g8, hg8⟩ : ∃ g, w8.heap.size = g := ⟨_, rfl⟩
      obtain ⟨W8, hW8⟩ : ∃ W, w8.alloc (vbox ta zx wNone) = W := ⟨_, rfl⟩
      rw [hW8] at HB8 HG8 HG6 HG7 ⊢
      rw [hg8] at HG8 ⊢
      clear hg8 hW8
      obtain ⟨x0, x1, x2, _, _, _⟩ := six HG7.out
      obtain ⟨z0, z1, z2, _, _, _⟩ := six HG8.out
      go_wp2_with fail
      refine (O9.out _ HB8.out).mono ?_
      rintro e w9 ⟨rfl, hb9⟩
      have HB9 := hid (go2 (go2 HB8.out hb9) (alloc_below w9 (vbox ta zo wNone)))
      have HG9 := hid (heap_new w9 (vbox ta zo wNone))
      have HG6 := hid (keep_box HG6.out (go2 hb9 (alloc_below w9 (vbox ta zo wNone))))
      have HG7 := hid (keep_box HG7.out (go2 hb9 (alloc_below w9 (vbox ta zo wNone))))
      have HG8 := hid (keep_box HG8.out (go2 hb9 (alloc_below w9 (vbox ta zo wNone))))
      clear hb9 x0 x1 x2
      try clear z0 z1 z2
      go_upto_region 10 with fail
      obtain ⟨g9, hg9⟩ : ∃ g, w9.heap.size = g := ⟨_, rfl⟩
      obtain ⟨W9, hW9⟩ : ∃ W, w9.alloc (vbox ta zo wNone) = W := ⟨_, rfl⟩
      rw [hW9] at HB9 HG9 HG6 HG7 HG8 ⊢
      rw [hg9] at HG9 ⊢
      clear hg9 hW9
      have ns := neqSame ta zo wNone
      obtain ⟨x0, x1, x2, _, _, _⟩ := six HG9.out
      obtain ⟨z0, z1, z2, _, _, _⟩ := six HG6.out
      obtain ⟨k, hk⟩ : ∃ k : Nat, n % 70 = k := ⟨_, rfl⟩
      have hk2 : (n : Int) % 70 = (k : Int) := by omega
      have hk70 : k < 70 := by omega
      clear hk
      go_wp2_with fail
      rw [hk2]
      clear x0 x1 x2 z0 z1 z2 ns O11 O16 O12 O9 hk2
      go_loopw [15] (fun c wr => ∃ j : Int, c = .int .i64 j ∧ 17 ≤ j ∧ j ≤ 19 ∧ Below W2.heap.size W2 wr) (fun c _ => (19 - intOf c).toNat)
      case atStart => exact ⟨17, rfl, by decide, by decide, HB9.out⟩
      case round =>
        obtain ⟨j, rfl, j1, j2, hbr⟩ := hrel
        have HB20 := hid hbr
        clear hbr
        by_cases hj : j ≤ 18
        · obtain ⟨zp, zq, P1, P2, P3⟩ := HL.out j (by omega) k (by omega)
          have HP1 := hid P1
          have HP2 := hid P2
          have HP3 := hid P3
          have ns := neqSame ta zq wNone
          clear P1 P2 P3
          obtain ⟨x0, x1, x2⟩ := HKA.out _ HB20.out
          go_wp2_with fail
          refine (HP1.out _ HB20.out).mono ?_
          rintro e w21 ⟨rfl, hb21⟩
          have HB21 := hid (go2 (go2 HB20.out hb21) (alloc_below w21 (vbox ta zp wNone)))
          have HG21 := hid (heap_new w21 (vbox ta zp wNone))
          clear hb21 x0 x1 x2
          try clear z0 z1 z2
          go_upto_region 17 with fail
          obtain ⟨g21, hg21⟩ : ∃ g, w21.heap.size = g := ⟨_, rfl⟩
          obtain ⟨W21, hW21⟩ : ∃ W, w21.alloc (vbox ta zp wNone) = W := ⟨_, rfl⟩
          rw [hW21] at HB21 HG21 ⊢
          rw [hg21] at HG21 ⊢
          clear hg21 hW21
          obtain ⟨x0, x1, x2⟩ := HKA.out _ HB21.out
          obtain ⟨z0, z1, z2, _, _, _⟩ := six HG21.out
          go_wp2_with fail
          refine (HP2.out _ HB21.out).mono ?_
          rintro e w22 ⟨rfl, hb22⟩
          have HB22 := hid (go2 (go2 HB21.out hb22) (alloc_below w22 (vbox ta zq wNone)))
          have HG22 := hid (heap_new w22 (vbox ta zq wNone))
          have HG21 := hid (keep_box HG21.out (go2 hb22 (alloc_below w22 (vbox ta zq wNone))))
          clear hb22 x0 x1 x2
          try clear z0 z1 z2
          go_upto_region 18 with fail
          obtain ⟨g22, hg22⟩ : ∃ g, w22.heap.size = g := ⟨_, rfl⟩
          obtain ⟨W22, hW22⟩ : ∃ W, w22.alloc (vbox ta zq wNone) = W := ⟨_, rfl⟩
          rw [hW22] at HB22 HG22 HG21 ⊢
          rw [hg22] at HG22 ⊢
          clear hg22 hW22
          obtain ⟨x0, x1, x2⟩ := HKA.out _ HB22.out
          go_wp2_with fail
          refine (HP3.out _ HB22.out).mono ?_
          rintro e w23 ⟨rfl, hb23⟩
          have HB23 := hid (go2 (go2 HB22.out hb23) (alloc_below w23 (vbox ta zq wNone)))
          have HG23 := hid (heap_new w23 (vbox ta zq wNone))
          have HG21 := hid (keep_box HG21.out (go2 hb23 (alloc_below w23 (vbox ta zq wNone))))
          have HG22 := hid (keep_box HG22.out (go2 hb23 (alloc_below w23 (vbox ta zq wNone))))
          clear hb23 x0 x1 x2
          try clear z0 z1 z2
          go_upto_region 19 with fail
          obtain ⟨g23, hg23⟩ : ∃ g, w23.heap.size = g := ⟨_, rfl⟩
          obtain ⟨W23, hW23⟩ : ∃ W, w23.alloc (vbox ta zq wNone) = W := ⟨_, rfl⟩
          rw [hW23] at HB23 HG23 HG21 HG22 ⊢
          rw [hg23] at HG23 ⊢
          clear hg23 hW23
          obtain ⟨x0, x1, x2, _, _, _⟩ := six HG22.out
          obtain ⟨z0, z1, z2, _, _, _⟩ := six HG23.out
          go_wp2
          go_roundw
          case rel =>
            exact ⟨j + 1, by go_num, by omega, by omega, HB23.out⟩
          case measure => simp [intOf]; omega
        · go_wp2
          go_ret
          exact ⟨rfl, HWW.out _ HB20.out⟩
    · have htb : (ta != tb) = true := by simpa using ht
      go_upto_region 5 with fail
      clear x0 x1 x2 z0 z1 z2
      have a0 := fun p : Gr w4 => (HKA.out p.W (go2 HB4.out p.h)).1
      have a1 := fun p : Gr w4 => (HKA.out p.W (go2 HB4.out p.h)).2.1
      have a2 := fun p : Gr w4 => (HKA.out p.W (go2 HB4.out p.h)).2.2
      have b0 := fun p : Gr w4 => (HKB.out p.W (go2 HB4.out p.h)).1
      have b1 := fun p : Gr w4 => (HKB.out p.W (go2 HB4.out p.h)).2.1
      have b2 := fun p : Gr w4 => (HKB.out p.W (go2 HB4.out p.h)).2.2
      have hne2 : Nonempty (Gr w4) := ⟨⟨w4, Below.refl _ _⟩⟩
      refine wp_region_gr (by kernel_rfl) (by kernel_rfl) ?_
      repeat (go_big_quiet_step (first
        | (go_at_call_of 12 (Value.agg #[Value.int IntKind.i64 ta, Value.int IntKind.i64 na, Value.string sa]); refine Calls.gr_of (v := .bool true) fun _ => ?_; exact IA.out _)
        | (go_at_call_of 11 (Value.agg #[Value.int IntKind.i64 ta, Value.int IntKind.i64 na, Value.string sa]); refine Calls.gr_of (v := .bool true) fun _ => ?_; exact SA.out _)
        | (go_at_call_of 12 (Value.agg #[Value.int IntKind.i64 tb, Value.int IntKind.i64 nb, Value.string sb]); refine Calls.gr_of (v := .bool true) fun _ => ?_; exact IB.out _)
        | (go_at_call_of 11 (Value.agg #[Value.int IntKind.i64 tb, Value.int IntKind.i64 nb, Value.string sb]); refine Calls.gr_of (v := .bool true) fun _ => ?_; exact SB.out _)
        | fail))
      refine wpQuiet_nil ?_
      intro _ hw'
      obtain ⟨pw, rfl⟩ := hw'
      have HB6 := hid (go2 HB4.out pw.h)
      clear a0 a1 a2 b0 b1 b2
      go_wp2
      go_ret
      exact ⟨rfl, HWW.out _ HB6.out⟩
end Go.Proofs.YtmmgpbjmegfffaaDoor.V
