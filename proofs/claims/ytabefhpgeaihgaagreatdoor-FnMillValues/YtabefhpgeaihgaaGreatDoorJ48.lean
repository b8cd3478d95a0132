import Derived.Laws.StructEq
import Derived.Test.YtabefhpgeaihgaaGreatDoorJ46
import Derived.Test.YtabefhpgeaihgaaGreatDoorJ42
import Derived.Test.YtabefhpgeaihgaaGreatDoorJ14
/-! Printed by gen_vlawn.py. The law of values. -/
namespace Go.Proofs.YtabefhpgeaihgaaGreatDoor.V
open Go.RowKit Go.Shelf
set_option maxRecDepth 20000
theorem eqSame (t n : Int) (s : ByteArray) (w : World) : (Op.equalIn 10000 24 (val t n s) (val t n s)).run Tryz.prog w = .ok true w := by
  have u3 := Tryz.underlying3
  have u2 := Tryz.underlying2
  have u9 := Tryz.underlying9
  have hS : Tryz.prog.underlying 24 = some (.struct (Tryz.prog.fieldsOf 24)) := by kernel_rfl
  have hp : Tryz.prog.stoodInHeld 24 = false := by kernel_rfl
  rw [show (10000 : Nat) = 9999 + 1 from rfl, run_equalIn_agg w 9999 24 _ _ hS hp]
  simp only [Program.fieldsOf, Tryz.underlying24]
  go_simp
theorem neqSame (t n : Int) (s : ByteArray) (w : World) : (binOp .neq 24 (val t n s) (val t n s)).run Tryz.prog w = .ok (.bool false) w := by
  rw [run_neq_struct, eqSame]; rfl
theorem eqlSame (t n : Int) (s : ByteArray) (w : World) : (binOp .eql 24 (val t n s) (val t n s)).run Tryz.prog w = .ok (.bool true) w := by
  rw [run_eql_struct, eqSame]; rfl
set_option maxHeartbeats 16000000 in
theorem law_values (ad : Option Addr) (n cap : Nat) (w : World) (hc : n ≤ cap) (hcm : cap ≤ 9223372036854775807) (h : n ≤ 1048576 → CodeA w ad n) (hnil : ad = none → n = 0 ∧ cap = 0) (p q r d : Addr) (hE : EnvV w p q r d) :
    Calls Tryz.prog 3 #[.slice ad n cap] w fun e w' => e = .returned (.bool true) ∧ Below w.heap.size w w' := by
  have HE := hid hE
  clear hE
  have hn9 : (n : Int) ≤ 9223372036854775807 := by omega
  by_cases hbig : 1048576 < n
  · clear h hnil
    go_enter Tryz.func3, Tryz.ntmps3
    go_wp2
    go_ret
    exact ⟨rfl, Below.refl _ _⟩
  have HD := hid (draw_any ad n cap w (by omega) hc hcm (h (by omega)) hnil)
  clear h hnil
  go_enter Tryz.func3, Tryz.ntmps3
  go_wp2_with fail
  refine HD.out.mono ?_
  rintro e w1 ⟨op, ta, na, sa, tb, nb, sb, rfl, hna, hnb, hb1⟩
  obtain ⟨hna1, hna2⟩ := hna
  obtain ⟨hnb1, hnb2⟩ := hnb
  have HB2 := hid (go2 hb1 (alloc2 w1 (vbox ta na sa) (vbox tb nb sb)))
  have HGA : Hid (((w1.alloc (vbox ta na sa)).alloc (vbox tb nb sb)).heap[w1.heap.size]? = some (vbox ta na sa)) := heap_old (heap_new w1 _)
  have HGB : Hid (((w1.alloc (vbox ta na sa)).alloc (vbox tb nb sb)).heap[w1.heap.size + 1]? = some (vbox tb nb sb)) := by
    have := heap_new (w1.alloc (vbox ta na sa)) (vbox tb nb sb)
    rwa [World.size_alloc] at this
  clear hb1 HD
  go_upto_region 4 with fail
  obtain ⟨W2, hW2⟩ : ∃ W2, (w1.alloc (vbox ta na sa)).alloc (vbox tb nb sb) = W2 := ⟨_, rfl⟩
  obtain ⟨gb, hgb⟩ : ∃ gb, w1.heap.size + 1 = gb := ⟨_, rfl⟩
  rw [hW2] at HB2 HGA HGB ⊢
  rw [hgb] at HGB ⊢
  obtain ⟨ga, hga⟩ : ∃ ga, w1.heap.size = ga := ⟨_, rfl⟩
  rw [hga] at HGA ⊢
  clear hga hgb hW2
  have HKA : Hid (∀ W, Below W2.heap.size W2 W → W.cell? ⟨ga, 0, none⟩ = some (.int .i64 ta) ∧ W.cell? ⟨ga, 1, none⟩ = some (.int .i64 na) ∧ W.cell? ⟨ga, 2, none⟩ = some (.string sa)) := fun W hW => by
    obtain ⟨a, b, c, _⟩ := six (keep_box HGA.out hW)
    exact ⟨a, b, c⟩
  have HKB : Hid (∀ W, Below W2.heap.size W2 W → W.cell? ⟨gb, 0, none⟩ = some (.int .i64 tb) ∧ W.cell? ⟨gb, 1, none⟩ = some (.int .i64 nb) ∧ W.cell? ⟨gb, 2, none⟩ = some (.string sb)) := fun W hW => by
    obtain ⟨a, b, c, _⟩ := six (keep_box HGB.out hW)
    exact ⟨a, b, c⟩
  obtain ⟨va, hva⟩ : ∃ va, validB ta na sa = va := ⟨_, rfl⟩
  obtain ⟨vb, hvb⟩ : ∃ vb, validB tb nb sb = vb := ⟨_, rfl⟩
  have SA : Hid (∀ W, Calls Tryz.prog 5 #[val ta na sa] W fun e w' => e = .returned (.bool va) ∧ Below W.heap.size W w') := fun W => by have := specVV ta na sa hna1 hna2 W; rwa [hva] at this
  have SB : Hid (∀ W, Calls Tryz.prog 5 #[val tb nb sb] W fun e w' => e = .returned (.bool vb) ∧ Below W.heap.size W w') := fun W => by have := specVV tb nb sb hnb1 hnb2 W; rwa [hvb] at this
  have IA : Hid (∀ W, Calls Tryz.prog 9 #[val ta na sa] W fun e w' => e = .returned (.bool va) ∧ Below W.heap.size W w') := fun W => by have := implVV ta na sa hna1 hna2 W; rwa [hva] at this
  have IB : Hid (∀ W, Calls Tryz.prog 9 #[val tb nb sb] W fun e w' => e = .returned (.bool vb) ∧ Below W.heap.size W w') := fun W => by have := implVV tb nb sb hnb1 hnb2 W; rwa [hvb] at this
  have HVA := hid hva
  have HVB := hid hvb
  clear hva hvb
  have HR2 := hid (Below.refl W2.heap.size W2)
  have HWW : Hid (∀ W, Below W2.heap.size W2 W → Below w.heap.size w W) := fun W hW => go2 HB2.out hW
  have BT : Hid (¬ (va = true ∧ vb = true ∧ ta = tb ∧ 3 ≤ ta) → ∀ W, Below W2.heap.size W2 W → Calls Tryz.prog 6 #[.int .i64 13, val ta na sa, val tb nb sb] W fun e w' => e = .returned (ans 0 0 wNone wType) ∧ Below W.heap.size W w') := fun h W hW => bin_typ ta na sa tb nb sb (by rw [HVA.out, HVB.out]; exact h) hna1 hna2 hnb1 hnb2 p W (HE.out.next (HWW.out W hW)).bl.ty
  obtain ⟨x0, x1, x2⟩ := HKA.out _ HR2.out
  go_wp2_with fail
  refine (SA.out _).mono ?_
  rintro e w3 ⟨rfl, hb3⟩
  have HB3 := hid hb3
  clear hb3 x0 x1 x2
  cases va
  · obtain ⟨x0, x1, x2⟩ := HKA.out _ HB3.out
    obtain ⟨z0, z1, z2⟩ := HKB.out _ HB3.out
    have es := eqlSame 0 0 wNone
    have hwt : wType.toList = [116, 121, 112, 101] := by rw [Lib.toList_data]; rfl
    go_wp2_with fail
    refine (BT.out (by simp) _ HB3.out).mono ?_
    rintro e w6 ⟨rfl, hb6⟩
    have HB6 := hid (go2 (go2 HB3.out hb6) (alloc_below w6 (vbox 0 0 wNone)))
    have HG6 := hid (heap_new w6 (vbox 0 0 wNone))
    clear hb6 x0 x1 x2 z0 z1 z2
    go_upto_region 6 with fail
    obtain ⟨g6, hg6⟩ : ∃ g, w6.heap.size = g := ⟨_, rfl⟩
    obtain ⟨W6, hW6⟩ : ∃ W, w6.alloc (vbox 0 0 wNone) = W := ⟨_, rfl⟩
    rw [hW6] at HB6 HG6 ⊢
    rw [hg6] at HG6 ⊢
    clear hg6 hW6
    obtain ⟨x0, x1, x2, _, _, _⟩ := six HG6.out
    go_wp2
    go_ret
    exact ⟨rfl, HWW.out _ HB6.out⟩
  · obtain ⟨x0, x1, x2⟩ := HKB.out _ HB3.out
    go_wp2_with fail
    refine (SB.out _).mono ?_
    rintro e w4 ⟨rfl, hb4⟩
    have HB4 := hid (go2 HB3.out hb4)
    clear hb4 x0 x1 x2
    cases vb
    · obtain ⟨x0, x1, x2⟩ := HKA.out _ HB4.out
      obtain ⟨z0, z1, z2⟩ := HKB.out _ HB4.out
      have es := eqlSame 0 0 wNone
      have hwt : wType.toList = [116, 121, 112, 101] := by rw [Lib.toList_data]; rfl
      go_wp2_with fail
      refine (BT.out (by simp) _ HB4.out).mono ?_
      rintro e w6 ⟨rfl, hb6⟩
      have HB6 := hid (go2 (go2 HB4.out hb6) (alloc_below w6 (vbox 0 0 wNone)))
      have HG6 := hid (heap_new w6 (vbox 0 0 wNone))
      clear hb6 x0 x1 x2 z0 z1 z2
      go_upto_region 6 with fail
      obtain ⟨g6, hg6⟩ : ∃ g, w6.heap.size = g := ⟨_, rfl⟩
      obtain ⟨W6, hW6⟩ : ∃ W, w6.alloc (vbox 0 0 wNone) = W := ⟨_, rfl⟩
      rw [hW6] at HB6 HG6 ⊢
      rw [hg6] at HG6 ⊢
      clear hg6 hW6
      obtain ⟨x0, x1, x2, _, _, _⟩ := six HG6.out
      go_wp2
      go_ret
      exact ⟨rfl, HWW.out _ HB6.out⟩
    by_cases ht : ta = tb
    · subst ht
      have htb : (ta != ta) = false := by simp
      by_cases h3n : ta < 3
      · obtain ⟨x0, x1, x2⟩ := HKA.out _ HB4.out
        obtain ⟨z0, z1, z2⟩ := HKB.out _ HB4.out
        have es := eqlSame 0 0 wNone
        have hwt : wType.toList = [116, 121, 112, 101] := by rw [Lib.toList_data]; rfl
        go_wp2_with fail
        refine (BT.out (by omega) _ HB4.out).mono ?_
        rintro e w6 ⟨rfl, hb6⟩
        have HB6 := hid (go2 (go2 HB4.out hb6) (alloc_below w6 (vbox 0 0 wNone)))
        have HG6 := hid (heap_new w6 (vbox 0 0 wNone))
        clear hb6 x0 x1 x2 z0 z1 z2
        go_upto_region 6 with fail
        obtain ⟨g6, hg6⟩ : ∃ g, w6.heap.size = g := ⟨_, rfl⟩
        obtain ⟨W6, hW6⟩ : ∃ W, w6.alloc (vbox 0 0 wNone) = W := ⟨_, rfl⟩
        rw [hW6] at HB6 HG6 ⊢
        rw [hg6] at HG6 ⊢
        clear hg6 hW6
        obtain ⟨x0, x1, x2, _, _, _⟩ := six HG6.out
        go_wp2
        go_ret
        exact ⟨rfl, HWW.out _ HB6.out⟩
      have h3 : 3 ≤ ta := by omega
      have h10 : ta ≤ 10 := (valid_typN HVA.out).2
      obtain ⟨hva, rfl⟩ := valid_intN h3 h10 HVA.out
      obtain ⟨hvb, rfl⟩ := valid_intN h3 h10 HVB.out
      clear SA SB BT HVA HVB
      have IV : Hid (∀ z, z = into ta z → -9223372036854775808 ≤ z → z ≤ 9223372036854775807 → ∀ W, Calls Tryz.prog 9 #[val ta z wNone] W fun e w' => e = .returned (.bool true) ∧ Below W.heap.size W w') := fun z hz h1 h2 W => by have := implVV ta z wNone h1 h2 W; rwa [valid_mkN h3 h10 hz] at this
      have IVC : Hid (∀ W, Calls Tryz.prog 9 #[val 10 na wNone] W fun e w' => e = .returned (.bool true) ∧ Below W.heap.size W w') := fun W => by have := implVV 10 na wNone hna1 hna2 W; rwa [valid_mkN (t := 10) (by decide) (by decide) (into_ten na hna1 hna2).symm] at this
      have UN : Hid (∀ W, Below W2.heap.size W2 W → Calls Tryz.prog 7 #[.int .i64 1, val ta na wNone] W fun e w' => e = .returned (ans ta (cntT ta 10 0 na) wNone wNone) ∧ Below W.heap.size W w') := fun W hW => un_neg h3 h10 hva hna1 hna2 p W (HE.out.next (HWW.out W hW)).bl.ty
      have BS : Hid (∀ W, Below W2.heap.size W2 W → Calls Tryz.prog 6 #[.int .i64 9, val ta na wNone, val ta (cntT ta 10 0 na) wNone] W fun e w' => e = .returned (ans ta 0 wNone wNone) ∧ Below W.heap.size W w') := fun W _ => by
        have := bin_cnt h3 h10 hva (cnt_self ta 10 0 na (by decide) (by decide)) hna1 hna2 (cnt_bds ta 10 0 na (by decide) (by decide)).1 (cnt_bds ta 10 0 na (by decide) (by decide)).2 9 (by decide) (by decide) (fun h => absurd h (by decide)) W
        rwa [neg_add] at this
      have VN := cnt_self ta 10 0 na (by decide) (by decide)
      have VN2 := cnt_bds ta 10 0 na (by decide) (by decide)
      have UI : Hid (∀ W, Below W2.heap.size W2 W → Calls Tryz.prog 7 #[.int .i64 3, val ta na wNone] W fun e w' => e = .returned (ans ta (cntT ta 12 na (-1)) wNone wNone) ∧ Below W.heap.size W w') := fun W hW => un_inv h3 h10 hva hna1 hna2 p W (HE.out.next (HWW.out W hW)).bl.ty
      have VI := cnt_self ta 12 na (-1) (by decide) (by decide)
      have VI2 := cnt_bds ta 12 na (-1) (by decide) (by decide)
      have UI2 : Hid (∀ W, Below W2.heap.size W2 W → Calls Tryz.prog 7 #[.int .i64 3, val ta (cntT ta 12 na (-1)) wNone] W fun e w' => e = .returned (ans ta na wNone wNone) ∧ Below W.heap.size W w') := fun W hW => by
        have := un_inv h3 h10 VI VI2.1 VI2.2 p W (HE.out.next (HWW.out W hW)).bl.ty
        rwa [inv_inv ta na hva] at this
      have CV : Hid (∀ W, Below W2.heap.size W2 W → Calls Tryz.prog 8 #[val ta na wNone, .int .i64 10] W fun e w' => e = .returned (ans 10 na wNone wNone) ∧ Below W.heap.size W w') := fun W hW => by
        have := conv_to h3 h10 hva hna1 hna2 10 (by decide) (by decide) p W (HE.out.next (HWW.out W hW)).bl.ty
        rwa [into_ten na hna1 hna2] at this
      have CV2 : Hid (∀ W, Below W2.heap.size W2 W → Calls Tryz.prog 8 #[val 10 na wNone, .int .i64 ta] W fun e w' => e = .returned (ans ta na wNone wNone) ∧ Below W.heap.size W w') := fun W hW => by
        have := conv_to (t := 10) (by decide) (by decide) (into_ten na hna1 hna2).symm hna1 hna2 ta h3 h10 p W (HE.out.next (HWW.out W hW)).bl.ty
        rwa [← hva] at this
      have BD : Hid (∀ W g, Below W2.heap.size W2 W → W.heap[g]? = some (vbox 10 na wNone) → Calls Tryz.prog 10 #[.int .i64 11, .slice (some ⟨g, 0, none⟩) 1 1] W fun e w' => e = .returned (ans 2 0 (decB na) wNone) ∧ Below W.heap.size W w') := fun W g hW hg => built_dec na hna1 hna2 g p q r W hg (HE.out.next (HWW.out W hW)).bl
      have BM : Hid (∀ W g, Below W2.heap.size W2 W → W.heap[g]? = some (vbox 2 0 (decB na)) → Calls Tryz.prog 10 #[.int .i64 12, .slice (some ⟨g, 0, none⟩) 1 1] W fun e w' => e = .returned (ans 10 na wNone wNone) ∧ Below W.heap.size W w') := fun W g hW hg => built_num na hna1 hna2 g p q r W hg (HE.out.next (HWW.out W hW)).bl
      have IVN : Hid (∀ W, Calls Tryz.prog 9 #[val ta (cntT ta 10 0 na) wNone] W fun e w' => e = .returned (.bool true) ∧ Below W.heap.size W w') := fun W => IV.out _ VN VN2.1 VN2.2 W
      have IVI : Hid (∀ W, Calls Tryz.prog 9 #[val ta (cntT ta 12 na (-1)) wNone] W fun e w' => e = .returned (.bool true) ∧ Below W.heap.size W w') := fun W => IV.out _ VI VI2.1 VI2.2 W
      have hcat : (wNone ++ wNone : ByteArray) = wNone := rfl
      have HVAB := hid (And.intro hva hvb)
      clear hva hvb VN VN2 VI VI2
      obtain ⟨zn, hzn⟩ : ∃ z, cntT ta 10 0 na = z := ⟨_, rfl⟩
      obtain ⟨zi, hzi⟩ : ∃ z, cntT ta 12 na (-1) = z := ⟨_, rfl⟩
      rw [hzn] at UN BS IVN
      rw [hzi] at UI UI2 IVI
      clear hzn hzi
      obtain ⟨x0, x1, x2⟩ := HKA.out _ HB4.out
      obtain ⟨z0, z1, z2⟩ := HKB.out _ HB4.out
      have HB5 := hid (go2 HB4.out (alloc_below w4 (vbox ta 0 wNone)))
      have HG5 := hid (heap_new w4 (vbox ta 0 wNone))
      go_upto_region 8 with fail
      clear x0 x1 x2 z0 z1 z2
      obtain ⟨g5, hg5⟩ : ∃ g, w4.heap.size = g := ⟨_, rfl⟩
      obtain ⟨W5, hW5⟩ : ∃ W, w4.alloc (vbox ta 0 wNone) = W := ⟨_, rfl⟩
      rw [hW5] at HB5 HG5 ⊢
      rw [hg5] at HG5 ⊢
      clear hg5 hW5 HB3 HB4
      obtain ⟨x0, x1, x2⟩ := HKA.out _ HB5.out
      go_wp2_with fail
      refine (UN.out _ HB5.out).mono ?_
      rintro e w8 ⟨rfl, hb8⟩
      have HB8 := hid (go2 (go2 HB5.out hb8) (alloc_below w8 (vbox ta zn wNone)))
      have HG8 := hid (heap_new w8 (vbox ta zn wNone))
      have HG5 := hid (keep_box HG5.out (go2 hb8 (alloc_below w8 (vbox ta zn wNone))))
      clear hb8
      try clear x0 x1 x2
      try clear z0 z1 z2
      go_upto_region 9 with fail
      obtain ⟨g8, hg8⟩ : ∃ g, w8.heap.size = g := ⟨_, rfl⟩
      obtain ⟨W8, hW8⟩ : ∃ W, w8.alloc (vbox ta zn wNone) = W := ⟨_, rfl⟩
      rw [hW8] at HB8 HG8 HG5 ⊢
      rw [hg8] at HG8 ⊢
      clear hg8 hW8 HB5
      obtain ⟨x0, x1, x2⟩ := HKA.out _ HB8.out
      obtain ⟨z0, z1, z2, _, _, _⟩ := six HG8.out
      go_wp2_with fail
      refine (BS.out _ HB8.out).mono ?_
      rintro e w9 ⟨rfl, hb9⟩
      have HB9 := hid (go2 (go2 HB8.out hb9) (alloc_below w9 (vbox ta 0 wNone)))
      have HG9 := hid (heap_new w9 (vbox ta 0 wNone))
      have HG5 := hid (keep_box HG5.out (go2 hb9 (alloc_below w9 (vbox ta 0 wNone))))
      have HG8 := hid (keep_box HG8.out (go2 hb9 (alloc_below w9 (vbox ta 0 wNone))))
      clear hb9
      try clear x0 x1 x2
      try clear z0 z1 z2
      go_upto_region 10 with fail
      obtain ⟨g9, hg9⟩ : ∃ g, w9.heap.size = g := ⟨_, rfl⟩
      obtain ⟨W9, hW9⟩ : ∃ W, w9.alloc (vbox ta 0 wNone) = W := ⟨_, rfl⟩
      rw [hW9] at HB9 HG9 HG5 HG8 ⊢
      rw [hg9] at HG9 ⊢
      clear hg9 hW9 HB8
      obtain ⟨x0, x1, x2⟩ := HKA.out _ HB9.out
      go_wp2_with fail
      refine (UI.out _ HB9.out).mono ?_
      rintro e w10 ⟨rfl, hb10⟩
      have HB10 := hid (go2 (go2 HB9.out hb10) (alloc_below w10 (vbox ta zi wNone)))
      have HG10 := hid (heap_new w10 (vbox ta zi wNone))
      have HG5 := hid (keep_box HG5.out (go2 hb10 (alloc_below w10 (vbox ta zi wNone))))
      have HG8 := hid (keep_box HG8.out (go2 hb10 (alloc_below w10 (vbox ta zi wNone))))
      have HG9 := hid (keep_box HG9.out (go2 hb10 (alloc_below w10 (vbox ta zi wNone))))
      clear hb10
      try clear x0 x1 x2
      try clear z0 z1 z2
      go_upto_region 11 with fail
      obtain ⟨g10, hg10⟩ : ∃ g, w10.heap.size = g := ⟨_, rfl⟩
      obtain ⟨W10, hW10⟩ : ∃ W, w10.alloc (vbox ta zi wNone) = W := ⟨_, rfl⟩
      rw [hW10] at HB10 HG10 HG5 HG8 HG9 ⊢
      rw [hg10] at HG10 ⊢
      clear hg10 hW10 HB9
      obtain ⟨x0, x1, x2, _, _, _⟩ := six HG10.out
      go_wp2_with fail
      refine (UI2.out _ HB10.out).mono ?_
      rintro e w11 ⟨rfl, hb11⟩
      have HB11 := hid (go2 (go2 HB10.out hb11) (alloc_below w11 (vbox ta na wNone)))
      have HG11 := hid (heap_new w11 (vbox ta na wNone))
      have HG5 := hid (keep_box HG5.out (go2 hb11 (alloc_below w11 (vbox ta na wNone))))
      have HG8 := hid (keep_box HG8.out (go2 hb11 (alloc_below w11 (vbox ta na wNone))))
      have HG9 := hid (keep_box HG9.out (go2 hb11 (alloc_below w11 (vbox ta na wNone))))
      have HG10 := hid (keep_box HG10.out (go2 hb11 (alloc_below w11 (vbox ta na wNone))))
      clear hb11
      try clear x0 x1 x2
      try clear z0 z1 z2
      go_upto_region 12 with fail
      obtain ⟨g11, hg11⟩ : ∃ g, w11.heap.size = g := ⟨_, rfl⟩
      obtain ⟨W11, hW11⟩ : ∃ W, w11.alloc (vbox ta na wNone) = W := ⟨_, rfl⟩
      rw [hW11] at HB11 HG11 HG5 HG8 HG9 HG10 ⊢
      rw [hg11] at HG11 ⊢
      clear hg11 hW11 HB10
      obtain ⟨x0, x1, x2⟩ := HKA.out _ HB11.out
      go_wp2_with fail
      refine (CV.out _ HB11.out).mono ?_
      rintro e w12 ⟨rfl, hb12⟩
      have HB12 := hid (go2 (go2 HB11.out hb12) (alloc_below w12 (vbox 10 na wNone)))
      have HG12 := hid (heap_new w12 (vbox 10 na wNone))
      have HG5 := hid (keep_box HG5.out (go2 hb12 (alloc_below w12 (vbox 10 na wNone))))
      have HG8 := hid (keep_box HG8.out (go2 hb12 (alloc_below w12 (vbox 10 na wNone))))
      have HG9 := hid (keep_box HG9.out (go2 hb12 (alloc_below w12 (vbox 10 na wNone))))
      have HG10 := hid (keep_box HG10.out (go2 hb12 (alloc_below w12 (vbox 10 na wNone))))
      have HG11 := hid (keep_box HG11.out (go2 hb12 (alloc_below w12 (vbox 10 na wNone))))
      clear hb12
      try clear x0 x1 x2
      try clear z0 z1 z2
      go_upto_region 13 with fail
      obtain ⟨g12, hg12⟩ : ∃ g, w12.heap.size = g := ⟨_, rfl⟩
      obtain ⟨W12, hW12⟩ : ∃ W, w12.alloc (vbox 10 na wNone) = W := ⟨_, rfl⟩
      rw [hW12] at HB12 HG12 HG5 HG8 HG9 HG10 HG11 ⊢
      rw [hg12] at HG12 ⊢
      clear hg12 hW12 HB11
      obtain ⟨x0, x1, x2, _, _, _⟩ := six HG12.out
      obtain ⟨z0, _, _⟩ := HKA.out _ HB12.out
      go_wp2_with fail
      refine (CV2.out _ HB12.out).mono ?_
      rintro e w13 ⟨rfl, hb13⟩
      have HB13 := hid (go2 (go2 HB12.out hb13) (alloc_below w13 (vbox ta na wNone)))
      have HG13 := hid (heap_new w13 (vbox ta na wNone))
      have HG5 := hid (keep_box HG5.out (go2 hb13 (alloc_below w13 (vbox ta na wNone))))
      have HG8 := hid (keep_box HG8.out (go2 hb13 (alloc_below w13 (vbox ta na wNone))))
      have HG9 := hid (keep_box HG9.out (go2 hb13 (alloc_below w13 (vbox ta na wNone))))
      have HG10 := hid (keep_box HG10.out (go2 hb13 (alloc_below w13 (vbox ta na wNone))))
      have HG11 := hid (keep_box HG11.out (go2 hb13 (alloc_below w13 (vbox ta na wNone))))
      have HG12 := hid (keep_box HG12.out (go2 hb13 (alloc_below w13 (vbox ta na wNone))))
      clear hb13
      try clear x0 x1 x2
      try clear z0 z1 z2
      go_upto_region 14 with fail
      obtain ⟨g13, hg13⟩ : ∃ g, w13.heap.size = g := ⟨_, rfl⟩
      obtain ⟨W13, hW13⟩ : ∃ W, w13.alloc (vbox ta na wNone) = W := ⟨_, rfl⟩
      rw [hW13] at HB13 HG13 HG5 HG8 HG9 HG10 HG11 HG12 ⊢
      rw [hg13] at HG13 ⊢
      clear hg13 hW13 HB12
      have n0 := neqSame ta 0 wNone
      have n1 := neqSame ta na wNone
      obtain ⟨x0, x1, x2⟩ := HKA.out _ HB13.out
      obtain ⟨y0, y1, y2, _, _, _⟩ := six HG5.out
      obtain ⟨u0, u1, u2, _, _, _⟩ := six HG9.out
      obtain ⟨v0, v1, v2, _, _, _⟩ := six HG11.out
      obtain ⟨k0, k1, k2, _, _, _⟩ := six HG13.out
      obtain ⟨z0, z1, z2, _, _, _⟩ := six HG8.out
      go_wp2_with fail
      refine (IVN.out _).mono ?_
      rintro e w31 ⟨rfl, hb31⟩
      have HB31 := hid (go2 HB13.out hb31)
      have HG5 := hid (keep_box HG5.out hb31)
      have HG8 := hid (keep_box HG8.out hb31)
      have HG9 := hid (keep_box HG9.out hb31)
      have HG10 := hid (keep_box HG10.out hb31)
      have HG11 := hid (keep_box HG11.out hb31)
      have HG12 := hid (keep_box HG12.out hb31)
      have HG13 := hid (keep_box HG13.out hb31)
      clear hb31 HB13
      try clear x0 x1 x2
      try clear z0 z1 z2
      clear y0 y1 y2 u0 u1 u2 v0 v1 v2 k0 k1 k2 n0 n1
      obtain ⟨x0, x1, x2, _, _, _⟩ := six HG10.out
      go_wp2_with fail
      refine (IVI.out _).mono ?_
      rintro e w32 ⟨rfl, hb32⟩
      have HB32 := hid (go2 HB31.out hb32)
      have HG5 := hid (keep_box HG5.out hb32)
      have HG8 := hid (keep_box HG8.out hb32)
      have HG9 := hid (keep_box HG9.out hb32)
      have HG10 := hid (keep_box HG10.out hb32)
      have HG11 := hid (keep_box HG11.out hb32)
      have HG12 := hid (keep_box HG12.out hb32)
      have HG13 := hid (keep_box HG13.out hb32)
      clear hb32 HB31
      try clear x0 x1 x2
      try clear z0 z1 z2
      obtain ⟨x0, x1, x2, _, _, _⟩ := six HG12.out
      go_wp2_with fail
      refine (IVC.out _).mono ?_
      rintro e w33 ⟨rfl, hb33⟩
      have HB33 := hid (go2 HB32.out hb33)
      have HG5 := hid (keep_box HG5.out hb33)
      have HG8 := hid (keep_box HG8.out hb33)
      have HG9 := hid (keep_box HG9.out hb33)
      have HG10 := hid (keep_box HG10.out hb33)
      have HG11 := hid (keep_box HG11.out hb33)
      have HG12 := hid (keep_box HG12.out hb33)
      have HG13 := hid (keep_box HG13.out hb33)
      clear hb33 HB32
      try clear x0 x1 x2
      try clear z0 z1 z2
      obtain ⟨x0, x1, x2, _, _, _⟩ := six HG12.out
      go_wp2_with fail
      refine (BD.out _ _ (go2 HB33.out (alloc_below _ _)) (heap_new _ _)).mono ?_
      rintro e w16 ⟨rfl, hb16r⟩
      have hb16 := go2 (alloc_below _ _) hb16r
      clear hb16r
      have HB16 := hid (go2 (go2 HB33.out hb16) (alloc_below w16 (vbox 2 0 (decB na))))
      have HG16 := hid (heap_new w16 (vbox 2 0 (decB na)))
      have HG5 := hid (keep_box HG5.out (go2 hb16 (alloc_below w16 (vbox 2 0 (decB na)))))
      have HG8 := hid (keep_box HG8.out (go2 hb16 (alloc_below w16 (vbox 2 0 (decB na)))))
      have HG9 := hid (keep_box HG9.out (go2 hb16 (alloc_below w16 (vbox 2 0 (decB na)))))
      have HG10 := hid (keep_box HG10.out (go2 hb16 (alloc_below w16 (vbox 2 0 (decB na)))))
      have HG11 := hid (keep_box HG11.out (go2 hb16 (alloc_below w16 (vbox 2 0 (decB na)))))
      have HG12 := hid (keep_box HG12.out (go2 hb16 (alloc_below w16 (vbox 2 0 (decB na)))))
      have HG13 := hid (keep_box HG13.out (go2 hb16 (alloc_below w16 (vbox 2 0 (decB na)))))
      clear hb16
      try clear x0 x1 x2
      try clear z0 z1 z2
      go_upto_region 17 with fail
      obtain ⟨g16, hg16⟩ : ∃ g, w16.heap.size = g := ⟨_, rfl⟩
      obtain ⟨W16, hW16⟩ : ∃ W, w16.alloc (vbox 2 0 (decB na)) = W := ⟨_, rfl⟩
      rw [hW16] at HB16 HG16 HG5 HG8 HG9 HG10 HG11 HG12 HG13 ⊢
      rw [hg16] at HG16 ⊢
      clear hg16 hW16 HB33
      obtain ⟨x0, x1, x2, _, _, _⟩ := six HG16.out
      go_wp2_with fail
      refine (BM.out _ _ (go2 HB16.out (alloc_below _ _)) (heap_new _ _)).mono ?_
      rintro e w17 ⟨rfl, hb17r⟩
      have hb17 := go2 (alloc_below _ _) hb17r
      clear hb17r
      have HB17 := hid (go2 (go2 HB16.out hb17) (alloc_below w17 (vbox 10 na wNone)))
      have HG17 := hid (heap_new w17 (vbox 10 na wNone))
      have HG5 := hid (keep_box HG5.out (go2 hb17 (alloc_below w17 (vbox 10 na wNone))))
      have HG8 := hid (keep_box HG8.out (go2 hb17 (alloc_below w17 (vbox 10 na wNone))))
      have HG9 := hid (keep_box HG9.out (go2 hb17 (alloc_below w17 (vbox 10 na wNone))))
      have HG10 := hid (keep_box HG10.out (go2 hb17 (alloc_below w17 (vbox 10 na wNone))))
      have HG11 := hid (keep_box HG11.out (go2 hb17 (alloc_below w17 (vbox 10 na wNone))))
      have HG12 := hid (keep_box HG12.out (go2 hb17 (alloc_below w17 (vbox 10 na wNone))))
      have HG13 := hid (keep_box HG13.out (go2 hb17 (alloc_below w17 (vbox 10 na wNone))))
      have HG16 := hid (keep_box HG16.out (go2 hb17 (alloc_below w17 (vbox 10 na wNone))))
      clear hb17
      try clear x0 x1 x2
      try clear z0 z1 z2
      go_upto_region 18 with fail
      obtain ⟨g17, hg17⟩ : ∃ g, w17.heap.size = g := ⟨_, rfl⟩
      obtain ⟨W17, hW17⟩ : ∃ W, w17.alloc (vbox 10 na wNone) = W := ⟨_, rfl⟩
      rw [hW17] at HB17 HG17 HG5 HG8 HG9 HG10 HG11 HG12 HG13 HG16 ⊢
      rw [hg17] at HG17 ⊢
      clear hg17 hW17 HB16
      have n0 := neqSame 10 na wNone
      obtain ⟨x0, x1, x2, _, _, _⟩ := six HG17.out
      obtain ⟨z0, z1, z2, _, _, _⟩ := six HG12.out
      go_upto_region 20 with fail
      clear x0 x1 x2 z0 z1 z2 n0
      clear UN BS UI UI2 CV CV2 BD BM IVN IVI IVC HG5 HG8 HG9 HG10 HG11 HG12 HG13 HG16
      obtain ⟨hva, hvb⟩ := HVAB.out
      clear HVAB
      by_cases hz : nb = 0
      · subst hz
        have BZ : Hid (∀ op, op = 14 ∨ op = 15 → ∀ W, Below W2.heap.size W2 W → Calls Tryz.prog 6 #[.int .i64 op, val ta na wNone, val ta 0 wNone] W fun e w' => e = .returned (ans 0 0 wNone wDiv) ∧ Below W.heap.size W w') := fun op ho W hW => bin_zero h3 h10 hva hna1 hna2 op ho d W (HE.out.next (HWW.out W hW)).dv
        have es := eqlSame 0 0 wNone
        have hwt : wDiv.toList = [100, 105, 118, 105, 100, 101] := by rw [Lib.toList_data]; rfl
        clear hva hvb
        obtain ⟨x0, x1, x2⟩ := HKA.out _ HB17.out
        obtain ⟨z0, z1, z2⟩ := HKB.out _ HB17.out
        go_wp2_with fail
        refine (BZ.out 14 (by decide) _ HB17.out).mono ?_
        rintro e w20 ⟨rfl, hb20⟩
        have HB20 := hid (go2 (go2 HB17.out hb20) (alloc_below w20 (vbox 0 0 wNone)))
        have HG20 := hid (heap_new w20 (vbox 0 0 wNone))
        clear hb20
        try clear x0 x1 x2
        try clear z0 z1 z2
        go_upto_region 21 with fail
        obtain ⟨g20, hg20⟩ : ∃ g, w20.heap.size = g := ⟨_, rfl⟩
        obtain ⟨W20, hW20⟩ : ∃ W, w20.alloc (vbox 0 0 wNone) = W := ⟨_, rfl⟩
        rw [hW20] at HB20 HG20 ⊢
        rw [hg20] at HG20 ⊢
        clear hg20 hW20 HB17
        obtain ⟨x0, x1, x2⟩ := HKA.out _ HB20.out
        obtain ⟨z0, z1, z2⟩ := HKB.out _ HB20.out
        go_wp2_with fail
        refine (BZ.out 15 (by decide) _ HB20.out).mono ?_
        rintro e w21 ⟨rfl, hb21⟩
        have HB21 := hid (go2 (go2 HB20.out hb21) (alloc_below w21 (vbox 0 0 wNone)))
        have HG21 := hid (heap_new w21 (vbox 0 0 wNone))
        have HG20 := hid (keep_box HG20.out (go2 hb21 (alloc_below w21 (vbox 0 0 wNone))))
        clear hb21
        try clear x0 x1 x2
        try clear z0 z1 z2
        go_upto_region 22 with fail
        obtain ⟨g21, hg21⟩ : ∃ g, w21.heap.size = g := ⟨_, rfl⟩
        obtain ⟨W21, hW21⟩ : ∃ W, w21.alloc (vbox 0 0 wNone) = W := ⟨_, rfl⟩
        rw [hW21] at HB21 HG21 HG20 ⊢
        rw [hg21] at HG21 ⊢
        clear hg21 hW21 HB20
        obtain ⟨_, y1, _⟩ := HKB.out _ HB21.out
        obtain ⟨x0, x1, x2, _, _, _⟩ := six HG20.out
        obtain ⟨z0, z1, z2, _, _, _⟩ := six HG21.out
        go_wp2
        go_ret
        exact ⟨rfl, HWW.out _ HB21.out⟩
      · have B14 : Hid (∀ W, Below W2.heap.size W2 W → Calls Tryz.prog 6 #[.int .i64 14, val ta na wNone, val ta nb wNone] W fun e w' => e = .returned (ans ta (cntT ta 14 na nb) wNone wNone) ∧ Below W.heap.size W w') := fun W _ => bin_cnt h3 h10 hva hvb hna1 hna2 hnb1 hnb2 14 (by decide) (by decide) (fun _ => hz) W
        have B15 : Hid (∀ W, Below W2.heap.size W2 W → Calls Tryz.prog 6 #[.int .i64 15, val ta na wNone, val ta nb wNone] W fun e w' => e = .returned (ans ta (cntT ta 15 na nb) wNone wNone) ∧ Below W.heap.size W w') := fun W _ => bin_cnt h3 h10 hva hvb hna1 hna2 hnb1 hnb2 15 (by decide) (by decide) (fun _ => hz) W
        have VQ := cnt_self ta 14 na nb (by decide) (by decide)
        have VQ2 := cnt_bds ta 14 na nb (by decide) (by decide)
        have VR := cnt_self ta 15 na nb (by decide) (by decide)
        have VR2 := cnt_bds ta 15 na nb (by decide) (by decide)
        have VM := cnt_self ta 13 (cntT ta 14 na nb) nb (by decide) (by decide)
        have VM2 := cnt_bds ta 13 (cntT ta 14 na nb) nb (by decide) (by decide)
        have B13 : Hid (∀ W, Below W2.heap.size W2 W → Calls Tryz.prog 6 #[.int .i64 13, val ta (cntT ta 14 na nb) wNone, val ta nb wNone] W fun e w' => e = .returned (ans ta (cntT ta 13 (cntT ta 14 na nb) nb) wNone wNone) ∧ Below W.heap.size W w') := fun W _ => bin_cnt h3 h10 VQ hvb VQ2.1 VQ2.2 hnb1 hnb2 13 (by decide) (by decide) (fun h => absurd h (by decide)) W
        have B9 : Hid (∀ W, Below W2.heap.size W2 W → Calls Tryz.prog 6 #[.int .i64 9, val ta (cntT ta 13 (cntT ta 14 na nb) nb) wNone, val ta (cntT ta 15 na nb) wNone] W fun e w' => e = .returned (ans ta na wNone wNone) ∧ Below W.heap.size W w') := fun W _ => by
          have := bin_cnt h3 h10 VM VR VM2.1 VM2.2 VR2.1 VR2.2 9 (by decide) (by decide) (fun h => absurd h (by decide)) W
          rwa [div_sum ta na nb hva] at this
        have B5 : Hid (∀ W, Below W2.heap.size W2 W → Calls Tryz.prog 6 #[.int .i64 5, val ta na wNone, val ta nb wNone] W fun e w' => e = .returned (ans 1 (if cmpB 5 ((kT ta).wrap na) ((kT ta).wrap nb) then 1 else 0) wNone wNone) ∧ Below W.heap.size W w') := fun W _ => bin_cmp h3 h10 hva hvb hna1 hna2 hnb1 hnb2 5 (by decide) (by decide) W
        have B8 : Hid (∀ W, Below W2.heap.size W2 W → Calls Tryz.prog 6 #[.int .i64 8, val ta na wNone, val ta nb wNone] W fun e w' => e = .returned (ans 1 (if cmpB 8 ((kT ta).wrap na) ((kT ta).wrap nb) then 1 else 0) wNone wNone) ∧ Below W.heap.size W w') := fun W _ => bin_cmp h3 h10 hva hvb hna1 hna2 hnb1 hnb2 8 (by decide) (by decide) W
        have IVQ : Hid (∀ W, Calls Tryz.prog 9 #[val ta (cntT ta 14 na nb) wNone] W fun e w' => e = .returned (.bool true) ∧ Below W.heap.size W w') := fun W => IV.out _ VQ VQ2.1 VQ2.2 W
        have IVR : Hid (∀ W, Calls Tryz.prog 9 #[val ta (cntT ta 15 na nb) wNone] W fun e w' => e = .returned (.bool true) ∧ Below W.heap.size W w') := fun W => IV.out _ VR VR2.1 VR2.2 W
        have HLG : Hid (((if cmpB 5 ((kT ta).wrap na) ((kT ta).wrap nb) then (1 : Int) else 0) = 1 ∧ (if cmpB 8 ((kT ta).wrap na) ((kT ta).wrap nb) then (1 : Int) else 0) = 0) ∨ ((if cmpB 5 ((kT ta).wrap na) ((kT ta).wrap nb) then (1 : Int) else 0) = 0 ∧ (if cmpB 8 ((kT ta).wrap na) ((kT ta).wrap nb) then (1 : Int) else 0) = 1)) := by
          have h := cmp_one ((kT ta).wrap na) ((kT ta).wrap nb)
          show _ ∨ _
          revert h
          generalize cmpB 5 ((kT ta).wrap na) ((kT ta).wrap nb) = c5
          generalize cmpB 8 ((kT ta).wrap na) ((kT ta).wrap nb) = c8
          revert c5 c8
          decide
        clear VQ VQ2 VR VR2 VM VM2 hva hvb
        obtain ⟨zq, hzq⟩ : ∃ z, cntT ta 14 na nb = z := ⟨_, rfl⟩
        rw [hzq] at B14 B13 B9 IVQ
        obtain ⟨zr, hzr⟩ : ∃ z, cntT ta 15 na nb = z := ⟨_, rfl⟩
        rw [hzr] at B15 B9 IVR
        obtain ⟨zm, hzm⟩ : ∃ z, cntT ta 13 zq nb = z := ⟨_, rfl⟩
        rw [hzm] at B13 B9
        obtain ⟨zl, hzl⟩ : ∃ z, (if cmpB 5 ((kT ta).wrap na) ((kT ta).wrap nb) then (1 : Int) else 0) = z := ⟨_, rfl⟩
        rw [hzl] at B5 HLG
        obtain ⟨zg, hzg⟩ : ∃ z, (if cmpB 8 ((kT ta).wrap na) ((kT ta).wrap nb) then (1 : Int) else 0) = z := ⟨_, rfl⟩
        rw [hzg] at B8 HLG
        clear hzq hzr hzm hzl hzg
        obtain ⟨x0, x1, x2⟩ := HKA.out _ HB17.out
        obtain ⟨z0, z1, z2⟩ := HKB.out _ HB17.out
        go_wp2_with fail
        refine (B14.out _ HB17.out).mono ?_
        rintro e w20 ⟨rfl, hb20⟩
        have HB20 := hid (go2 (go2 HB17.out hb20) (alloc_below w20 (vbox ta zq wNone)))
        have HG20 := hid (heap_new w20 (vbox ta zq wNone))
        clear hb20
        try clear x0 x1 x2
        try clear z0 z1 z2
        go_upto_region 21 with fail
        obtain ⟨g20, hg20⟩ : ∃ g, w20.heap.size = g := ⟨_, rfl⟩
        obtain ⟨W20, hW20⟩ : ∃ W, w20.alloc (vbox ta zq wNone) = W := ⟨_, rfl⟩
        rw [hW20] at HB20 HG20 ⊢
        rw [hg20] at HG20 ⊢
        clear hg20 hW20 HB17
        obtain ⟨x0, x1, x2⟩ := HKA.out _ HB20.out
        obtain ⟨z0, z1, z2⟩ := HKB.out _ HB20.out
        go_wp2_with fail
        refine (B15.out _ HB20.out).mono ?_
        rintro e w21 ⟨rfl, hb21⟩
        have HB21 := hid (go2 (go2 HB20.out hb21) (alloc_below w21 (vbox ta zr wNone)))
        have HG21 := hid (heap_new w21 (vbox ta zr wNone))
        have HG20 := hid (keep_box HG20.out (go2 hb21 (alloc_below w21 (vbox ta zr wNone))))
        clear hb21
        try clear x0 x1 x2
        try clear z0 z1 z2
        go_upto_region 22 with fail
        obtain ⟨g21, hg21⟩ : ∃ g, w21.heap.size = g := ⟨_, rfl⟩
        obtain ⟨W21, hW21⟩ : ∃ W, w21.alloc (vbox ta zr wNone) = W := ⟨_, rfl⟩
        rw [hW21] at HB21 HG21 HG20 ⊢
        rw [hg21] at HG21 ⊢
        clear hg21 hW21 HB20
        have hz2 : (nb == 0) = false := by simpa using hz
        obtain ⟨y0, y1, y2⟩ := HKB.out _ HB21.out
        obtain ⟨x0, x1, x2, _, _, _⟩ := six HG20.out
        go_wp2_with fail
        refine (B13.out _ HB21.out).mono ?_
        rintro e w24 ⟨rfl, hb24⟩
        have HB24 := hid (go2 (go2 HB21.out hb24) (alloc_below w24 (vbox ta zm wNone)))
        have HG24 := hid (heap_new w24 (vbox ta zm wNone))
        have HG20 := hid (keep_box HG20.out (go2 hb24 (alloc_below w24 (vbox ta zm wNone))))
        have HG21 := hid (keep_box HG21.out (go2 hb24 (alloc_below w24 (vbox ta zm wNone))))
        clear hb24 y0 y1 y2
        try clear x0 x1 x2
        try clear z0 z1 z2
        go_upto_region 25 with fail
        obtain ⟨g24, hg24⟩ : ∃ g, w24.heap.size = g := ⟨_, rfl⟩
        obtain ⟨W24, hW24⟩ : ∃ W, w24.alloc (vbox ta zm wNone) = W := ⟨_, rfl⟩
        rw [hW24] at HB24 HG24 HG20 HG21 ⊢
        rw [hg24] at HG24 ⊢
        clear hg24 hW24 HB21
        obtain ⟨x0, x1, x2, _, _, _⟩ := six HG24.out
        obtain ⟨z0, z1, z2, _, _, _⟩ := six HG21.out
        go_wp2_with fail
        refine (B9.out _ HB24.out).mono ?_
        rintro e w25 ⟨rfl, hb25⟩
        have HB25 := hid (go2 (go2 HB24.out hb25) (alloc_below w25 (vbox ta na wNone)))
        have HG25 := hid (heap_new w25 (vbox ta na wNone))
        have HG20 := hid (keep_box HG20.out (go2 hb25 (alloc_below w25 (vbox ta na wNone))))
        have HG21 := hid (keep_box HG21.out (go2 hb25 (alloc_below w25 (vbox ta na wNone))))
        have HG24 := hid (keep_box HG24.out (go2 hb25 (alloc_below w25 (vbox ta na wNone))))
        clear hb25
        try clear x0 x1 x2
        try clear z0 z1 z2
        go_upto_region 26 with fail
        obtain ⟨g25, hg25⟩ : ∃ g, w25.heap.size = g := ⟨_, rfl⟩
        obtain ⟨W25, hW25⟩ : ∃ W, w25.alloc (vbox ta na wNone) = W := ⟨_, rfl⟩
        rw [hW25] at HB25 HG25 HG20 HG21 HG24 ⊢
        rw [hg25] at HG25 ⊢
        clear hg25 hW25 HB24
        obtain ⟨x0, x1, x2⟩ := HKA.out _ HB25.out
        obtain ⟨z0, z1, z2⟩ := HKB.out _ HB25.out
        go_wp2_with fail
        refine (B5.out _ HB25.out).mono ?_
        rintro e w26 ⟨rfl, hb26⟩
        have HB26 := hid (go2 (go2 HB25.out hb26) (alloc_below w26 (vbox 1 zl wNone)))
        have HG26 := hid (heap_new w26 (vbox 1 zl wNone))
        have HG20 := hid (keep_box HG20.out (go2 hb26 (alloc_below w26 (vbox 1 zl wNone))))
        have HG21 := hid (keep_box HG21.out (go2 hb26 (alloc_below w26 (vbox 1 zl wNone))))
        have HG24 := hid (keep_box HG24.out (go2 hb26 (alloc_below w26 (vbox 1 zl wNone))))
        have HG25 := hid (keep_box HG25.out (go2 hb26 (alloc_below w26 (vbox 1 zl wNone))))
        clear hb26
        try clear x0 x1 x2
        try clear z0 z1 z2
        go_upto_region 27 with fail
        obtain ⟨g26, hg26⟩ : ∃ g, w26.heap.size = g := ⟨_, rfl⟩
        obtain ⟨W26, hW26⟩ : ∃ W, w26.alloc (vbox 1 zl wNone) = W := ⟨_, rfl⟩
        rw [hW26] at HB26 HG26 HG20 HG21 HG24 HG25 ⊢
        rw [hg26] at HG26 ⊢
        clear hg26 hW26 HB25
        obtain ⟨x0, x1, x2⟩ := HKA.out _ HB26.out
        obtain ⟨z0, z1, z2⟩ := HKB.out _ HB26.out
        go_wp2_with fail
        refine (B8.out _ HB26.out).mono ?_
        rintro e w27 ⟨rfl, hb27⟩
        have HB27 := hid (go2 (go2 HB26.out hb27) (alloc_below w27 (vbox 1 zg wNone)))
        have HG27 := hid (heap_new w27 (vbox 1 zg wNone))
        have HG20 := hid (keep_box HG20.out (go2 hb27 (alloc_below w27 (vbox 1 zg wNone))))
        have HG21 := hid (keep_box HG21.out (go2 hb27 (alloc_below w27 (vbox 1 zg wNone))))
        have HG24 := hid (keep_box HG24.out (go2 hb27 (alloc_below w27 (vbox 1 zg wNone))))
        have HG25 := hid (keep_box HG25.out (go2 hb27 (alloc_below w27 (vbox 1 zg wNone))))
        have HG26 := hid (keep_box HG26.out (go2 hb27 (alloc_below w27 (vbox 1 zg wNone))))
        clear hb27
        try clear x0 x1 x2
        try clear z0 z1 z2
        go_upto_region 28 with fail
        obtain ⟨g27, hg27⟩ : ∃ g, w27.heap.size = g := ⟨_, rfl⟩
        obtain ⟨W27, hW27⟩ : ∃ W, w27.alloc (vbox 1 zg wNone) = W := ⟨_, rfl⟩
        rw [hW27] at HB27 HG27 HG20 HG21 HG24 HG25 HG26 ⊢
        rw [hg27] at HG27 ⊢
        clear hg27 hW27 HB26
        have es := eqlSame ta na wNone
        clear B14 B15 B13 B9 B5 B8 HG24
        rcases HLG.out with ⟨rfl, rfl⟩ | ⟨rfl, rfl⟩
        · obtain ⟨x0, x1, x2⟩ := HKA.out _ HB27.out
          obtain ⟨u0, u1, u2, _, _, _⟩ := six HG25.out
          obtain ⟨v0, v1, v2, _, _, _⟩ := six HG26.out
          obtain ⟨k0, k1, k2, _, _, _⟩ := six HG27.out
          obtain ⟨z0, z1, z2, _, _, _⟩ := six HG20.out
          go_wp2_with fail
          refine (IVQ.out _).mono ?_
          rintro e w41 ⟨rfl, hb41⟩
          have HB41 := hid (go2 HB27.out hb41)
          have HG20 := hid (keep_box HG20.out hb41)
          have HG21 := hid (keep_box HG21.out hb41)
          have HG25 := hid (keep_box HG25.out hb41)
          have HG26 := hid (keep_box HG26.out hb41)
          have HG27 := hid (keep_box HG27.out hb41)
          clear hb41 HB27
          try clear x0 x1 x2
          try clear z0 z1 z2
          clear u0 u1 u2 v0 v1 v2 k0 k1 k2
          obtain ⟨x0, x1, x2, _, _, _⟩ := six HG21.out
          go_wp2_with fail
          refine (IVR.out _).mono ?_
          rintro e w42 ⟨rfl, hb42⟩
          have HB42 := hid (go2 HB41.out hb42)
          have HG20 := hid (keep_box HG20.out hb42)
          have HG21 := hid (keep_box HG21.out hb42)
          have HG25 := hid (keep_box HG25.out hb42)
          have HG26 := hid (keep_box HG26.out hb42)
          have HG27 := hid (keep_box HG27.out hb42)
          clear hb42 HB41
          try clear x0 x1 x2
          try clear z0 z1 z2
          go_wp2
          go_ret
          exact ⟨rfl, HWW.out _ HB42.out⟩
        · obtain ⟨x0, x1, x2⟩ := HKA.out _ HB27.out
          obtain ⟨u0, u1, u2, _, _, _⟩ := six HG25.out
          obtain ⟨v0, v1, v2, _, _, _⟩ := six HG26.out
          obtain ⟨k0, k1, k2, _, _, _⟩ := six HG27.out
          obtain ⟨z0, z1, z2, _, _, _⟩ := six HG20.out
          go_wp2_with fail
          refine (IVQ.out _).mono ?_
          rintro e w41 ⟨rfl, hb41⟩
          have HB41 := hid (go2 HB27.out hb41)
          have HG20 := hid (keep_box HG20.out hb41)
          have HG21 := hid (keep_box HG21.out hb41)
          have HG25 := hid (keep_box HG25.out hb41)
          have HG26 := hid (keep_box HG26.out hb41)
          have HG27 := hid (keep_box HG27.out hb41)
          clear hb41 HB27
          try clear x0 x1 x2
          try clear z0 z1 z2
          clear u0 u1 u2 v0 v1 v2 k0 k1 k2
          obtain ⟨x0, x1, x2, _, _, _⟩ := six HG21.out
          go_wp2_with fail
          refine (IVR.out _).mono ?_
          rintro e w42 ⟨rfl, hb42⟩
          have HB42 := hid (go2 HB41.out hb42)
          have HG20 := hid (keep_box HG20.out hb42)
          have HG21 := hid (keep_box HG21.out hb42)
          have HG25 := hid (keep_box HG25.out hb42)
          have HG26 := hid (keep_box HG26.out hb42)
          have HG27 := hid (keep_box HG27.out hb42)
          clear hb42 HB41
          try clear x0 x1 x2
          try clear z0 z1 z2
          go_wp2
          go_ret
          exact ⟨rfl, HWW.out _ HB42.out⟩
    · have htb : (ta != tb) = true := by simpa using ht
      obtain ⟨x0, x1, x2⟩ := HKA.out _ HB4.out
      obtain ⟨z0, z1, z2⟩ := HKB.out _ HB4.out
      have es := eqlSame 0 0 wNone
      have hwt : wType.toList = [116, 121, 112, 101] := by rw [Lib.toList_data]; rfl
      go_wp2_with fail
      refine (BT.out (by exact fun h => ht h.2.2.1) _ HB4.out).mono ?_
      rintro e w6 ⟨rfl, hb6⟩
      have HB6 := hid (go2 (go2 HB4.out hb6) (alloc_below w6 (vbox 0 0 wNone)))
      have HG6 := hid (heap_new w6 (vbox 0 0 wNone))
      clear hb6 x0 x1 x2 z0 z1 z2
      go_upto_region 6 with fail
      obtain ⟨g6, hg6⟩ : ∃ g, w6.heap.size = g := ⟨_, rfl⟩
      obtain ⟨W6, hW6⟩ : ∃ W, w6.alloc (vbox 0 0 wNone) = W := ⟨_, rfl⟩
      rw [hW6] at HB6 HG6 ⊢
      rw [hg6] at HG6 ⊢
      clear hg6 hW6
      obtain ⟨x0, x1, x2, _, _, _⟩ := six HG6.out
      go_wp2
      go_ret
      exact ⟨rfl, HWW.out _ HB6.out⟩
end Go.Proofs.YtabefhpgeaihgaaGreatDoor.V
