import Derived.Test.YtlopcjhipajdcaaGreatDoorJ19
import Derived.Test.YtlopcjhipajdcaaGreatDoorJ20
/-! Sizes. -/
namespace Go.Proofs.YtlopcjhipajdcaaGreatDoor.R
open Go.RowKit
set_option maxRecDepth 20000
set_option maxHeartbeats 2000000 in
theorem szSn_any (x : Sn) (l : Int) (w : World) (hl : 0 ≤ l) (hl2 : l ≤ 1048576) (hx : OkSn x) :
    Calls Tryz.prog 59 #[.agg #[.int .i64 x.kind, .string x.name, .int .i64 x.reply.code, .string x.reply.text], .int .i64 l] w (SzEnd l (wSn x) w) := by
  have HX := hid hx
  obtain ⟨hx0, hx1, hx2⟩ := hx
  have HB0 := hid (B1.start w (.cells #[.int .i64 x.kind, .string x.name, .int .i64 x.reply.code, .string x.reply.text] 93))
  have hs_name := small hx1
  by_cases c1 : l - (x.name.size : Int) < 0
  · go_enter Tryz.func59, Tryz.ntmps59
    go_wp2
    go_ret
    exact ⟨⟨_, rfl, by omega, by omega, fun h => by omega⟩, HB0.out.lo⟩
  · go_enter Tryz.func59, Tryz.ntmps59
    go_wp2_with fail
    refine (szRy_any x.reply _ _ (by omega) (by omega) hx2).mono ?_
    rintro e w1 ⟨⟨r0, rfl, p0, q0, h0⟩, hb0⟩
    have HP0 := hid h0
    have HN0 := hid hb0
    have HB1 := hid (HB0.out.next hb0)
    clear h0 hb0
    by_cases c2 : r0 < 0
    · go_wp2
      go_ret
      exact ⟨⟨_, rfl, by omega, by omega, fun h => by omega⟩, HB1.out.lo⟩
    · go_wp2
      go_ret
      refine ⟨⟨_, rfl, by omega, by omega, fun h => ?_⟩, HB1.out.lo⟩
      have eHP0 := HP0.out (by omega)
      simp only [wSn]
      omega
set_option maxHeartbeats 2000000 in
theorem szSSn_any (l : List Sn) {v : Value} (m : Int) (w : World) (hl : 0 ≤ m) (hl2 : m ≤ 1048576) (hx : OkSnS l) (k0 : SSnA w v l) :
    Calls Tryz.prog 25 #[v, .int .i64 m] w (SzEnd m (wSSn l l.length) w) := by
  have HX := hid hx.2
  have hN := small hx.1
  have HK := hid k0
  obtain ⟨ad, cap, rfl⟩ := k0.sl
  clear hx k0
  by_cases h1 : m - (l.length : Int) < 0
  · go_enter Tryz.func25, Tryz.ntmps25
    go_wp2
    go_ret
    exact ⟨⟨_, rfl, by omega, by omega, fun h => by omega⟩, Below.refl _ _⟩
  · go_enter Tryz.func25, Tryz.ntmps25
    go_wp2
    go_loopw [1, 5] (fun q i wr => ∃ (j : Nat) (r : Int), j ≤ l.length ∧ i = .int .i64 j ∧ q = .int .i64 r ∧ 0 ≤ r ∧ r ≤ m ∧ (Hid (r + (l.length : Int) + (wSSn l j : Int) = m + (j : Int))) ∧ Below w.heap.size w wr) (fun _ i _ => l.length - (intOf i).toNat)
    case atStart => exact ⟨0, _, Nat.zero_le _, rfl, rfl, by omega, by omega, (by show _ = _; simp [wSSn]), Below.refl _ _⟩
    case round =>
      obtain ⟨j, r, hj, rfl, rfl, hr0, hr1, HS, hbw⟩ := hrel
      have HBW := hid hbw
      clear hbw
      by_cases hlt : j < l.length
      · obtain ⟨a, c, e9, hal, ⟨c0, c1, c2, c3⟩⟩ := (HK.out.next HBW.out).at hlt
        injection e9 with ea en ec
        clear en
        subst ea ec
        obtain ⟨x, hx⟩ : ∃ x, l.getD j sn0 = x := ⟨_, rfl⟩
        have HXE := hid hx
        have HOK := hid (HX.out j hlt)
        rw [hx] at HOK c0 c1 c2 c3
        clear hx
        go_wp2_with fail
        refine (szSn_any x _ _ (by omega) (by omega) HOK.out).mono ?_
        rintro e w1 ⟨⟨r2, rfl, hr3, hr4, hr5⟩, hb1⟩
        have HB1 := hid (HBW.out.trans (hb1.mono HBW.out.size))
        have HR5 := hid hr5
        clear hb1 hr5 c0 c1 c2 c3
        by_cases hs : r2 < 0
        · go_wp2
          go_ret
          exact ⟨⟨-1, rfl, by omega, by omega, fun h => by omega⟩, HB1.out⟩
        · have HS2 : Hid (r2 + (l.length : Int) + (wSSn l (j + 1) : Int) = m + ((j + 1 : Nat) : Int)) := by
            show _ = _
            have := HS.out
            have := HR5.out (by omega)
            simp only [wSSn, HXE.out]
            omega
          go_wp2
          go_roundw
          case rel => exact ⟨j + 1, r2, by omega, by go_num, rfl, by omega, by omega, HS2, HB1.out⟩
          case measure => simp [intOf]; omega
      · obtain rfl : j = l.length := by omega
        go_wp2
        go_ret
        exact ⟨⟨r, rfl, by omega, hr1, fun _ => by have := HS.out; omega⟩, HBW.out⟩
end Go.Proofs.YtlopcjhipajdcaaGreatDoor.R
/-! Copies. -/
namespace Go.Proofs.YtlopcjhipajdcaaGreatDoor.R
open Go.RowKit
set_option maxRecDepth 20000
set_option maxHeartbeats 4000000 in
theorem toSn_any (x : Sn) (w : World) :
    Calls Tryz.prog 63 #[.agg #[.int .i64 x.kind, .string x.name, .int .i64 x.reply.code, .string x.reply.text]] w fun e w' => e = .returned (.agg #[.int .i64 x.kind, .string x.name, .int .i64 x.reply.code, .string x.reply.text]) ∧ Below w.heap.size w w' := by
  have HX0 := hid (B3.start w (.cells #[.int .i64 x.kind, .string x.name, .int .i64 x.reply.code, .string x.reply.text] 93) #[.int .i64 0, .string ⟨#[]⟩, .int .i64 0, .string ⟨#[]⟩] #[.int .i64 0, .string ⟨#[]⟩, .int .i64 0, .string ⟨#[]⟩] 88)
  obtain ⟨W0, hW0⟩ : ∃ W, ((w.alloc (.cells #[.int .i64 x.kind, .string x.name, .int .i64 x.reply.code, .string x.reply.text] 93)).alloc (.cells #[.int .i64 0, .string ⟨#[]⟩, .int .i64 0, .string ⟨#[]⟩] 88)).alloc (.cells #[.int .i64 0, .string ⟨#[]⟩, .int .i64 0, .string ⟨#[]⟩] 88) = W := ⟨_, rfl⟩
  rw [hW0] at HX0
  have a0_0 : W0.cell? ⟨w.heap.size, 0, none⟩ = some (.int .i64 x.kind) := row_cell HX0.out.e 0
  have a0_1 : W0.cell? ⟨w.heap.size, 1, none⟩ = some (.string x.name) := row_cell HX0.out.e 1
  have a0_2 : W0.cell? ⟨w.heap.size, 2, none⟩ = some (.int .i64 x.reply.code) := row_cell HX0.out.e 2
  have a0_3 : W0.cell? ⟨w.heap.size, 3, none⟩ = some (.string x.reply.text) := row_cell HX0.out.e 3
  have o0_0 : W0.cell? ⟨w.heap.size + 1 + 1, 0, none⟩ = some (.int .i64 0) := row_cell HX0.out.o 0
  have z0_0 : W0.frozen? ⟨w.heap.size + 1 + 1, 0, none⟩ = false := (row_room HX0.out.o (i := 0) (by simp)).2
  have o0_1 : W0.cell? ⟨w.heap.size + 1 + 1, 1, none⟩ = some (.string ⟨#[]⟩) := row_cell HX0.out.o 1
  have z0_1 : W0.frozen? ⟨w.heap.size + 1 + 1, 1, none⟩ = false := (row_room HX0.out.o (i := 1) (by simp)).2
  go_enter Tryz.func63, Tryz.ntmps63
  go_wp2_with fail
  clear hW0
  have HY0 := hid ((HX0.out.set 0 (.int .i64 x.kind)).set 1 (.string x.name))
  obtain ⟨V0, hV0⟩ : ∃ V, ((W0.setCell ⟨w.heap.size + 1 + 1, 0, none⟩ (.int .i64 x.kind)).setCell ⟨w.heap.size + 1 + 1, 1, none⟩ (.string x.name)) = V := ⟨_, rfl⟩
  rw [hV0] at HY0 ⊢
  clear hV0
  clear a0_0 a0_1 a0_2 a0_3 o0_0 z0_0 o0_1 z0_1 HX0
  refine (toRy_any x.reply V0).mono ?_
  rintro e w1 ⟨rfl, hb0⟩
  have HX1 := hid (HY0.out.next hb0)
  clear hb0 HY0
  have a1_2 : w1.cell? ⟨w.heap.size, 2, none⟩ = some (.int .i64 x.reply.code) := row_cell HX1.out.e 2
  have a1_3 : w1.cell? ⟨w.heap.size, 3, none⟩ = some (.string x.reply.text) := row_cell HX1.out.e 3
  have o1_0 : w1.cell? ⟨w.heap.size + 1 + 1, 0, none⟩ = some (.int .i64 x.kind) := row_cell HX1.out.o 0
  have y1_0 : w1.cell? ⟨w.heap.size + 1, 0, none⟩ = some (.int .i64 0) := row_cell HX1.out.r 0
  have f1_0 : w1.frozen? ⟨w.heap.size + 1, 0, none⟩ = false := (row_room HX1.out.r (i := 0) (by simp)).2
  have o1_1 : w1.cell? ⟨w.heap.size + 1 + 1, 1, none⟩ = some (.string x.name) := row_cell HX1.out.o 1
  have y1_1 : w1.cell? ⟨w.heap.size + 1, 1, none⟩ = some (.string ⟨#[]⟩) := row_cell HX1.out.r 1
  have f1_1 : w1.frozen? ⟨w.heap.size + 1, 1, none⟩ = false := (row_room HX1.out.r (i := 1) (by simp)).2
  have o1_2 : w1.cell? ⟨w.heap.size + 1 + 1, 2, none⟩ = some (.int .i64 0) := row_cell HX1.out.o 2
  have y1_2 : w1.cell? ⟨w.heap.size + 1, 2, none⟩ = some (.int .i64 0) := row_cell HX1.out.r 2
  have f1_2 : w1.frozen? ⟨w.heap.size + 1, 2, none⟩ = false := (row_room HX1.out.r (i := 2) (by simp)).2
  have o1_3 : w1.cell? ⟨w.heap.size + 1 + 1, 3, none⟩ = some (.string ⟨#[]⟩) := row_cell HX1.out.o 3
  have y1_3 : w1.cell? ⟨w.heap.size + 1, 3, none⟩ = some (.string ⟨#[]⟩) := row_cell HX1.out.r 3
  have f1_3 : w1.frozen? ⟨w.heap.size + 1, 3, none⟩ = false := (row_room HX1.out.r (i := 3) (by simp)).2
  have z1_2 : w1.frozen? ⟨w.heap.size + 1 + 1, 2, none⟩ = false := (row_room HX1.out.o (i := 2) (by simp)).2
  have z1_3 : w1.frozen? ⟨w.heap.size + 1 + 1, 3, none⟩ = false := (row_room HX1.out.o (i := 3) (by simp)).2
  go_wp2
  refine bodyPost_ret (v := .agg #[.int .i64 x.kind, .string x.name, .int .i64 x.reply.code, .string x.reply.text]) (by simp [results, Tryz.results63, go_sem, y1_0, y1_1, y1_2, y1_3]) rfl ⟨rfl, ?_⟩
  · exact (below_set (below_set (below_set (below_set (below_set (below_set HX1.out.lo _ _ (by omega) _) _ _ (by omega) _) _ _ (by omega) _) _ _ (by omega) _) _ _ (by omega) _) _ _ (by omega) _)
theorem info_Sn : (Tryz.prog.info? 88).map (fun i => (i.zero, i.size, i.bytes)) = some (some (.agg #[.int .i64 0, .string ⟨#[]⟩, .int .i64 0, .string ⟨#[]⟩]), 4, 48) := by kernel_rfl
set_option maxHeartbeats 4000000 in
theorem toSSn_any (l : List Sn) {v : Value} (w : World) (hx : LoSnS l) (k0 : SSnA w v l) :
    Calls Tryz.prog 30 #[v] w fun e w' => ∃ u, e = .returned u ∧ SSnR w.heap.size w' u l ∧ Below w.heap.size w w' := by
  have HK := hid k0
  have HX := hid hx
  have hN : l.length ≤ 1048576 := hx.1
  obtain ⟨ad, cap, rfl⟩ := k0.sl
  clear hx k0
  obtain ⟨i0, hi, hz0, hz1, hz2⟩ := info_parts info_Sn
  have HHI := hid (And.intro hi (And.intro hz0 (And.intro hz1 hz2)))
  clear hi hz0 hz1
  go_enter Tryz.func30, Tryz.ntmps30
  go_wp2_with (at_make; refine wpList_make_full _ rfl _ _ 36 rfl w.heap.size 88 i0 (.agg #[.int .i64 0, .string ⟨#[]⟩, .int .i64 0, .string ⟨#[]⟩]) 4 Tryz.underlying36 HHI.out.1 HHI.out.2.1 HHI.out.2.2.1 _ _ _ _ l.length rfl rfl rfl rfl (by rw [hz2]; omega) (by unfold maxLen; omega) (Nat.le_refl _) ?_; intro w1 o1 g1)
  have HF0 : Hid (SSnF w.heap.size w1 l 0) := by
    obtain ⟨h1, ⟨h2, _⟩ | ⟨g, c, cur, e, _, h4, _, _, h7, _⟩⟩ := o1
    · cases h2
    · cases e
      exact ⟨cur, h4, h7, fun i h => absurd h (Nat.not_lt_zero _)⟩
  have HB0 := hid ((Below.refl w.heap.size w).grown g1 (Nat.le_refl _) (fun q e => by cases e))
  clear o1 g1
  go_loopw [4] (fun i wr => ∃ j : Nat, j ≤ l.length ∧ i = .int .i64 j ∧ SSnF w.heap.size wr l j ∧ Below w.heap.size w wr) (fun i _ => l.length - (intOf i).toNat)
  case atStart => exact ⟨0, Nat.zero_le _, rfl, HF0.out, HB0.out⟩
  case round =>
    obtain ⟨j, hj, rfl, hfi, hbw⟩ := hrel
    have HFI := hid hfi
    have HBW := hid hbw
    have hgl := hfi.lt
    clear hfi hbw
    by_cases hlt : j < l.length
    · obtain ⟨a, c, e9, hal, ⟨c0, c1, c2, c3⟩⟩ := (HK.out.next HBW.out).at hlt
      injection e9 with ea en ec
      clear en
      subst ea ec
      have HLE := hid (HX.out.2 j hlt)
      obtain ⟨x, hx⟩ : ∃ x, l.getD j sn0 = x := ⟨_, rfl⟩
      have HXE := hid hx
      rw [hx] at HLE c0 c1 c2 c3
      clear hx
      go_wp2_with fail
      refine (toSn_any x _).mono ?_
      rintro e w2 ⟨rfl, hb2⟩
      have HF2 := hid (HFI.out.keep fun i hi hl => hb2.block i hl)
      have HFX := hid (HF2.out.step hlt)
      rw [HXE.out] at HFX
      obtain ⟨⟨w_0, x0⟩, y0⟩ := HF2.out.room (i := j * 4) (by omega)
      obtain ⟨⟨w_1, x1⟩, y1⟩ := HF2.out.room (i := j * 4 + 1) (by omega)
      obtain ⟨⟨w_2, x2⟩, y2⟩ := HF2.out.room (i := j * 4 + 2) (by omega)
      obtain ⟨⟨w_3, x3⟩, y3⟩ := HF2.out.room (i := j * 4 + 3) (by omega)
      have HBX := hid (HBW.out.trans (hb2.mono HBW.out.size))
      clear hb2 c0 c1 c2 c3
      go_wp2
      go_roundw
      case rel => exact ⟨j + 1, by omega, by go_num, HFX.out, (below_set (below_set (below_set (below_set HBX.out _ _ (Nat.le_refl _) _) _ _ (Nat.le_refl _) _) _ _ (Nat.le_refl _) _) _ _ (Nat.le_refl _) _)⟩
      case measure => simp [intOf]; omega
    · obtain rfl : j = l.length := by omega
      go_wp2
      go_ret
      exact ⟨_, rfl, ⟨w.heap.size, rfl, Nat.le_refl _, HFI.out⟩, HBW.out⟩
end Go.Proofs.YtlopcjhipajdcaaGreatDoor.R
