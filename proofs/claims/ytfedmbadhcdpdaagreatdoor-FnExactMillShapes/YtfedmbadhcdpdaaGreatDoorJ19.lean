import Derived.Lib.LazyBuf
import Derived.Lib.Strings
import Derived.Lib.BufferRead
import Derived.Lib.OthersKept
import Derived.Deep.LoopGhost
import Derived.OwnWalk
import Derived.Test.YtfedmbadhcdpdaaGreatDoorJ15
import Derived.Test.YtfedmbadhcdpdaaGreatDoorJ04
import Derived.Test.YtfedmbadhcdpdaaGreatDoorJ08
import Derived.Test.YtfedmbadhcdpdaaGreatDoorJ07
/-! Sameness. -/
namespace Go.Proofs.YtfedmbadhcdpdaaGreatDoor.R
open Go.RowKit
set_option maxRecDepth 20000
set_option maxHeartbeats 4000000 in
theorem eqIn_same (x : C.In) (w : World) :
    Calls Tryz.prog 98 #[.agg #[.int .i64 x.op, .int .i64 x.a, .int .i64 x.n, .string x.text], .agg #[.int .i64 x.op, .int .i64 x.a, .int .i64 x.n, .string x.text]] w fun e w' => e = .returned (.bool true) ∧ Below w.heap.size w w' := by
  have e0 : (x.text.toList != x.text.toList) = false := by simp
  have i0 : (x.op != x.op) = false := by simp
  have i1 : (x.a != x.a) = false := by simp
  have i2 : (x.n != x.n) = false := by simp
  have HB0 := hid (B2.start w (.cells #[.int .i64 x.op, .int .i64 x.a, .int .i64 x.n, .string x.text] 76) (.cells #[.int .i64 x.op, .int .i64 x.a, .int .i64 x.n, .string x.text] 76))
  go_enter Tryz.func98, Tryz.ntmps98
  go_wp2
  go_ret
  exact ⟨rfl, HB0.out.lo⟩
set_option maxHeartbeats 4000000 in
theorem eqSIn_same (l : List C.In) {u v : Value} {B : Nat} (w : World) (hx : LoInS l) (k0 : SInR B w u l) (l0 : SInR B w v l) :
    Calls Tryz.prog 76 #[u, v] w fun e w' => e = .returned (.bool true) ∧ Below w.heap.size w w' := by
  have H1 := hid k0
  have H2 := hid l0
  have HX := hid hx
  have hN : l.length ≤ 1048576 := hx.1
  obtain ⟨gu, rfl⟩ := k0.sl
  obtain ⟨gv, rfl⟩ := l0.sl
  clear k0 l0 hx
  have hne : ((l.length : Int) != (l.length : Int)) = false := by simp
  go_enter Tryz.func76, Tryz.ntmps76
  go_wp2
  go_loopw [5] (fun i wr => ∃ j : Nat, j ≤ l.length ∧ i = .int .i64 j ∧ Below w.heap.size w wr) (fun i _ => l.length - (intOf i).toNat)
  case atStart => exact ⟨0, Nat.zero_le _, rfl, Below.refl _ _⟩
  case round =>
    obtain ⟨j, hj, rfl, hbw⟩ := hrel
    have HBW := hid hbw
    clear hbw
    by_cases hlt : j < l.length
    · obtain ⟨g, e9, _, hgu, a0, a1, a2, a3⟩ := (H1.out.next HBW.out).at hlt
      injection e9 with ea en ec
      injection ea with eb
      injection eb with ec2
      subst ec2
      obtain ⟨g2, e8, _, hgv, b0, b1, b2, b3⟩ := (H2.out.next HBW.out).at hlt
      injection e8 with ea2 en2 ec3
      injection ea2 with eb2
      injection eb2 with ec4
      subst ec4
      clear en ec en2 ec3
      have HLO := hid (HX.out.2 j hlt)
      obtain ⟨x, hx⟩ : ∃ x, l.getD j C.in0 = x := ⟨_, rfl⟩
      rw [hx] at HLO a0 b0 a1 b1 a2 b2 a3 b3
      clear hx
      have A0 := fun p : Gr wr => (p.h.cell (p := ⟨_, _, none⟩) hgu).trans a0
      have C0 := fun p : Gr wr => (p.h.cell (p := ⟨_, _, none⟩) hgv).trans b0
      have A1 := fun p : Gr wr => (p.h.cell (p := ⟨_, _, none⟩) hgu).trans a1
      have C1 := fun p : Gr wr => (p.h.cell (p := ⟨_, _, none⟩) hgv).trans b1
      have A2 := fun p : Gr wr => (p.h.cell (p := ⟨_, _, none⟩) hgu).trans a2
      have C2 := fun p : Gr wr => (p.h.cell (p := ⟨_, _, none⟩) hgv).trans b2
      have A3 := fun p : Gr wr => (p.h.cell (p := ⟨_, _, none⟩) hgu).trans a3
      have C3 := fun p : Gr wr => (p.h.cell (p := ⟨_, _, none⟩) hgv).trans b3
      clear a0 b0 a1 b1 a2 b2 a3 b3
      go_wp2_with fail
      have hne2 : Nonempty (Gr wr) := ⟨⟨wr, Below.refl _ _⟩⟩
      refine wp_region_gr (by kernel_rfl) (by kernel_rfl) ?_
      repeat (go_big_quiet_step (first | (go_at_call 98; refine Calls.gr_of (v := .bool true) fun hpw => ?_; exact eqIn_same x _)))
      refine wpQuiet_nil ?_
      intro _ hw'
      obtain ⟨pw, rfl⟩ := hw'
      have HB4 := hid (HBW.out.trans (pw.h.mono HBW.out.size))
      clear A0 C0 A1 C1 A2 C2 A3 C3
      go_wp2
      go_roundw
      case rel => exact ⟨j + 1, by omega, by go_num, HB4.out⟩
      case measure => simp [intOf]; omega
    · obtain rfl : j = l.length := by omega
      go_wp2
      go_ret
      exact ⟨rfl, HBW.out⟩
end Go.Proofs.YtfedmbadhcdpdaaGreatDoor.R
/-! Sizes. -/
namespace Go.Proofs.YtfedmbadhcdpdaaGreatDoor.R
open Go.RowKit
set_option maxRecDepth 20000
set_option maxHeartbeats 2000000 in
theorem szIn_any (x : C.In) (l : Int) (w : World) (hl : 0 ≤ l) (hl2 : l ≤ 1048576) (hx : OkIn x) :
    Calls Tryz.prog 91 #[.agg #[.int .i64 x.op, .int .i64 x.a, .int .i64 x.n, .string x.text], .int .i64 l] w (SzEnd l (wIn x) w) := by
  have HX := hid hx
  obtain ⟨hx0, hx1, hx2, hx3⟩ := hx
  have HB0 := hid (B1.start w (.cells #[.int .i64 x.op, .int .i64 x.a, .int .i64 x.n, .string x.text] 155))
  have hs_text := small hx3
  by_cases c3 : l - (x.text.size : Int) < 0
  · go_enter Tryz.func91, Tryz.ntmps91
    go_wp2
    go_ret
    exact ⟨⟨_, rfl, by omega, by omega, fun h => by omega⟩, HB0.out.lo⟩
  · go_enter Tryz.func91, Tryz.ntmps91
    go_wp2
    go_ret
    refine ⟨⟨_, rfl, by omega, by omega, fun h => ?_⟩, HB0.out.lo⟩
    simp only [wIn]
    omega
set_option maxHeartbeats 2000000 in
theorem szSIn_any (l : List C.In) {v : Value} (m : Int) (w : World) (hl : 0 ≤ m) (hl2 : m ≤ 1048576) (hx : OkInS l) (k0 : SInA w v l) :
    Calls Tryz.prog 60 #[v, .int .i64 m] w (SzEnd m (wSIn l l.length) w) := by
  have HX := hid hx.2
  have hN := small hx.1
  have HK := hid k0
  obtain ⟨ad, cap, rfl⟩ := k0.sl
  clear hx k0
  by_cases h1 : m - (l.length : Int) < 0
  · go_enter Tryz.func60, Tryz.ntmps60
    go_wp2
    go_ret
    exact ⟨⟨_, rfl, by omega, by omega, fun h => by omega⟩, Below.refl _ _⟩
  · go_enter Tryz.func60, Tryz.ntmps60
    go_wp2
    go_loopw [1, 5] (fun q i wr => ∃ (j : Nat) (r : Int), j ≤ l.length ∧ i = .int .i64 j ∧ q = .int .i64 r ∧ 0 ≤ r ∧ r ≤ m ∧ (Hid (r + (l.length : Int) + (wSIn l j : Int) = m + (j : Int))) ∧ Below w.heap.size w wr) (fun _ i _ => l.length - (intOf i).toNat)
    case atStart => exact ⟨0, _, Nat.zero_le _, rfl, rfl, by omega, by omega, (by show _ = _; simp [wSIn]), Below.refl _ _⟩
    case round =>
      obtain ⟨j, r, hj, rfl, rfl, hr0, hr1, HS, hbw⟩ := hrel
      have HBW := hid hbw
      clear hbw
      by_cases hlt : j < l.length
      · obtain ⟨a, c, e9, hal, ⟨c0, c1, c2, c3⟩⟩ := (HK.out.next HBW.out).at hlt
        injection e9 with ea en ec
        clear en
        subst ea ec
        obtain ⟨x, hx⟩ : ∃ x, l.getD j C.in0 = x := ⟨_, rfl⟩
        have HXE := hid hx
        have HOK := hid (HX.out j hlt)
        rw [hx] at HOK c0 c1 c2 c3
        clear hx
        go_wp2_with fail
        refine (szIn_any x _ _ (by omega) (by omega) HOK.out).mono ?_
        rintro e w1 ⟨⟨r2, rfl, hr3, hr4, hr5⟩, hb1⟩
        have HB1 := hid (HBW.out.trans (hb1.mono HBW.out.size))
        have HR5 := hid hr5
        clear hb1 hr5 c0 c1 c2 c3
        by_cases hs : r2 < 0
        · go_wp2
          go_ret
          exact ⟨⟨-1, rfl, by omega, by omega, fun h => by omega⟩, HB1.out⟩
        · have HS2 : Hid (r2 + (l.length : Int) + (wSIn l (j + 1) : Int) = m + ((j + 1 : Nat) : Int)) := by
            show _ = _
            have := HS.out
            have := HR5.out (by omega)
            simp only [wSIn, HXE.out]
            omega
          go_wp2
          go_roundw
          case rel => exact ⟨j + 1, r2, by omega, by go_num, rfl, by omega, by omega, HS2, HB1.out⟩
          case measure => simp [intOf]; omega
      · obtain rfl : j = l.length := by omega
        go_wp2
        go_ret
        exact ⟨⟨r, rfl, by omega, hr1, fun _ => by have := HS.out; omega⟩, HBW.out⟩
end Go.Proofs.YtfedmbadhcdpdaaGreatDoor.R
/-! Copies. -/
namespace Go.Proofs.YtfedmbadhcdpdaaGreatDoor.R
open Go.RowKit
set_option maxRecDepth 20000
set_option maxHeartbeats 4000000 in
theorem toIn_any (x : C.In) (w : World) :
    Calls Tryz.prog 97 #[.agg #[.int .i64 x.op, .int .i64 x.a, .int .i64 x.n, .string x.text]] w fun e w' => e = .returned (.agg #[.int .i64 x.op, .int .i64 x.a, .int .i64 x.n, .string x.text]) ∧ Below w.heap.size w w' := by
  go_enter Tryz.func97, Tryz.ntmps97
  go_wp2
  refine bodyPost_ret (v := .agg #[.int .i64 x.op, .int .i64 x.a, .int .i64 x.n, .string x.text]) ?_ rfl ⟨rfl, ?_⟩
  · simp [results, Tryz.results97, go_sem]
  · exact (below_two' _ _ _).alloc (by simp; omega) _
theorem info_In : (Tryz.prog.info? 76).map (fun i => (i.zero, i.size, i.bytes)) = some (some (.agg #[.int .i64 0, .int .i64 0, .int .i64 0, .string ⟨#[]⟩]), 4, 40) := by kernel_rfl
set_option maxHeartbeats 4000000 in
theorem toSIn_any (l : List C.In) {v : Value} (w : World) (hx : LoInS l) (k0 : SInA w v l) :
    Calls Tryz.prog 71 #[v] w fun e w' => ∃ u, e = .returned u ∧ SInR w.heap.size w' u l ∧ Below w.heap.size w w' := by
  have HK := hid k0
  have HX := hid hx
  have hN : l.length ≤ 1048576 := hx.1
  obtain ⟨ad, cap, rfl⟩ := k0.sl
  clear hx k0
  obtain ⟨i0, hi, hz0, hz1, hz2⟩ := info_parts info_In
  have HHI := hid (And.intro hi (And.intro hz0 (And.intro hz1 hz2)))
  clear hi hz0 hz1
  go_enter Tryz.func71, Tryz.ntmps71
  go_wp2_with (at_make; refine wpList_make_full _ rfl _ _ 45 rfl w.heap.size 76 i0 (.agg #[.int .i64 0, .int .i64 0, .int .i64 0, .string ⟨#[]⟩]) 4 Tryz.underlying45 HHI.out.1 HHI.out.2.1 HHI.out.2.2.1 _ _ _ _ l.length rfl rfl rfl rfl (by rw [hz2]; omega) (by unfold maxLen; omega) (Nat.le_refl _) ?_; intro w1 o1 g1)
  have HF0 : Hid (SInF w.heap.size w1 l 0) := by
    obtain ⟨h1, ⟨h2, _⟩ | ⟨g, c, cur, e, _, h4, _, _, h7, _⟩⟩ := o1
    · cases h2
    · cases e
      exact ⟨cur, h4, h7, fun i h => absurd h (Nat.not_lt_zero _)⟩
  have HB0 := hid ((Below.refl w.heap.size w).grown g1 (Nat.le_refl _) (fun q e => by cases e))
  clear o1 g1
  go_loopw [4] (fun i wr => ∃ j : Nat, j ≤ l.length ∧ i = .int .i64 j ∧ SInF w.heap.size wr l j ∧ Below w.heap.size w wr) (fun i _ => l.length - (intOf i).toNat)
  case atStart => exact ⟨0, Nat.zero_le _, rfl, HF0.out, HB0.out⟩
  case round =>
    obtain ⟨j, hj, rfl, hfi, hbw⟩ := hrel
    have HFI := hid hfi
    have HBW := hid hbw
    have hgl := hfi.lt
    clear hfi hbw
    by_cases hlt : j < l.length
    · obtain ⟨a, c, e9, hal, ⟨c0, c1, c2, c3⟩⟩ := (HK.out.next HBW.out).at hlt
      injection e9 with ea en ec
      clear en
      subst ea ec
      have HLE := hid (HX.out.2 j hlt)
      obtain ⟨x, hx⟩ : ∃ x, l.getD j C.in0 = x := ⟨_, rfl⟩
      have HXE := hid hx
      rw [hx] at HLE c0 c1 c2 c3
      clear hx
      go_wp2_with fail
      refine (toIn_any x _).mono ?_
      rintro e w2 ⟨rfl, hb2⟩
      have HF2 := hid (HFI.out.keep fun i hi hl => hb2.block i hl)
      have HFX := hid (HF2.out.step hlt)
      rw [HXE.out] at HFX
      obtain ⟨⟨w_0, x0⟩, y0⟩ := HF2.out.room (i := j * 4) (by omega)
      obtain ⟨⟨w_1, x1⟩, y1⟩ := HF2.out.room (i := j * 4 + 1) (by omega)
      obtain ⟨⟨w_2, x2⟩, y2⟩ := HF2.out.room (i := j * 4 + 2) (by omega)
      obtain ⟨⟨w_3, x3⟩, y3⟩ := HF2.out.room (i := j * 4 + 3) (by omega)
      have HBX := hid (HBW.out.trans (hb2.mono HBW.out.size))
      clear hb2 c0 c1 c2 c3
      go_wp2
      go_roundw
      case rel => exact ⟨j + 1, by omega, by go_num, HFX.out, (below_set (below_set (below_set (below_set HBX.out _ _ (Nat.le_refl _) _) _ _ (Nat.le_refl _) _) _ _ (Nat.le_refl _) _) _ _ (Nat.le_refl _) _)⟩
      case measure => simp [intOf]; omega
    · obtain rfl : j = l.length := by omega
      go_wp2
      go_ret
      exact ⟨_, rfl, ⟨w.heap.size, rfl, Nat.le_refl _, HFI.out⟩, HBW.out⟩
end Go.Proofs.YtfedmbadhcdpdaaGreatDoor.R
/-! Copies. -/
namespace Go.Proofs.YtfedmbadhcdpdaaGreatDoor.R
open Go.RowKit
set_option maxRecDepth 20000
set_option maxHeartbeats 4000000 in
theorem toFn_any (x : C.Fn) {v0 v1 : Value} (w : World) (hx : LoFn x) (k0 : SIntA w v0 x.params) (k1 : SInA w v1 x.ins) :
    Calls Tryz.prog 39 #[.agg #[.string x.name, v0, .int .i64 x.result, .int .i64 x.slots, v1]] w fun e w' => ∃ u0 u1, e = .returned (.agg #[.string x.name, u0, .int .i64 x.result, .int .i64 x.slots, u1]) ∧ SIntR w.heap.size w' u0 x.params ∧ SInR w.heap.size w' u1 x.ins ∧ Below w.heap.size w w' := by
  have K0 := hid k0
  have K1 := hid k1
  obtain ⟨ad0, cp0, rfl⟩ := k0.sl
  obtain ⟨ad1, cp1, rfl⟩ := k1.sl
  clear k0 k1
  have HLO := hid hx
  clear hx
  have HX0 := hid (B3.start w (.cells #[.string x.name, .slice ad0 x.params.length cp0, .int .i64 x.result, .int .i64 x.slots, .slice ad1 x.ins.length cp1] 72) #[.string ⟨#[]⟩, .slice none 0 0, .int .i64 0, .int .i64 0, .slice none 0 0] #[.string ⟨#[]⟩, .slice none 0 0, .int .i64 0, .int .i64 0, .slice none 0 0] 47)
  obtain ⟨W0, hW0⟩ : ∃ W, ((w.alloc (.cells #[.string x.name, .slice ad0 x.params.length cp0, .int .i64 x.result, .int .i64 x.slots, .slice ad1 x.ins.length cp1] 72)).alloc (.cells #[.string ⟨#[]⟩, .slice none 0 0, .int .i64 0, .int .i64 0, .slice none 0 0] 47)).alloc (.cells #[.string ⟨#[]⟩, .slice none 0 0, .int .i64 0, .int .i64 0, .slice none 0 0] 47) = W := ⟨_, rfl⟩
  rw [hW0] at HX0
  have a0_0 : W0.cell? ⟨w.heap.size, 0, none⟩ = some (.string x.name) := row_cell HX0.out.e 0
  have a0_1 : W0.cell? ⟨w.heap.size, 1, none⟩ = some (.slice ad0 x.params.length cp0) := row_cell HX0.out.e 1
  have o0_0 : W0.cell? ⟨w.heap.size + 1 + 1, 0, none⟩ = some (.string ⟨#[]⟩) := row_cell HX0.out.o 0
  have z0_0 : W0.frozen? ⟨w.heap.size + 1 + 1, 0, none⟩ = false := (row_room HX0.out.o (i := 0) (by simp)).2
  go_enter Tryz.func39, Tryz.ntmps39
  go_wp2_with fail
  clear hW0
  have HY0 := hid (HX0.out.set 0 (.string x.name))
  obtain ⟨V0, hV0⟩ : ∃ V, (W0.setCell ⟨w.heap.size + 1 + 1, 0, none⟩ (.string x.name)) = V := ⟨_, rfl⟩
  rw [hV0] at HY0 ⊢
  clear hV0
  clear a0_0 a0_1 o0_0 z0_0 HX0
  refine (toSInt_any x.params V0 HLO.out.1 (K0.out.next HY0.out.lo)).mono ?_
  rintro e w1 ⟨u0, rfl, r0, hb0⟩
  have HRu0 := hid (r0.mono (B' := w.heap.size + 3) HY0.out.sz)
  obtain ⟨gu0, rfl⟩ := r0.sl
  clear r0
  have HX1 := hid (HY0.out.next hb0)
  clear hb0 HY0
  have a1_1 : w1.cell? ⟨w.heap.size, 1, none⟩ = some (.slice ad0 x.params.length cp0) := row_cell HX1.out.e 1
  have a1_2 : w1.cell? ⟨w.heap.size, 2, none⟩ = some (.int .i64 x.result) := row_cell HX1.out.e 2
  have a1_3 : w1.cell? ⟨w.heap.size, 3, none⟩ = some (.int .i64 x.slots) := row_cell HX1.out.e 3
  have a1_4 : w1.cell? ⟨w.heap.size, 4, none⟩ = some (.slice ad1 x.ins.length cp1) := row_cell HX1.out.e 4
  have o1_1 : w1.cell? ⟨w.heap.size + 1 + 1, 1, none⟩ = some (.slice none 0 0) := row_cell HX1.out.o 1
  have z1_1 : w1.frozen? ⟨w.heap.size + 1 + 1, 1, none⟩ = false := (row_room HX1.out.o (i := 1) (by simp)).2
  have o1_2 : w1.cell? ⟨w.heap.size + 1 + 1, 2, none⟩ = some (.int .i64 0) := row_cell HX1.out.o 2
  have z1_2 : w1.frozen? ⟨w.heap.size + 1 + 1, 2, none⟩ = false := (row_room HX1.out.o (i := 2) (by simp)).2
  have o1_3 : w1.cell? ⟨w.heap.size + 1 + 1, 3, none⟩ = some (.int .i64 0) := row_cell HX1.out.o 3
  have z1_3 : w1.frozen? ⟨w.heap.size + 1 + 1, 3, none⟩ = false := (row_room HX1.out.o (i := 3) (by simp)).2
  go_wp2_with fail
  have HY1 := hid (((HX1.out.set 1 (.slice (some ⟨gu0, 0, none⟩) x.params.length x.params.length)).set 2 (.int .i64 x.result)).set 3 (.int .i64 x.slots))
  have HRu0_1 := hid (((HRu0.out.set (b := w.heap.size + 1 + 1) (by omega) 1 (.slice (some ⟨gu0, 0, none⟩) x.params.length x.params.length)).set (b := w.heap.size + 1 + 1) (by omega) 2 (.int .i64 x.result)).set (b := w.heap.size + 1 + 1) (by omega) 3 (.int .i64 x.slots))
  obtain ⟨V1, hV1⟩ : ∃ V, (((w1.setCell ⟨w.heap.size + 1 + 1, 1, none⟩ (.slice (some ⟨gu0, 0, none⟩) x.params.length x.params.length)).setCell ⟨w.heap.size + 1 + 1, 2, none⟩ (.int .i64 x.result)).setCell ⟨w.heap.size + 1 + 1, 3, none⟩ (.int .i64 x.slots)) = V := ⟨_, rfl⟩
  rw [hV1] at HY1 HRu0_1 ⊢
  clear hV1
  clear a1_1 a1_2 a1_3 a1_4 o1_1 z1_1 o1_2 z1_2 o1_3 z1_3 HX1 HRu0
  refine (toSIn_any x.ins V1 HLO.out.2 (K1.out.next HY1.out.lo)).mono ?_
  rintro e w2 ⟨u1, rfl, r1, hb1⟩
  have HRu1 := hid (r1.mono (B' := w.heap.size + 3) HY1.out.sz)
  obtain ⟨gu1, rfl⟩ := r1.sl
  clear r1
  have HX2 := hid (HY1.out.next hb1)
  have HRu0 := hid (HRu0_1.out.next hb1)
  clear HRu0_1
  clear hb1 HY1
  have o2_0 : w2.cell? ⟨w.heap.size + 1 + 1, 0, none⟩ = some (.string x.name) := row_cell HX2.out.o 0
  have y2_0 : w2.cell? ⟨w.heap.size + 1, 0, none⟩ = some (.string ⟨#[]⟩) := row_cell HX2.out.r 0
  have f2_0 : w2.frozen? ⟨w.heap.size + 1, 0, none⟩ = false := (row_room HX2.out.r (i := 0) (by simp)).2
  have o2_1 : w2.cell? ⟨w.heap.size + 1 + 1, 1, none⟩ = some (.slice (some ⟨gu0, 0, none⟩) x.params.length x.params.length) := row_cell HX2.out.o 1
  have y2_1 : w2.cell? ⟨w.heap.size + 1, 1, none⟩ = some (.slice none 0 0) := row_cell HX2.out.r 1
  have f2_1 : w2.frozen? ⟨w.heap.size + 1, 1, none⟩ = false := (row_room HX2.out.r (i := 1) (by simp)).2
  have o2_2 : w2.cell? ⟨w.heap.size + 1 + 1, 2, none⟩ = some (.int .i64 x.result) := row_cell HX2.out.o 2
  have y2_2 : w2.cell? ⟨w.heap.size + 1, 2, none⟩ = some (.int .i64 0) := row_cell HX2.out.r 2
  have f2_2 : w2.frozen? ⟨w.heap.size + 1, 2, none⟩ = false := (row_room HX2.out.r (i := 2) (by simp)).2
  have o2_3 : w2.cell? ⟨w.heap.size + 1 + 1, 3, none⟩ = some (.int .i64 x.slots) := row_cell HX2.out.o 3
  have y2_3 : w2.cell? ⟨w.heap.size + 1, 3, none⟩ = some (.int .i64 0) := row_cell HX2.out.r 3
  have f2_3 : w2.frozen? ⟨w.heap.size + 1, 3, none⟩ = false := (row_room HX2.out.r (i := 3) (by simp)).2
  have o2_4 : w2.cell? ⟨w.heap.size + 1 + 1, 4, none⟩ = some (.slice none 0 0) := row_cell HX2.out.o 4
  have y2_4 : w2.cell? ⟨w.heap.size + 1, 4, none⟩ = some (.slice none 0 0) := row_cell HX2.out.r 4
  have f2_4 : w2.frozen? ⟨w.heap.size + 1, 4, none⟩ = false := (row_room HX2.out.r (i := 4) (by simp)).2
  have z2_4 : w2.frozen? ⟨w.heap.size + 1 + 1, 4, none⟩ = false := (row_room HX2.out.o (i := 4) (by simp)).2
  go_wp2
  refine bodyPost_ret (v := .agg #[.string x.name, .slice (some ⟨gu0, 0, none⟩) x.params.length x.params.length, .int .i64 x.result, .int .i64 x.slots, .slice (some ⟨gu1, 0, none⟩) x.ins.length x.ins.length]) (by simp [results, Tryz.results39, go_sem, y2_0, y2_1, y2_2, y2_3, y2_4]) rfl ⟨_, _, rfl, ?_, ?_, ?_⟩
  · exact ((((((HRu0.out.set (by omega) _ _).set (by omega) _ _).set (by omega) _ _).set (by omega) _ _).set (by omega) _ _).set (by omega) _ _).mono (by omega)
  · exact ((((((HRu1.out.set (by omega) _ _).set (by omega) _ _).set (by omega) _ _).set (by omega) _ _).set (by omega) _ _).set (by omega) _ _).mono (by omega)
  · exact (below_set (below_set (below_set (below_set (below_set (below_set HX2.out.lo _ _ (by omega) _) _ _ (by omega) _) _ _ (by omega) _) _ _ (by omega) _) _ _ (by omega) _) _ _ (by omega) _)
theorem info_Fn : (Tryz.prog.info? 47).map (fun i => (i.zero, i.size, i.bytes)) = some (some (.agg #[.string ⟨#[]⟩, .slice none 0 0, .int .i64 0, .int .i64 0, .slice none 0 0]), 5, 80) := by kernel_rfl
set_option maxHeartbeats 4000000 in
theorem toSFn_any (l : List C.Fn) {v : Value} (w : World) (hx : LoFnS l) (k0 : SFnA w v l) :
    Calls Tryz.prog 20 #[v] w fun e w' => ∃ u, e = .returned u ∧ SFnR w.heap.size w' u l ∧ Below w.heap.size w w' := by
  have HK := hid k0
  have HX := hid hx
  have hN : l.length ≤ 1048576 := hx.1
  obtain ⟨ad, cap, rfl⟩ := k0.sl
  clear hx k0
  obtain ⟨i0, hi, hz0, hz1, hz2⟩ := info_parts info_Fn
  have HHI := hid (And.intro hi (And.intro hz0 (And.intro hz1 hz2)))
  clear hi hz0 hz1
  go_enter Tryz.func20, Tryz.ntmps20
  go_wp2_with (at_make; refine wpList_make_full _ rfl _ _ 28 rfl w.heap.size 47 i0 (.agg #[.string ⟨#[]⟩, .slice none 0 0, .int .i64 0, .int .i64 0, .slice none 0 0]) 5 Tryz.underlying28 HHI.out.1 HHI.out.2.1 HHI.out.2.2.1 _ _ _ _ l.length rfl rfl rfl rfl (by rw [hz2]; omega) (by unfold maxLen; omega) (Nat.le_refl _) ?_; intro w1 o1 g1)
  have HF0 : Hid (SFnF w.heap.size w1 l 0) := by
    obtain ⟨h1, ⟨h2, _⟩ | ⟨g, c, cur, e, _, h4, _, _, h7, _⟩⟩ := o1
    · cases h2
    · cases e
      exact ⟨cur, h4, h7, fun i h => absurd h (Nat.not_lt_zero _)⟩
  have HB0 := hid ((Below.refl w.heap.size w).grown g1 (Nat.le_refl _) (fun q e => by cases e))
  clear o1 g1
  go_loopw [4] (fun i wr => ∃ j : Nat, j ≤ l.length ∧ i = .int .i64 j ∧ SFnF w.heap.size wr l j ∧ Below w.heap.size w wr) (fun i _ => l.length - (intOf i).toNat)
  case atStart => exact ⟨0, Nat.zero_le _, rfl, HF0.out, HB0.out⟩
  case round =>
    obtain ⟨j, hj, rfl, hfi, hbw⟩ := hrel
    have HFI := hid hfi
    have HBW := hid hbw
    have hgl := hfi.lt
    clear hfi hbw
    by_cases hlt : j < l.length
    · obtain ⟨a, c, e9, hal, v0, v1, ⟨c0, c1, c2, c3, c4⟩, t0, t1⟩ := (HK.out.next HBW.out).at hlt
      injection e9 with ea en ec
      clear en
      subst ea ec
      have HLE := hid (HX.out.2 j hlt)
      obtain ⟨x, hx⟩ : ∃ x, l.getD j C.fn0 = x := ⟨_, rfl⟩
      have HXE := hid hx
      rw [hx] at HLE c0 c2 c3 t0 t1
      clear hx
      have HT0 := hid t0
      obtain ⟨ae0, ce0, rfl⟩ := t0.sl
      clear t0
      have HT1 := hid t1
      obtain ⟨ae1, ce1, rfl⟩ := t1.sl
      clear t1
      go_wp2_with fail
      refine (toFn_any x _ HLE.out HT0.out HT1.out).mono ?_
      rintro e w2 ⟨u0, u1, rfl, s0, s1, hb2⟩
      have HF2 := hid (HFI.out.keep fun i hi hl => hb2.block i hl)
      have HFX := hid (HF2.out.step hlt (by rw [HXE.out]; exact s0.mono (by omega)) (by rw [HXE.out]; exact s1.mono (by omega)))
      rw [HXE.out] at HFX
      obtain ⟨gq0, rfl⟩ := s0.sl
      clear s0
      obtain ⟨gq1, rfl⟩ := s1.sl
      clear s1
      obtain ⟨⟨w_0, x0⟩, y0⟩ := HF2.out.room (i := j * 5) (by omega)
      obtain ⟨⟨w_1, x1⟩, y1⟩ := HF2.out.room (i := j * 5 + 1) (by omega)
      obtain ⟨⟨w_2, x2⟩, y2⟩ := HF2.out.room (i := j * 5 + 2) (by omega)
      obtain ⟨⟨w_3, x3⟩, y3⟩ := HF2.out.room (i := j * 5 + 3) (by omega)
      obtain ⟨⟨w_4, x4⟩, y4⟩ := HF2.out.room (i := j * 5 + 4) (by omega)
      have HBX := hid (HBW.out.trans (hb2.mono HBW.out.size))
      clear hb2 c0 c1 c2 c3 c4
      go_wp2
      go_roundw
      case rel => exact ⟨j + 1, by omega, by go_num, HFX.out, (below_set (below_set (below_set (below_set (below_set HBX.out _ _ (Nat.le_refl _) _) _ _ (Nat.le_refl _) _) _ _ (Nat.le_refl _) _) _ _ (Nat.le_refl _) _) _ _ (Nat.le_refl _) _)⟩
      case measure => simp [intOf]; omega
    · obtain rfl : j = l.length := by omega
      go_wp2
      go_ret
      exact ⟨_, rfl, ⟨w.heap.size, rfl, Nat.le_refl _, HFI.out⟩, HBW.out⟩
end Go.Proofs.YtfedmbadhcdpdaaGreatDoor.R
/-! Copies. -/
namespace Go.Proofs.YtfedmbadhcdpdaaGreatDoor.R
open Go.RowKit
set_option maxRecDepth 20000
set_option maxHeartbeats 4000000 in
theorem toCd_any (x : Cd) {v0 : Value} (w : World) (hx : LoCd x) (k0 : SFnA w v0 x.fns) :
    Calls Tryz.prog 7 #[.agg #[v0]] w fun e w' => ∃ u0, e = .returned (.agg #[u0]) ∧ SFnR w.heap.size w' u0 x.fns ∧ Below w.heap.size w w' := by
  have K0 := hid k0
  obtain ⟨ad0, cp0, rfl⟩ := k0.sl
  clear k0
  have HLO := hid hx
  clear hx
  have HX0 := hid (B3.start w (.cells #[.slice ad0 x.fns.length cp0] 24) #[.slice none 0 0] #[.slice none 0 0] 30)
  obtain ⟨W0, hW0⟩ : ∃ W, ((w.alloc (.cells #[.slice ad0 x.fns.length cp0] 24)).alloc (.cells #[.slice none 0 0] 30)).alloc (.cells #[.slice none 0 0] 30) = W := ⟨_, rfl⟩
  rw [hW0] at HX0
  have a0_0 : W0.cell? ⟨w.heap.size, 0, none⟩ = some (.slice ad0 x.fns.length cp0) := row_cell HX0.out.e 0
  go_enter Tryz.func7, Tryz.ntmps7
  go_wp2_with fail
  clear hW0
  have HY0 := hid HX0.out
  clear a0_0 HX0
  refine (toSFn_any x.fns W0 HLO.out (K0.out.next HY0.out.lo)).mono ?_
  rintro e w1 ⟨u0, rfl, r0, hb0⟩
  have HRu0 := hid (r0.mono (B' := w.heap.size + 3) HY0.out.sz)
  obtain ⟨gu0, rfl⟩ := r0.sl
  clear r0
  have HX1 := hid (HY0.out.next hb0)
  clear hb0 HY0
  have o1_0 : w1.cell? ⟨w.heap.size + 1 + 1, 0, none⟩ = some (.slice none 0 0) := row_cell HX1.out.o 0
  have y1_0 : w1.cell? ⟨w.heap.size + 1, 0, none⟩ = some (.slice none 0 0) := row_cell HX1.out.r 0
  have f1_0 : w1.frozen? ⟨w.heap.size + 1, 0, none⟩ = false := (row_room HX1.out.r (i := 0) (by simp)).2
  have z1_0 : w1.frozen? ⟨w.heap.size + 1 + 1, 0, none⟩ = false := (row_room HX1.out.o (i := 0) (by simp)).2
  go_wp2
  refine bodyPost_ret (v := .agg #[.slice (some ⟨gu0, 0, none⟩) x.fns.length x.fns.length]) (by simp [results, Tryz.results7, go_sem, y1_0]) rfl ⟨_, rfl, ?_, ?_⟩
  · exact ((HRu0.out.set (by omega) _ _).set (by omega) _ _).mono (by omega)
  · exact (below_set (below_set HX1.out.lo _ _ (by omega) _) _ _ (by omega) _)
end Go.Proofs.YtfedmbadhcdpdaaGreatDoor.R
/-! Types as the bytes of texts. -/
namespace Go.Proofs.YtfedmbadhcdpdaaGreatDoor.C
open Go.RowKit
set_option maxRecDepth 20000
def kb (x : Int) : UInt8 := UInt8.ofNat x.toNat
def kt (l : List Int) : ByteArray := ⟨(l.map kb).toArray⟩
def Ok10 (l : List Int) : Prop := ∀ x ∈ l, 0 ≤ x ∧ x ≤ 10
theorem kb_nat {x : Int} (h : 0 ≤ x ∧ x ≤ 10) : ((kb x).toNat : Int) = x := by
  unfold kb
  have : (UInt8.ofNat x.toNat).toNat = x.toNat := by simp; omega
  rw [this]; omega
theorem kt_size (l : List Int) : (kt l).size = l.length := by simp [kt, ByteArray.size]
theorem kt_nil : kt [] = ⟨#[]⟩ := rfl
theorem kt_data (l : List Int) : (kt l).data.toList = l.map kb := by simp [kt]
theorem kt_get {l : List Int} (h : Ok10 l) {i : Nat} (hi : i < (kt l).size) : (((kt l)[i]).toNat : Int) = l.getD i 0 := by
  have hi2 : i < l.length := by rw [← kt_size]; exact hi
  have e : (kt l)[i] = kb l[i] := by
    show (kt l).data[i]'_ = _
    simp [kt]
  rw [e, kb_nat (h _ (List.getElem_mem hi2)), List.getD_eq_getElem?_getD, List.getElem?_eq_getElem hi2]
  rfl
theorem kb_inj {x y : Int} (hx : 0 ≤ x ∧ x ≤ 10) (hy : 0 ≤ y ∧ y ≤ 10) (h : kb x = kb y) : x = y := by
  have := kb_nat hx
  rw [h, kb_nat hy] at this
  exact this.symm
theorem kt_inj : ∀ {a b : List Int}, Ok10 a → Ok10 b → kt a = kt b → a = b := by
  intro a b ha hb h
  have e : a.map kb = b.map kb := by rw [← kt_data, ← kt_data, h]
  clear h
  induction a generalizing b with
  | nil =>
    cases b with
    | nil => rfl
    | cons y b => simp at e
  | cons x a ih =>
    cases b with
    | nil => simp at e
    | cons y b =>
      simp only [List.map_cons, List.cons.injEq] at e
      rw [kb_inj (ha x (by simp)) (hb y (by simp)) e.1, ih (fun z hz => ha z (by simp [hz])) (fun z hz => hb z (by simp [hz])) e.2]
theorem ba_ext {a b : ByteArray} (h : a.data.toList = b.data.toList) : a = b := by
  apply ByteArray.ext
  exact Array.ext' h
theorem kt_append (a b : List Int) : kt (a ++ b) = kt a ++ kt b := by
  apply ba_ext
  rw [kt_data]
  simp [kt_data, ByteArray.data_append]
theorem kt_take (l : List Int) (j : Nat) : (kt l).extract 0 j = kt (l.take j) := by
  apply ba_ext
  rw [kt_data, ByteArray.data_extract]
  simp [kt_data, List.map_take]
theorem kt_drop (l : List Int) (i : Nat) : (kt l).extract i (kt l).size = kt (l.drop i) := by
  apply ba_ext
  rw [kt_data, ByteArray.data_extract, kt_size]
  simp [kt_data, List.map_drop]
  rw [List.take_of_length_le (by simp)]
def lv (s : Sh) : Value := .agg #[.int .i64 (s.st : Nat), .string (kt s.sl), .string (kt s.sk)]
theorem ok_sl {S : Nat} {s : Sh} (h : OkSh S s) : Ok10 s.sl ∧ Ok10 s.sk := by
  rcases h with rfl | rfl | ⟨_, _, h1, h2, _⟩
  · exact ⟨fun x hx => (nomatch hx), fun x hx => (nomatch hx)⟩
  · exact ⟨fun x hx => (nomatch hx), fun x hx => (nomatch hx)⟩
  · exact ⟨h1, fun x hx => by have := h2 x hx; omega⟩
theorem ok_len {S : Nat} {s : Sh} (h : OkSh S s) : s.sl.length ≤ S ∧ s.sk.length ≤ 600 := by
  rcases h with rfl | rfl | ⟨_, h1, _, _, h2⟩
  · exact ⟨Nat.zero_le _, Nat.zero_le _⟩
  · exact ⟨Nat.zero_le _, Nat.zero_le _⟩
  · exact ⟨by omega, h2⟩
theorem lv_inj {S : Nat} {a b : Sh} (ha : OkSh S a) (hb : OkSh S b) : (a.st = b.st ∧ kt a.sl = kt b.sl ∧ kt a.sk = kt b.sk) ↔ a = b := by
  constructor
  · rintro ⟨h1, h2, h3⟩
    have e2 := kt_inj (ok_sl ha).1 (ok_sl hb).1 h2
    have e3 := kt_inj (ok_sl ha).2 (ok_sl hb).2 h3
    cases a; cases b
    simp_all
  · intro h; rw [h]; exact ⟨rfl, rfl, rfl⟩
theorem slJoin_self (a : List Int) : slJoin a a = a := by
  unfold slJoin
  induction a with
  | nil => rfl
  | cons x a ih => simp at ih ⊢
end Go.Proofs.YtfedmbadhcdpdaaGreatDoor.C
/-! Which instructions have an argument, in the model. -/
namespace Go.Proofs.YtfedmbadhcdpdaaGreatDoor.C
open Go.RowKit
set_option maxRecDepth 20000
def hasA (op : Int) : Bool := decide (op = 1) || decide (op = 2) || decide (op = 3) || inB op 5 12
set_option maxHeartbeats 1000000 in
theorem hasA_any (op : Int) (w : World) : Calls Tryz.prog 62 #[.int .i64 op] w fun e w' => e = .returned (.bool (hasA op)) ∧ w' = w := by
  obtain rfl | rfl | rfl | h : op = 1 ∨ op = 2 ∨ op = 3 ∨ ¬ (op = 1 ∨ op = 2 ∨ op = 3) := by omega
  iterate 3
    · go_enter Tryz.func62, Tryz.ntmps62
      go_wp2
      go_ret
      exact ⟨rfl, rfl⟩
  · have e1 : (op == 1) = false := by simp; omega
    have e2 : (op == 2) = false := by simp; omega
    have e3 : (op == 3) = false := by simp; omega
    have HH : Hid (hasA op = inB op 5 12) := hid (by unfold hasA; simp; omega)
    have HC := hid (fun W => l16In_any op 5 12 W)
    obtain ⟨B, hB⟩ : ∃ B, inB op 5 12 = B := ⟨_, rfl⟩
    rw [hB] at HC HH
    clear h hB
    go_enter Tryz.func62, Tryz.ntmps62
    go_wp2_with (go_at_call 24; refine (HC.out _).mono ?_; rintro e w' ⟨rfl, hw⟩; have hw2 := hw.symm; clear hw; subst hw2)
    go_ret
    exact ⟨ret_bool HH.out.symm, rfl⟩
end Go.Proofs.YtfedmbadhcdpdaaGreatDoor.C
/-! millSameKinds. -/
namespace Go.Proofs.YtfedmbadhcdpdaaGreatDoor.C
open Go.RowKit
set_option maxRecDepth 20000
theorem z200 : Tryz.zeroCells185 = Array.replicate 200 (Value.int .u8 0) := by kernel_rfl
theorem size_u8 (w : World) : (Go.sizeOf 5).run Tryz.prog w = .ok 1 w := by kernel_rfl
/-- What lies in the room while the places below i are done. -/
def sk8 (a b : List Int) (i j : Nat) : Value := .int .u8 (if j < a.length then (if j < i then (slJoin a b).getD j 0 else a.getD j 0) else 0)
theorem room_start {a : List Int} (ha : Ok10 a) (_h200 : a.length ≤ 200) {W : World} {g : Nat} {t : TypeId} (h : W.rowIs g t 200 (fun _ => .int .u8 0)) (b : List Int) : (W.setCells g 0 ((kt a).data.toList.map fun x => Value.int .u8 (x.toNat : Int))).rowIs g t 200 (sk8 a b 0) := by
  refine (rowIs_setCells _ 0 W _ h).congr fun j hj => ?_
  unfold sk8
  rw [kt_data]
  simp only [Nat.zero_le, true_and, Nat.zero_add, List.length_map, Nat.sub_zero, Nat.not_lt_zero, if_false]
  by_cases hj2 : j < a.length
  · rw [if_pos hj2, if_pos hj2]
    rw [List.getElem?_map, List.getElem?_map, List.getElem?_eq_getElem hj2, List.getD_eq_getElem?_getD, List.getElem?_eq_getElem hj2]
    simp [kb_nat (ha _ (List.getElem_mem hj2))]
  · rw [if_neg hj2, if_neg hj2]
theorem room_same {a b : List Int} {j : Nat} {W : World} {g : Nat} {t : TypeId} (h : W.rowIs g t 200 (sk8 a b j)) (he : (slJoin a b).getD j 0 = a.getD j 0) {n : Nat} : (W.drewN n).rowIs g t 200 (sk8 a b (j + 1)) := by
  refine World.rowIs.of_block (h.congr fun q hq => ?_) rfl
  unfold sk8
  split
  · by_cases e : q = j
    · subst e; rw [if_neg (Nat.lt_irrefl q), if_pos (by omega), he]
    · by_cases hl : q < j
      · rw [if_pos hl, if_pos (by omega)]
      · rw [if_neg hl, if_neg (by omega)]
  · rfl
theorem room_put {a b : List Int} {j : Nat} {W : World} {g : Nat} {t : TypeId} (h : W.rowIs g t 200 (sk8 a b j)) (hj : j < a.length) (he : (slJoin a b).getD j 0 = 0) {n : Nat} : ((W.drewN n).setCell ⟨g, j, none⟩ (.int .u8 0)).rowIs g t 200 (sk8 a b (j + 1)) := by
  have h' : (W.drewN n).rowIs g t 200 (sk8 a b j) := h.of_block rfl
  refine (h'.set j (.int .u8 0)).congr fun q hq => ?_
  unfold sk8
  by_cases e : q = j
  · subst e; rw [if_pos rfl, if_pos hj, if_pos (by omega), he]
  · rw [if_neg e]
    split
    · by_cases hl : q < j
      · rw [if_pos hl, if_pos (by omega)]
      · rw [if_neg hl, if_neg (by omega)]
    · rfl
theorem slJoin_ok {a b : List Int} (ha : Ok10 a) (hl : a.length = b.length) : Ok10 (slJoin a b) := by
  intro x hx
  obtain ⟨i, hi, rfl⟩ := List.getElem_of_mem hx
  have hi2 : i < a.length := by rw [← slJoin_length a b hl]; exact hi
  have e := slJoin_get a b hl i hi2
  rw [List.getD_eq_getElem?_getD, List.getElem?_eq_getElem hi, Option.getD_some] at e
  rw [e]
  split
  · rw [List.getD_eq_getElem?_getD, List.getElem?_eq_getElem hi2]
    exact ha _ (List.getElem_mem hi2)
  · omega
theorem str_eq2 {a b : ByteArray} : (a.toList == b.toList) = true ↔ a = b := by
  rw [Lib.toList_data, Lib.toList_data, beq_iff_eq]
  exact ⟨ba_ext, fun h => by rw [h]⟩
set_option maxHeartbeats 2000000 in
theorem sameKinds_any {a b : List Int} (ha : Ok10 a) (hb : Ok10 b) (hl : a.length = b.length) (h200 : a.length ≤ 200) (w : World) :
    Calls Tryz.prog 103 #[.string (kt a), .string (kt b)] w fun e w' => e = .returned (.string (kt (slJoin a b))) ∧ Below w.heap.size w w' := by
  have HA := hid ha
  have HB := hid hb
  have HL := hid hl
  have hsa := kt_size a
  have hsb : (kt b).size = a.length := by rw [kt_size]; omega
  have HSA := hid hsa
  have HSB := hid hsb
  clear ha hb hl
  go_enter Tryz.func103, Tryz.ntmps103
  go_upto_region 2 with fail
  have hrow : (w.alloc (.cells Tryz.zeroCells185 185)).rowIs w.heap.size 185 200 (fun _ => .int .u8 0) := ⟨_, heap_alloc_new _ _, by rw [z200]; simp, fun i hi => by rw [z200]; simp [hi]⟩
  have HLO := hid ((Below.refl w.heap.size w).alloc (Nat.le_refl _) (.cells Tryz.zeroCells185 185))
  obtain ⟨W1, hW1⟩ : ∃ W, w.alloc (.cells Tryz.zeroCells185 185) = W := ⟨_, rfl⟩
  rw [hW1] at hrow HLO ⊢
  clear hW1
  have HROW := hid hrow
  clear hrow
  have hcp : (Builtin.copy_ #[107, 9] 3 #[.slice (some ⟨w.heap.size, 0, none⟩) 200 200, .string (kt a)]).run Tryz.prog W1 = .ok (.int .i64 (a.length : Nat)) (W1.setCells w.heap.size 0 ((kt a).data.toList.map fun x => Value.int .u8 (x.toNat : Int))) := by
    have := run_copy_string (P := Tryz.prog) W1 107 9 3 5 w.heap.size 0 200 200 (kt a) Tryz.underlying107 size_u8 (by omega) (fun j hj => by rw [Nat.zero_add, HROW.out.cell (by omega)]; rfl) (fun j hj => HROW.out.frozen _)
    rw [HSA.out] at this
    exact this
  have HR2 := hid (room_start HA.out h200 HROW.out b)
  have HLO2 := hid (below_setCells (Nat.le_refl _) ((kt a).data.toList.map fun x => Value.int .u8 (x.toNat : Int)) 0 W1 HLO.out)
  obtain ⟨W2, hW2⟩ : ∃ W, W1.setCells w.heap.size 0 ((kt a).data.toList.map fun x => Value.int .u8 (x.toNat : Int)) = W := ⟨_, rfl⟩
  rw [hW2] at hcp HR2 HLO2
  clear hW2
  have hai : (a.length : Int) ≤ 200 := by omega
  go_wp2_with fail
  clear hcp
  go_loopw [14] (fun i wr => ∃ j : Nat, j ≤ a.length ∧ i = .int .i64 j ∧ Below w.heap.size w wr ∧ wr.rowIs w.heap.size 185 200 (sk8 a b j)) (fun i _ => a.length - (intOf i).toNat)
  case atStart => exact ⟨0, Nat.zero_le _, rfl, HLO2.out, HR2.out⟩
  case round =>
    obtain ⟨j, hj, rfl, hlo, hrow⟩ := hrel
    have HLO3 := hid hlo
    have HR3 := hid hrow
    clear hlo hrow HR2 HLO2
    by_cases hlt : j < a.length
    · have hlti : (j : Int) < (a.length : Int) := by omega
      have hlt2 : j < (kt b).size := by omega
      have hlt3 : (j : Int) < ((kt b).size : Int) := by omega
      have kA := HR3.out.cell (show j < 200 by omega)
      have kF := HR3.out.frozen j
      have hyv := kt_get HB.out hlt2
      have HT0 := hid (slJoin_get a b HL.out j hlt)
      unfold sk8 at kA
      rw [if_pos hlt, if_neg (Nat.lt_irrefl j)] at kA
      obtain ⟨x, hx⟩ : ∃ x, a.getD j 0 = x := ⟨_, rfl⟩
      obtain ⟨y, hy⟩ : ∃ y, b.getD j 0 = y := ⟨_, rfl⟩
      rw [hx] at kA HT0
      rw [hy] at hyv HT0
      have HX := hid hx
      clear hx hy
      by_cases hxy : x = y
      · have hxf : (x != y) = false := by simpa using hxy
        have HN := hid (fun n : Nat => room_same (n := n) (b := b) (j := j) HR3.out (by rw [HT0.out, if_pos hxy, HX.out]))
        clear hxy
        go_wp2_with fail
        go_quiet (fail)
        go_wp2
        go_roundw
        case rel => exact ⟨j + 1, by omega, by go_num, below_drewN HLO3.out _, HN.out _⟩
        case measure => simp [intOf]; omega
      · have hxf : (x != y) = true := by simpa using hxy
        have HN := hid (fun n : Nat => room_put (n := n) (b := b) (j := j) HR3.out hlt (by rw [HT0.out, if_neg hxy]))
        clear hxy
        go_wp2_with fail
        go_quiet (fail)
        go_wp2
        go_roundw
        case rel => exact ⟨j + 1, by omega, by go_num, set_lo (below_drewN HLO3.out _) _ _ (Nat.le_refl _) _, HN.out _⟩
        case measure => simp [intOf]; omega
    · obtain rfl : j = a.length := by omega
      have hge : ¬ ((a.length : Int) < (a.length : Int)) := by omega
      have hcv : (convert 107 9 (.slice (some ⟨w.heap.size, 0, none⟩) a.length 200)).run Tryz.prog wr = .ok (.string (kt (slJoin a b))) wr := by
        have hll : ((slJoin a b).map kb).length = a.length := by rw [List.length_map, slJoin_length _ _ HL.out]
        have := run_convert_bytes_back (P := Tryz.prog) wr 107 9 5 ⟨w.heap.size, 0, none⟩ 200 ((slJoin a b).map kb) Tryz.underlying107 Tryz.underlying5 Tryz.underlying9 (fun k hk => by
          rw [hll] at hk
          have ea : (⟨w.heap.size, 0, none⟩ : Addr).add k = ⟨w.heap.size, k, none⟩ := by
            by_cases hk0 : k = 0
            · subst hk0; simp [Addr.add]
            · simp [Addr.add, hk0]
          rw [ea, HR3.out.cell (show k < 200 by omega)]
          unfold sk8
          rw [if_pos hk, if_pos hk]
          have hk2 : k < (slJoin a b).length := by rw [slJoin_length _ _ HL.out]; exact hk
          rw [List.getD_eq_getElem?_getD, List.getElem?_eq_getElem hk2]
          simp [kb_nat (slJoin_ok HA.out HL.out _ (List.getElem_mem hk2))])
        rw [hll] at this
        exact this
      by_cases he : kt (slJoin a b) = kt b
      · have hef : ((kt (slJoin a b)).toList == (kt b).toList) = true := str_eq2.2 he
        have HE := hid he
        clear he
        go_wp2_with fail
        go_ret
        exact ⟨by rw [HE.out]; rfl, HLO3.out⟩
      · have hef : ((kt (slJoin a b)).toList == (kt b).toList) = false := Bool.eq_false_iff.2 fun h => he (str_eq2.1 h)
        clear he
        go_wp2_with fail
        go_ret
        exact ⟨rfl, HLO3.out⟩
end Go.Proofs.YtfedmbadhcdpdaaGreatDoor.C
/-! Where two come together, in the program. -/
namespace Go.Proofs.YtfedmbadhcdpdaaGreatDoor.C
open Go.RowKit
set_option maxRecDepth 20000
def lbox (st : Int) (x y : ByteArray) : Obj := .cells #[.int .i64 st, .string x, .string y] 64
theorem six_l {W : World} {g : Nat} {st : Int} {x y : ByteArray} (e : W.heap[g]? = some (lbox st x y)) :
    W.cell? ⟨g, 0, none⟩ = some (.int .i64 st) ∧ W.cell? ⟨g, 1, none⟩ = some (.string x) ∧ W.cell? ⟨g, 2, none⟩ = some (.string y) ∧ W.frozen? ⟨g, 0, none⟩ = false ∧ W.frozen? ⟨g, 1, none⟩ = false ∧ W.frozen? ⟨g, 2, none⟩ = false := by
  refine ⟨?_, ?_, ?_, ?_, ?_, ?_⟩ <;> simp [World.cell?, World.frozen?, e, lbox]
theorem set1_l {W : World} {g : Nat} {st : Int} {x y : ByteArray} (e : W.heap[g]? = some (lbox st x y)) (v : ByteArray) : (W.setCell ⟨g, 1, none⟩ (.string v)).heap[g]? = some (lbox st v y) := by
  unfold World.setCell
  simp only [Array.getElem?_modify, e]
  simp [lbox]
def JdEnd (a b : Sh) (w : World) (e : Ending) (w' : World) : Prop := e = .returned (lv (join a b)) ∧ Below w.heap.size w w'
set_option maxHeartbeats 1000000 in
theorem jd_0 {a b : Sh} (h : a.st = 0) (w : World) : Calls Tryz.prog 85 #[lv a, lv b] w (JdEnd a b w) := by
  have HJ := hid (join_bot (b := b) h)
  unfold lv
  rw [h]
  clear h
  go_enter Tryz.func85, Tryz.ntmps85
  go_wp2
  refine bodyPost_ret (v := lv b) (by simp [results, Tryz.results85, go_sem, lv]) rfl ⟨by rw [HJ.out], al3 _ _ _ _⟩
set_option maxHeartbeats 1000000 in
theorem jd_2 {S : Nat} {a b : Sh} (_ha : OkSh S a) (h : a.st = 2) (w : World) : Calls Tryz.prog 85 #[lv a, lv b] w (JdEnd a b w) := by
  have HJ : Hid (join a b = top) := hid (by simp [join, h])
  unfold lv
  rw [h]
  clear h
  go_enter Tryz.func85, Tryz.ntmps85
  go_wp2
  refine bodyPost_ret (v := lv top) (by simp [results, Tryz.results85, go_sem, lv, top, kt_nil]) rfl ⟨by rw [HJ.out], al3 _ _ _ _⟩
set_option maxHeartbeats 1000000 in
theorem jd_12 {a b : Sh} (h : a.st = 1) (h2 : b.st = 2) (w : World) : Calls Tryz.prog 85 #[lv a, lv b] w (JdEnd a b w) := by
  have HJ : Hid (join a b = top) := hid (by simp [join, h, h2])
  unfold lv
  rw [h, h2]
  clear h h2
  go_enter Tryz.func85, Tryz.ntmps85
  go_wp2
  refine bodyPost_ret (v := lv top) (by simp [results, Tryz.results85, go_sem, lv, top, kt_nil]) rfl ⟨by rw [HJ.out], al3 _ _ _ _⟩
set_option maxHeartbeats 1000000 in
theorem jd_ne {a b : Sh} (h : a.st = 1) (h2 : b.st = 1) (hk : ¬ kt a.sk = kt b.sk) (w : World) : Calls Tryz.prog 85 #[lv a, lv b] w (JdEnd a b w) := by
  have HJ : Hid (join a b = top) := hid (join_apart h fun e => hk (by rw [e]))
  have hkf : ((kt a.sk).toList == (kt b.sk).toList) = false := Bool.eq_false_iff.2 fun h => hk (str_eq2.1 h)
  have hkn : ((kt a.sk).toList != (kt b.sk).toList) = true := by simp [bne, hkf]
  unfold lv
  rw [h, h2]
  clear h h2 hk
  go_enter Tryz.func85, Tryz.ntmps85
  go_wp2
  refine bodyPost_ret (v := lv top) (by simp [results, Tryz.results85, go_sem, lv, top, kt_nil]) rfl ⟨by rw [HJ.out], al3 _ _ _ _⟩
set_option maxHeartbeats 1000000 in
theorem jd_eq {a b : Sh} (h : a.st = 1) (h2 : b.st = 1) (hk : kt a.sk = kt b.sk) (hks : a.sk = b.sk) (hs : kt a.sl = kt b.sl) (hss : a.sl = b.sl) (w : World) : Calls Tryz.prog 85 #[lv a, lv b] w (JdEnd a b w) := by
  have HJ : Hid (join a b = a) := hid (by
    rw [join_both h h2 hks, ← hss, slJoin_self]
    cases a
    simp at h
    rw [h])
  have HA : Hid (lv a = .agg #[.int .i64 1, .string (kt a.sl), .string (kt a.sk)]) := hid (by unfold lv; rw [h]; rfl)
  unfold lv
  rw [h, h2, ← hk, ← hs]
  clear h h2 hk hks hs hss
  go_enter Tryz.func85, Tryz.ntmps85
  go_wp2
  refine bodyPost_ret (v := .agg #[.int .i64 1, .string (kt a.sl), .string (kt a.sk)]) (by simp [results, Tryz.results85, go_sem]) rfl ⟨by rw [HJ.out, HA.out], al3 _ _ _ _⟩
set_option maxHeartbeats 2000000 in
theorem jd_mix {a b : Sh} (h : a.st = 1) (h2 : b.st = 1) (hk : kt a.sk = kt b.sk) (hks : a.sk = b.sk) (hs : ¬ kt a.sl = kt b.sl) (ha : Ok10 a.sl) (hb : Ok10 b.sl) (hl : a.sl.length = b.sl.length) (h200 : a.sl.length ≤ 200) (w : World) : Calls Tryz.prog 85 #[lv a, lv b] w (JdEnd a b w) := by
  have HJ : Hid (lv (join a b) = .agg #[.int .i64 1, .string (kt (slJoin a.sl b.sl)), .string (kt a.sk)]) := hid (by rw [join_both h h2 hks]; rfl)
  have hkf : ((kt a.sl).toList == (kt b.sl).toList) = false := Bool.eq_false_iff.2 fun h => hs (str_eq2.1 h)
  have hkn : ((kt a.sl).toList != (kt b.sl).toList) = true := by simp [bne, hkf]
  have HC := hid (fun W => sameKinds_any ha hb hl h200 W)
  unfold lv
  rw [h, h2, ← hk]
  clear h h2 hk hks hs ha hb hl
  go_enter Tryz.func85, Tryz.ntmps85
  go_upto_region 1 with fail
  obtain ⟨t0, t1, t2⟩ := three w (lbox 1 (kt a.sl) (kt a.sk)) (lbox 1 (kt b.sl) (kt a.sk)) (lbox 0 ⟨#[]⟩ ⟨#[]⟩)
  have HLO := hid (al3 w (lbox 1 (kt a.sl) (kt a.sk)) (lbox 1 (kt b.sl) (kt a.sk)) (lbox 0 ⟨#[]⟩ ⟨#[]⟩))
  obtain ⟨W1, hW1⟩ : ∃ W, ((w.alloc (lbox 1 (kt a.sl) (kt a.sk))).alloc (lbox 1 (kt b.sl) (kt a.sk))).alloc (lbox 0 ⟨#[]⟩ ⟨#[]⟩) = W := ⟨_, rfl⟩
  rw [hW1] at t0 t1 t2 HLO
  unfold lbox at hW1
  rw [hW1]
  clear hW1
  have T0 := hid t0
  have T1 := hid t1
  have T2 := hid t2
  obtain ⟨u0, u1, u2, _, _, _⟩ := six_l t0
  obtain ⟨x0, x1, x2, _, _, _⟩ := six_l t1
  clear t0 t1 t2
  go_upto_region 7 with (go_at_call 103; refine (HC.out _).mono ?_; rintro e w2 ⟨rfl, hb2⟩; have T20 := hid (hp_next T0.out hb2); have T22 := hid (hp_next T2.out hb2); have HLO2 := hid (HLO.out.trans (hb2.mono HLO.out.size)); obtain ⟨z0, z1, z2, q0, q1, q2⟩ := six_l T20.out; clear hb2)
  have e20 := set1_l T20.out (kt (slJoin a.sl b.sl))
  have e22 : (w2.setCell ⟨w.heap.size, 1, none⟩ (.string (kt (slJoin a.sl b.sl)))).heap[w.heap.size + 1 + 1]? = some (lbox 0 ⟨#[]⟩ ⟨#[]⟩) := by rw [set_other _ _ _ _ _ (by omega)]; exact T22.out
  have HLO3 := hid (set_lo HLO2.out w.heap.size 1 (Nat.le_refl _) (.string (kt (slJoin a.sl b.sl))))
  obtain ⟨W3, hW3⟩ : ∃ W, w2.setCell ⟨w.heap.size, 1, none⟩ (.string (kt (slJoin a.sl b.sl))) = W := ⟨_, rfl⟩
  rw [hW3] at e20 e22 HLO3 ⊢
  clear hW3 u0 u1 u2 x0 x1 x2 z0 z1 z2 q0 q1 q2
  obtain ⟨u0, u1, u2, _, _, _⟩ := six_l e20
  obtain ⟨r0, r1, r2, q0, q1, q2⟩ := six_l e22
  clear e20 e22
  go_wp2
  refine bodyPost_ret (v := .agg #[.int .i64 1, .string (kt (slJoin a.sl b.sl)), .string (kt a.sk)]) (by simp [results, Tryz.results85, go_sem, r0, r1, r2]) rfl ⟨by rw [HJ.out], set_lo (set_lo (set_lo HLO3.out _ _ (by omega) _) _ _ (by omega) _) _ _ (by omega) _⟩
theorem joined_any {S : Nat} {a b : Sh} (ha : OkSh S a) (hb : OkSh S b) (h0 : ¬ b.st = 0) (hS : S ≤ 200) (w : World) : Calls Tryz.prog 85 #[lv a, lv b] w (JdEnd a b w) := by
  rcases ok_st ha with h | h | h
  · exact jd_0 h w
  · rcases ok_st hb with k | k | k
    · exact absurd k h0
    · have p := ok_known ha h
      have q := ok_known hb k
      by_cases hk : kt a.sk = kt b.sk
      · have hks := kt_inj (ok_sl ha).2 (ok_sl hb).2 hk
        by_cases hs : kt a.sl = kt b.sl
        · exact jd_eq h k hk hks hs (kt_inj (ok_sl ha).1 (ok_sl hb).1 hs) w
        · exact jd_mix h k hk hks hs (ok_sl ha).1 (ok_sl hb).1 (p.1.trans q.1.symm) (by omega) w
      · exact jd_ne h k hk w
    · exact jd_12 h k w
  · exact jd_2 ha h w
end Go.Proofs.YtfedmbadhcdpdaaGreatDoor.C
/-! The program's small functions on types. -/
namespace Go.Proofs.YtfedmbadhcdpdaaGreatDoor.C
open Go.RowKit
set_option maxRecDepth 20000
set_option maxHeartbeats 1000000 in
theorem kindFits_any (a k : Int) (w : World) : Calls Tryz.prog 126 #[.int .i64 a, .int .i64 k] w fun e w' => e = .returned (.bool (fitK a k)) ∧ w' = w := by
  by_cases h : a = k
  · subst h
    go_enter Tryz.func126, Tryz.ntmps126
    go_wp2_with fail
    go_ret
    exact ⟨ret_bool (by simp [fitK]), rfl⟩
  · have hf : (a == k) = false := by simpa using h
    by_cases h1 : a = -1
    · subst h1
      have HF : Hid (fitK (-1) k = isI k) := hid (by simp [fitK, h])
      clear h
      go_enter Tryz.func126, Tryz.ntmps126
      go_wp2_with (go_at_call 101; refine (Q.millIsInteger_int _ _).mono ?_; rintro e w' ⟨rfl, hw⟩; have hw2 := hw.symm; clear hw; subst hw2)
      go_ret
      exact ⟨ret_bool (by rw [HF.out]; rfl), rfl⟩
    · have hf1 : (a == -1) = false := by simpa using h1
      have HF : Hid (fitK a k = false) := hid (by simp [fitK, h, h1])
      clear h h1
      go_enter Tryz.func126, Tryz.ntmps126
      go_wp2_with fail
      go_ret
      exact ⟨ret_bool (by rw [HF.out]), rfl⟩
set_option maxHeartbeats 1000000 in
theorem unGives_any (op k : Int) (w : World) : Calls Tryz.prog 127 #[.int .i64 op, .int .i64 k] w fun e w' => e = .returned (.int .i64 (unG op k)) ∧ w' = w := by
  by_cases h : op = 2
  · subst h
    by_cases hk : k = 1
    · subst hk
      go_enter Tryz.func127, Tryz.ntmps127
      go_wp2_with fail
      go_ret
      exact ⟨rfl, rfl⟩
    · have hkf : (k == 1) = false := by simpa using hk
      have HV : Hid (unG 2 k = 0) := hid (by simp [unG, hk])
      clear hk
      go_enter Tryz.func127, Tryz.ntmps127
      go_wp2_with fail
      go_ret
      exact ⟨by rw [HV.out]; rfl, rfl⟩
  · have hf : (op == 2) = false := by simpa using h
    have hn : (op != 2) = true := by simpa using h
    cases hi : isI k with
    | true =>
      have HV : Hid (unG op k = k) := hid (by simp [unG, h, hi])
      have hi2 : (decide (3 ≤ k) && decide (k ≤ 10)) = true := hi
      clear h
      go_enter Tryz.func127, Tryz.ntmps127
      go_wp2_with (go_at_call 101; refine (Q.millIsInteger_int _ _).mono ?_; rw [hi2]; rintro e w' ⟨rfl, hw⟩; have hw2 := hw.symm; clear hw; subst hw2)
      go_ret
      exact ⟨by rw [HV.out]; rfl, rfl⟩
    | false =>
      have HV : Hid (unG op k = 0) := hid (by simp [unG, h, hi])
      have hi2 : (decide (3 ≤ k) && decide (k ≤ 10)) = false := hi
      clear h
      go_enter Tryz.func127, Tryz.ntmps127
      go_wp2_with (go_at_call 101; refine (Q.millIsInteger_int _ _).mono ?_; rw [hi2]; rintro e w' ⟨rfl, hw⟩; have hw2 := hw.symm; clear hw; subst hw2)
      go_ret
      exact ⟨by rw [HV.out]; rfl, rfl⟩
set_option maxHeartbeats 1000000 in
theorem kindText_any (k : Int) (h : 0 ≤ k ∧ k ≤ 10) (w : World) : Calls Tryz.prog 110 #[.int .i64 k] w fun e w' => e = .returned (.string (kt [k])) ∧ Below w.heap.size w w' := by
  have hw : IntKind.u8.wrap k = k := by rw [IntKind.wrap_u8]; omega
  have hcv : (convert 107 9 (.slice (some ⟨w.heap.size, 0, none⟩) 1 1)).run Tryz.prog (w.alloc (.cells #[.int .u8 k] 5)) = .ok (.string (kt [k])) (w.alloc (.cells #[.int .u8 k] 5)) := by
    have := run_convert_bytes_back (P := Tryz.prog) (w.alloc (.cells #[.int .u8 k] 5)) 107 9 5 ⟨w.heap.size, 0, none⟩ 1 [kb k] Tryz.underlying107 Tryz.underlying5 Tryz.underlying9 (fun j hj => by
      obtain rfl : j = 0 := by simpa using hj
      have ea : (⟨w.heap.size, 0, none⟩ : Addr).add 0 = ⟨w.heap.size, 0, none⟩ := by simp [Addr.add]
      rw [ea, cell_hp (heap_alloc_new w _) 0]
      simp [kb_nat h])
    exact this
  clear h
  go_enter Tryz.func110, Tryz.ntmps110
  go_wp2_with fail
  go_ret
  exact ⟨rfl, (Below.refl _ _).alloc (Nat.le_refl _) _⟩
set_option maxHeartbeats 2000000 in
theorem contains_any {v : Value} {l : List Int} {x : Int} {w : World} (h : IntRow w v l) (hl : l.length ≤ 1000) : Calls Tryz.prog 107 #[v, .int .i64 x] w fun e w' => e = .returned (.bool (decide (x ∈ l))) ∧ Below w.heap.size w w' := by
  have H := hid h
  obtain ⟨ad, c, rfl⟩ := h.sl
  clear h
  have HIX : Hid (Calls Tryz.prog 125 #[.slice ad l.length c, .int .i64 x] w fun e w' => ∃ r : Int, e = .returned (.int .i64 r) ∧ (0 ≤ r ↔ x ∈ l) ∧ Below w.heap.size w w') := hid (by
    go_enter Tryz.func125, Tryz.ntmps125
    go_wp2_with fail
    go_loop [8] (fun i => ∃ j : Nat, j ≤ l.length ∧ i = .int .i64 j ∧ ∀ p, p < j → ¬ l.getD p 0 = x) (fun i => l.length - (intOf i).toNat)
    case atStart => exact ⟨0, Nat.zero_le _, rfl, fun p hp => absurd hp (Nat.not_lt_zero _)⟩
    case round =>
      obtain ⟨j, hj, rfl, hall⟩ := hrel
      have HALL := hid hall
      clear hall
      by_cases hlt : j < l.length
      · have hlti : (j : Int) < (l.length : Int) := by omega
        obtain ⟨gA, cA2, e9, _, _, _, hcA⟩ := H.out.at hlt
        injection e9 with ea en ec
        clear en
        subst ea ec
        have kA := hcA j hlt
        obtain ⟨y, hy⟩ : ∃ y, l.getD j 0 = y := ⟨_, rfl⟩
        rw [hy] at kA
        have HY := hid hy
        clear hy hcA
        by_cases hxy : x = y
        · have hxf : (x == y) = true := by simpa using hxy
          have HIN : Hid (x ∈ l) := hid (by rw [hxy, ← HY.out, List.getD_eq_getElem?_getD, List.getElem?_eq_getElem hlt]; exact List.getElem_mem hlt)
          clear hxy
          go_wp2_with fail
          go_ret
          exact ⟨_, rfl, ⟨fun _ => HIN.out, fun _ => by omega⟩, Below.refl _ _⟩
        · have hxf : (x == y) = false := by simpa using hxy
          have HNE := hid hxy
          clear hxy
          go_wp2_with fail
          go_round
          case rel =>
            refine ⟨j + 1, by omega, by go_num, fun p hp => ?_⟩
            by_cases e : p = j
            · subst e; rw [HY.out]; exact fun h => HNE.out h.symm
            · exact HALL.out p (by omega)
          case measure => simp [intOf]; omega
      · obtain rfl : j = l.length := by omega
        have hge : ¬ ((l.length : Int) < (l.length : Int)) := by omega
        go_wp2_with fail
        go_ret
        refine ⟨_, rfl, ⟨fun h => by omega, fun h => ?_⟩, Below.refl _ _⟩
        obtain ⟨p, hp, e⟩ := List.getElem_of_mem h
        exact absurd (by rw [List.getD_eq_getElem?_getD, List.getElem?_eq_getElem hp]; exact e) (HALL.out p hp))
  go_enter Tryz.func107, Tryz.ntmps107
  go_wp2_with (go_at_call 125; refine HIX.out.mono ?_; rintro e w1 ⟨r, rfl, hr, hb1⟩; have HR := hid hr; have HB := hid hb1; clear hr hb1)
  go_ret
  exact ⟨ret_bool (by rw [Bool.eq_iff_iff, decide_eq_true_iff, decide_eq_true_iff]; exact HR.out), HB.out⟩
end Go.Proofs.YtfedmbadhcdpdaaGreatDoor.C
/-! The type of an op of two, and the types of a text, in the program. -/
namespace Go.Proofs.YtfedmbadhcdpdaaGreatDoor.C
open Go.RowKit
set_option maxRecDepth 20000
theorem bin_no {op a b : Int} (h : ¬ a = b) : binG op a b = 0 := by simp [binG, h]
theorem bin_34 {op a b : Int} (h : op = 3 ∨ op = 4) : binG op a b = if (decide (¬ a = 0) && decide (a = b)) = true then 1 else 0 := by
  by_cases hab : a = b
  · subst hab
    by_cases h0 : a = 0 <;> simp [binG, h, h0]
  · rw [bin_no hab]; simp [hab]
theorem bin_58 {op a b : Int} (ha : 0 ≤ a ∧ a ≤ 10) (h : 5 ≤ op ∧ op ≤ 8) : binG op a b = if ((isI a || decide (a = 2)) && decide (a = b)) = true then 1 else 0 := by
  have h34 : ¬ (op = 3 ∨ op = 4) := by omega
  by_cases hab : a = b
  · subst hab
    obtain rfl | rfl | rfl | rfl | rfl | rfl | rfl | rfl | rfl | rfl | rfl : a = 0 ∨ a = 1 ∨ a = 2 ∨ a = 3 ∨ a = 4 ∨ a = 5 ∨ a = 6 ∨ a = 7 ∨ a = 8 ∨ a = 9 ∨ a = 10 := by omega
    all_goals simp [binG, isI, h34, h]
  · rw [bin_no hab]; simp [hab]
theorem bin_9 {a b : Int} (ha : 0 ≤ a ∧ a ≤ 10) : binG 9 a b = if ((isI a || decide (a = 2)) && decide (a = b)) = true then a else 0 := by
  by_cases hab : a = b
  · subst hab
    obtain rfl | rfl | rfl | rfl | rfl | rfl | rfl | rfl | rfl | rfl | rfl : a = 0 ∨ a = 1 ∨ a = 2 ∨ a = 3 ∨ a = 4 ∨ a = 5 ∨ a = 6 ∨ a = 7 ∨ a = 8 ∨ a = 9 ∨ a = 10 := by omega
    all_goals simp [binG, isI]
  · rw [bin_no hab]; simp [hab]
theorem bin_r {op a b : Int} (ha : 0 ≤ a ∧ a ≤ 10) (h : 10 ≤ op) : binG op a b = if (isI a && decide (a = b)) = true then a else 0 := by
  have h34 : ¬ (op = 3 ∨ op = 4) := by omega
  have h58 : ¬ (5 ≤ op ∧ op ≤ 8) := by omega
  have h9 : ¬ op = 9 := by omega
  by_cases hab : a = b
  · subst hab
    obtain rfl | rfl | rfl | rfl | rfl | rfl | rfl | rfl | rfl | rfl | rfl : a = 0 ∨ a = 1 ∨ a = 2 ∨ a = 3 ∨ a = 4 ∨ a = 5 ∨ a = 6 ∨ a = 7 ∨ a = 8 ∨ a = 9 ∨ a = 10 := by omega
    all_goals simp [binG, isI, h34, h58, h9]
  · rw [bin_no hab]; simp [hab]
set_option maxHeartbeats 4000000 in
theorem binGives_any (op a b : Int) (ha : 0 ≤ a ∧ a ≤ 10) (hop : 3 ≤ op ∧ op ≤ 18) (w : World) : Calls Tryz.prog 128 #[.int .i64 op, .int .i64 a, .int .i64 b] w fun e w' => e = .returned (.int .i64 (binG op a b)) ∧ w' = w := by
  have HA := hid ha
  have HI := hid (Q.millIsInteger_int a)
  have hia : isI a = (decide (3 ≤ a) && decide (a ≤ 10)) := rfl
  have H34 := hid (fun h => bin_34 (op := op) (a := a) (b := b) h)
  have H58 := hid (fun h => bin_58 (op := op) (b := b) ha h)
  have H9 := hid (bin_9 (b := b) ha)
  have HRR := hid (fun h => bin_r (op := op) (b := b) ha h)
  obtain ⟨I, hI⟩ : ∃ I, isI a = I := ⟨_, rfl⟩
  rw [← hia, hI] at HI
  rw [hI] at H58 H9 HRR
  have e1 : (op == 1) = false := by simp; omega
  have e2 : (op == 2) = false := by simp; omega
  have habt : (a != b) = !decide (a = b) := by by_cases h : a = b <;> simp [h]
  have h20 : (a == 2) = decide (a = 2) := rfl
  have h00 : (a != 0) = decide (¬ a = 0) := by by_cases h : a = 0 <;> simp [h]
  obtain ⟨T, hT⟩ : ∃ T, decide (a = 2) = T := ⟨_, rfl⟩
  obtain ⟨Z, hZ⟩ : ∃ Z, decide (¬ a = 0) = Z := ⟨_, rfl⟩
  obtain ⟨B, hB⟩ : ∃ B, decide (a = b) = B := ⟨_, rfl⟩
  rw [hT] at h20 H58 H9
  rw [hZ] at h00 H34
  rw [hB] at habt H34 H58 H9 HRR
  clear hia hI hT hZ hB ha
  by_cases h34 : op = 3 ∨ op = 4
  · have HV := hid (H34.out h34)
    clear hop H34 H58 H9 HRR
    cases Z <;> cases B <;> cases I <;> rcases h34 with rfl | rfl
    all_goals go_enter Tryz.func128, Tryz.ntmps128
    all_goals go_wp2_with (go_at_call 101; refine (HI.out _).mono ?_; rintro e w' ⟨rfl, hw⟩; have hw2 := hw.symm; clear hw; subst hw2)
    all_goals go_ret
    all_goals exact ⟨by rw [HV.out]; rfl, rfl⟩
  · have e3 : (op == 3) = false := by simp; omega
    have e4 : (op == 4) = false := by simp; omega
    by_cases h58 : 5 ≤ op ∧ op ≤ 8
    · have HV := hid (H58.out h58)
      clear h34 H34 H58 H9 HRR
      obtain rfl | rfl | rfl | rfl : op = 5 ∨ op = 6 ∨ op = 7 ∨ op = 8 := by omega
      all_goals cases T <;> cases B <;> cases I
      all_goals go_enter Tryz.func128, Tryz.ntmps128
      all_goals go_wp2_with (go_at_call 101; refine (HI.out _).mono ?_; rintro e w' ⟨rfl, hw⟩; have hw2 := hw.symm; clear hw; subst hw2)
      all_goals go_ret
      all_goals exact ⟨by rw [HV.out]; rfl, rfl⟩
    · have e5 : (op == 5) = false := by simp; omega
      have e6 : (op == 6) = false := by simp; omega
      have e7 : (op == 7) = false := by simp; omega
      have e8 : (op == 8) = false := by simp; omega
      by_cases h9 : op = 9
      · subst h9
        have HV := H9
        clear h34 h58 H34 H58 HRR
        cases T <;> cases B <;> cases I
        all_goals go_enter Tryz.func128, Tryz.ntmps128
        all_goals go_wp2_with (go_at_call 101; refine (HI.out _).mono ?_; rintro e w' ⟨rfl, hw⟩; have hw2 := hw.symm; clear hw; subst hw2)
        all_goals go_ret
        all_goals exact ⟨by rw [HV.out]; rfl, rfl⟩
      · have e9 : (op == 9) = false := by simp; omega
        have HV := hid (HRR.out (by omega))
        clear h34 h58 h9 hop H34 H58 H9 HRR
        cases B <;> cases I
        all_goals go_enter Tryz.func128, Tryz.ntmps128
        all_goals go_wp2_with (go_at_call 101; refine (HI.out _).mono ?_; rintro e w' ⟨rfl, hw⟩; have hw2 := hw.symm; clear hw; subst hw2)
        all_goals go_ret
        all_goals exact ⟨by rw [HV.out]; rfl, rfl⟩
end Go.Proofs.YtfedmbadhcdpdaaGreatDoor.C
/-! The types of a text, in the program. -/
namespace Go.Proofs.YtfedmbadhcdpdaaGreatDoor.C
open Go.RowKit
set_option maxRecDepth 20000
def kRow (l : List Int) (i j : Nat) : Value := .int .i64 (if j < i then l.getD j 0 else 0)
structure KI (l : List Int) (w : World) (b j : Nat) (W : World) : Prop where
  lo : Below w.heap.size w W
  it : W.heap[b]? = some (.stringIter (kt l) j)
  gt : w.heap.size < b
  row : W.rowIs w.heap.size 3 l.length (kRow l j)
theorem made1 (x : Value) (n i : Nat) (h : i < n) : (madeCells #[x] n).toList[i]? = some x := by
  unfold madeCells
  simp [h, Nat.mod_one]
/-- A further type is written. -/
theorem KI.more {l : List Int} {w : World} {b j : Nat} {W : World} (h : KI l w b j W) (_hj : j < l.length) : KI l w b (j + 1) ((W.iterAt b (kt l) (j + 1)).setCell ⟨w.heap.size, j, none⟩ (.int .i64 (l.getD j 0))) := by
  have hgt := h.gt
  have h1 := Lib.iterAt_heap W b (kt l) j (j + 1) h.it
  have hr : (W.iterAt b (kt l) (j + 1)).rowIs w.heap.size 3 l.length (kRow l j) := h.row.of_block (by simp only [World.iterAt]; rw [Array.getElem?_setIfInBounds_ne (by omega)])
  refine ⟨set_lo (Lib.below_iterAt h.lo (by omega) (kt l) (j + 1)) _ _ (Nat.le_refl _) _, by rw [set_other _ _ _ _ _ (by omega)]; exact h1, hgt, (hr.set j _).congr fun q hq => ?_⟩
  unfold kRow
  by_cases e : q = j
  · subst e; rw [if_pos rfl, if_pos (by omega)]
  · rw [if_neg e]
    by_cases h9 : q < j
    · rw [if_pos h9, if_pos (by omega)]
    · rw [if_neg h9, if_neg (by omega)]
theorem KI.fin {l : List Int} {w : World} {b : Nat} {W : World} (h : KI l w b l.length W) (h600 : l.length ≤ 600) : IntRow W (.slice (some ⟨w.heap.size, 0, none⟩) l.length l.length) l := by
  obtain ⟨cur, e, hz, hc⟩ := h.row
  refine ⟨_, _, rfl, Nat.le_refl _, by unfold maxLen; omega, .inr ⟨_, cur, rfl, e, fun i hi => ?_⟩⟩
  rw [hc i hi]
  unfold kRow
  rw [if_pos hi]
set_option maxHeartbeats 4000000 in
theorem kindsOf_any {l : List Int} (hl : Ok10 l) (h600 : l.length ≤ 600) (w : World) : Calls Tryz.prog 27 #[.string (kt l)] w fun e w' => ∃ v, e = .returned v ∧ IntRow w' v l ∧ Below w.heap.size w w' := by
  have HL := hid hl
  have hsz := kt_size l
  obtain ⟨i0, hi, hz0, hz1, hz2⟩ := int_parts
  have HHI := hid (And.intro hi (And.intro hz0 (And.intro hz1 hz2)))
  have hb8 : i0.bytes = 8 := hz2
  clear hi hz0 hz1 hz2 hl
  go_enter Tryz.func27, Tryz.ntmps27
  go_upto_region 2 with (at_make; refine wpList_make_full _ rfl _ _ 41 rfl w.heap.size 3 i0 (.int .i64 0) 1 Tryz.underlying41 HHI.out.1 HHI.out.2.1 HHI.out.2.2.1 _ _ _ _ l.length rfl rfl (by first | rfl | (rw [hsz])) (by first | rfl | (rw [hsz])) (by rw [hb8]; omega) (by unfold maxLen; omega) (Nat.le_refl _) ?_; intro W1 o1 g1)
  have hrow : W1.rowIs w.heap.size 3 l.length (kRow l 0) := by
    obtain ⟨_, ⟨h2, _⟩ | ⟨k, c, cur, e, _, h4, _, _, h7, h8⟩⟩ := o1
    · cases h2
    · injection e with e1 _ e3
      injection e1 with e1
      injection e1 with e1
      subst e1 e3
      rw [Nat.mul_one] at h7 h8
      refine ⟨cur, h4, h7, fun i hi => ?_⟩
      have e2 : (cur.toList.take l.length)[i]? = (madeCells (Value.int .i64 0).cells l.length).toList[i]? := by rw [h8]
      rw [List.getElem?_take_of_lt hi] at e2
      rw [← Array.getElem?_toList, e2]
      have e5 : (Value.int .i64 0).cells = #[Value.int .i64 0] := rfl
      rw [e5, made1 _ _ _ hi]
      unfold kRow
      rw [if_neg (Nat.not_lt_zero _)]
  have HLO1 := hid ((Below.refl w.heap.size w).grown g1 (Nat.le_refl _) (fun q e => by cases e))
  have HK0 : Hid (KI l w W1.heap.size 0 (W1.iter (kt l) 0)) := hid ⟨HLO1.out.trans (((Below.refl W1.heap.size W1).alloc (Nat.le_refl _) _).mono HLO1.out.size), World.iter_heap _ _ _, hrow.lt, hrow.alloc _⟩
  clear o1 g1 hrow
  obtain ⟨b, hb⟩ : ∃ b, W1.heap.size = b := ⟨_, rfl⟩
  go_wp2_with fail
  rw [hb] at HK0
  obtain ⟨W2, hW2⟩ : ∃ W, W1.iter (kt l) 0 = W := ⟨_, rfl⟩
  rw [hW2] at HK0 ⊢
  clear hW2 hb
  go_loopw [4] (fun _ wr => ∃ j : Nat, j ≤ l.length ∧ KI l w b j wr) (fun _ wr => l.length - wr.iterPos b)
  case atStart => exact ⟨0, Nat.zero_le _, HK0.out⟩
  case round =>
    obtain ⟨j, hj, hk⟩ := hrel
    have HK := hid hk
    clear hk HK0
    by_cases hlt : j < l.length
    · have hlt2 : j < (kt l).size := by omega
      have hyv := kt_get HL.out hlt2
      have HR10 := hid (getD_range0 HL.out j)
      have h128 : ((kt l)[j]'hlt2).toNat < 128 := by have := HR10.out; omega
      have hnext : ∀ ty, (Instr.next (.pointer (some ⟨b, 0, none⟩)) true ty).run Tryz.prog wr = _ := fun ty => Lib.run_next_ascii_at wr b (kt l) j ty HK.out.it hlt2 h128
      have HMU : Hid (wr.iterPos b = j) := hid (by simp [World.iterPos, HK.out.it])
      have HM := hid (HK.out.more hlt)
      have HM2 := hid HM.out.it
      have hlti : (j : Int) < (l.length : Int) := by omega
      have hlt3 : (j : Int) < ((kt l).size : Int) := by omega
      have HRW : Hid ((wr.iterAt b (kt l) (j + 1)).rowIs w.heap.size 3 l.length (kRow l j)) := hid (HK.out.row.of_block (by have := HK.out.gt; simp only [World.iterAt]; rw [Array.getElem?_setIfInBounds_ne (by omega)]))
      have kA := HRW.out.cell hlt
      have kF := HRW.out.frozen j
      obtain ⟨y, hy⟩ : ∃ y, l.getD j 0 = y := ⟨_, rfl⟩
      rw [hy] at hyv HM
      unfold kRow at kA
      rw [if_neg (Nat.lt_irrefl j)] at kA
      have hwy : IntKind.i64.wrap y = y := by have := HR10.out; rw [hy] at this; rw [IntKind.wrap_i64]; omega
      generalize hW3 : wr.iterAt b (kt l) (j + 1) = W3 at hnext kA kF HM
      clear hy h128 hW3 HRW
      go_wp2_with fail
      go_roundw
      case rel => exact ⟨j + 1, by omega, HM.out⟩
      case measure =>
        have e2 : (W3.setCell ⟨w.heap.size, j, none⟩ (.int .i64 y)).iterPos b = j + 1 := by simp [World.iterPos, HM.out.it]
        rw [HMU.out, e2]
        omega
    · obtain rfl : j = l.length := by omega
      have hnext : ∀ ty, (Instr.next (.pointer (some ⟨b, 0, none⟩)) true ty).run Tryz.prog wr = _ := fun ty => Lib.run_next_end_at wr b (kt l) l.length ty HK.out.it (by omega)
      go_wp2_with fail
      go_ret
      exact ⟨_, rfl, HK.out.fin h600, HK.out.lo⟩
end Go.Proofs.YtfedmbadhcdpdaaGreatDoor.C
/-! The types of a text, in the program: a row of one's own. Printed by gen_is.py. -/
namespace Go.Proofs.YtfedmbadhcdpdaaGreatDoor.C
open Go.RowKit
set_option maxRecDepth 20000
/-- A row of numbers that fills its block. -/
def IntB (W : World) (g : Nat) (l : List Int) : Prop := ∃ cur : Array Value, W.heap[g]? = some (.cells cur 3 (0, 0)) ∧ cur.size = l.length ∧ ∀ i, i < l.length → cur[i]? = some (.int .i64 (l.getD i 0))
theorem IntB.next {W V : World} {g : Nat} {l : List Int} (h : IntB W g l) (hb : Below W.heap.size W V) : IntB V g l := by
  obtain ⟨cur, e, h1⟩ := h
  exact ⟨cur, hp_next e hb, h1⟩
theorem IntB.lt {W : World} {g : Nat} {l : List Int} (h : IntB W g l) : g < W.heap.size := by
  obtain ⟨cur, e, _⟩ := h
  exact lt_hp e
theorem KI.finB {l : List Int} {w : World} {b : Nat} {W : World} (h : KI l w b l.length W) : IntB W w.heap.size l := by
  obtain ⟨cur, e, hz, hc⟩ := h.row
  refine ⟨cur, e, hz, fun i hi => ?_⟩
  rw [hc i hi]
  unfold kRow
  rw [if_pos hi]
set_option maxHeartbeats 4000000 in
theorem kindsOf_own {l : List Int} (hl : Ok10 l) (h600 : l.length ≤ 600) (w : World) : Calls Tryz.prog 27 #[.string (kt l)] w fun e w' => ∃ g, e = .returned (.slice (some ⟨g, 0, none⟩) l.length l.length) ∧ w.heap.size ≤ g ∧ IntB w' g l ∧ Below w.heap.size w w' := by
  have HL := hid hl
  have hsz := kt_size l
  obtain ⟨i0, hi, hz0, hz1, hz2⟩ := int_parts
  have HHI := hid (And.intro hi (And.intro hz0 (And.intro hz1 hz2)))
  have hb8 : i0.bytes = 8 := hz2
  clear hi hz0 hz1 hz2 hl
  go_enter Tryz.func27, Tryz.ntmps27
  go_upto_region 2 with (at_make; refine wpList_make_full _ rfl _ _ 41 rfl w.heap.size 3 i0 (.int .i64 0) 1 Tryz.underlying41 HHI.out.1 HHI.out.2.1 HHI.out.2.2.1 _ _ _ _ l.length rfl rfl (by first | rfl | (rw [hsz])) (by first | rfl | (rw [hsz])) (by rw [hb8]; omega) (by unfold maxLen; omega) (Nat.le_refl _) ?_; intro W1 o1 g1)
  have hrow : W1.rowIs w.heap.size 3 l.length (kRow l 0) := by
    obtain ⟨_, ⟨h2, _⟩ | ⟨k, c, cur, e, _, h4, _, _, h7, h8⟩⟩ := o1
    · cases h2
    · injection e with e1 _ e3
      injection e1 with e1
      injection e1 with e1
      subst e1 e3
      rw [Nat.mul_one] at h7 h8
      refine ⟨cur, h4, h7, fun i hi => ?_⟩
      have e2 : (cur.toList.take l.length)[i]? = (madeCells (Value.int .i64 0).cells l.length).toList[i]? := by rw [h8]
      rw [List.getElem?_take_of_lt hi] at e2
      rw [← Array.getElem?_toList, e2]
      have e5 : (Value.int .i64 0).cells = #[Value.int .i64 0] := rfl
      rw [e5, made1 _ _ _ hi]
      unfold kRow
      rw [if_neg (Nat.not_lt_zero _)]
  have HLO1 := hid ((Below.refl w.heap.size w).grown g1 (Nat.le_refl _) (fun q e => by cases e))
  have HK0 : Hid (KI l w W1.heap.size 0 (W1.iter (kt l) 0)) := hid ⟨HLO1.out.trans (((Below.refl W1.heap.size W1).alloc (Nat.le_refl _) _).mono HLO1.out.size), World.iter_heap _ _ _, hrow.lt, hrow.alloc _⟩
  clear o1 g1 hrow
  obtain ⟨b, hb⟩ : ∃ b, W1.heap.size = b := ⟨_, rfl⟩
  go_wp2_with fail
  rw [hb] at HK0
  obtain ⟨W2, hW2⟩ : ∃ W, W1.iter (kt l) 0 = W := ⟨_, rfl⟩
  rw [hW2] at HK0 ⊢
  clear hW2 hb
  go_loopw [4] (fun _ wr => ∃ j : Nat, j ≤ l.length ∧ KI l w b j wr) (fun _ wr => l.length - wr.iterPos b)
  case atStart => exact ⟨0, Nat.zero_le _, HK0.out⟩
  case round =>
    obtain ⟨j, hj, hk⟩ := hrel
    have HK := hid hk
    clear hk HK0
    by_cases hlt : j < l.length
    · have hlt2 : j < (kt l).size := by omega
      have hyv := kt_get HL.out hlt2
      have HR10 := hid (getD_range0 HL.out j)
      have h128 : ((kt l)[j]'hlt2).toNat < 128 := by have := HR10.out; omega
      have hnext : ∀ ty, (Instr.next (.pointer (some ⟨b, 0, none⟩)) true ty).run Tryz.prog wr = _ := fun ty => Lib.run_next_ascii_at wr b (kt l) j ty HK.out.it hlt2 h128
      have HMU : Hid (wr.iterPos b = j) := hid (by simp [World.iterPos, HK.out.it])
      have HM := hid (HK.out.more hlt)
      have HM2 := hid HM.out.it
      have hlti : (j : Int) < (l.length : Int) := by omega
      have hlt3 : (j : Int) < ((kt l).size : Int) := by omega
      have HRW : Hid ((wr.iterAt b (kt l) (j + 1)).rowIs w.heap.size 3 l.length (kRow l j)) := hid (HK.out.row.of_block (by have := HK.out.gt; simp only [World.iterAt]; rw [Array.getElem?_setIfInBounds_ne (by omega)]))
      have kA := HRW.out.cell hlt
      have kF := HRW.out.frozen j
      obtain ⟨y, hy⟩ : ∃ y, l.getD j 0 = y := ⟨_, rfl⟩
      rw [hy] at hyv HM
      unfold kRow at kA
      rw [if_neg (Nat.lt_irrefl j)] at kA
      have hwy : IntKind.i64.wrap y = y := by have := HR10.out; rw [hy] at this; rw [IntKind.wrap_i64]; omega
      generalize hW3 : wr.iterAt b (kt l) (j + 1) = W3 at hnext kA kF HM
      clear hy h128 hW3 HRW
      go_wp2_with fail
      go_roundw
      case rel => exact ⟨j + 1, by omega, HM.out⟩
      case measure =>
        have e2 : (W3.setCell ⟨w.heap.size, j, none⟩ (.int .i64 y)).iterPos b = j + 1 := by simp [World.iterPos, HM.out.it]
        rw [HMU.out, e2]
        omega
    · obtain rfl : j = l.length := by omega
      have hnext : ∀ ty, (Instr.next (.pointer (some ⟨b, 0, none⟩)) true ty).run Tryz.prog wr = _ := fun ty => Lib.run_next_end_at wr b (kt l) l.length ty HK.out.it (by omega)
      go_wp2_with fail
      go_ret
      exact ⟨_, rfl, Nat.le_refl _, HK.out.finB, HK.out.lo⟩
end Go.Proofs.YtfedmbadhcdpdaaGreatDoor.C
