import Derived.Test.YtfedmbadhcdpdaaGreatDoorCards
import Derived.Test.YtfedmbadhcdpdaaGreatDoorTie
import Derived.ProofKit
import Derived.Deep.Slices
import Derived.OpenShut
import Derived.Shelf.Vars
import Derived.Deep.DeepHandedRow
import Derived.OpenVars
import Derived.LaidHandle
import Derived.Stop.LaidErr
import Derived.Lib.LaidTab
import Derived.Test.YtfedmbadhcdpdaaGreatDoorJ19
import Derived.Test.YtfedmbadhcdpdaaGreatDoorJ25
import Derived.Test.YtfedmbadhcdpdaaGreatDoorJ15
import Derived.Test.YtfedmbadhcdpdaaGreatDoorJ39
import Derived.Test.YtfedmbadhcdpdaaGreatDoorJ44
/-! Sameness. -/
namespace Go.Proofs.YtfedmbadhcdpdaaGreatDoor.R
open Go.RowKit
set_option maxRecDepth 20000
set_option maxHeartbeats 4000000 in
theorem eqFn_same (x : C.Fn) {u0 v0 u1 v1 : Value} {B : Nat} (w : World) (hx : LoFn x) (k0 : SIntR B w u0 x.params) (l0 : SIntR B w v0 x.params) (k1 : SInR B w u1 x.ins) (l1 : SInR B w v1 x.ins) :
    Calls Tryz.prog 46 #[.agg #[.string x.name, u0, .int .i64 x.result, .int .i64 x.slots, u1], .agg #[.string x.name, v0, .int .i64 x.result, .int .i64 x.slots, v1]] w fun e w' => e = .returned (.bool true) ∧ Below w.heap.size w w' := by
  have e0 : (x.name.toList != x.name.toList) = false := by simp
  have i0 : (x.result != x.result) = false := by simp
  have i1 : (x.slots != x.slots) = false := by simp
  have K0 := hid (And.intro k0 l0)
  obtain ⟨gu0, rfl⟩ := k0.sl
  obtain ⟨gv0, rfl⟩ := l0.sl
  clear k0 l0
  have K1 := hid (And.intro k1 l1)
  obtain ⟨gu1, rfl⟩ := k1.sl
  obtain ⟨gv1, rfl⟩ := l1.sl
  clear k1 l1
  have HLO := hid hx
  clear hx
  have HB0 := hid (B2.start w (.cells #[.string x.name, .slice (some ⟨gu0, 0, none⟩) x.params.length x.params.length, .int .i64 x.result, .int .i64 x.slots, .slice (some ⟨gu1, 0, none⟩) x.ins.length x.ins.length] 47) (.cells #[.string x.name, .slice (some ⟨gv0, 0, none⟩) x.params.length x.params.length, .int .i64 x.result, .int .i64 x.slots, .slice (some ⟨gv1, 0, none⟩) x.ins.length x.ins.length] 47))
  go_enter Tryz.func46, Tryz.ntmps46
  go_wp2_with fail
  refine (eqSInt_same x.params _ HLO.out.1 (K0.out.1.next HB0.out.lo) (K0.out.2.next HB0.out.lo)).mono ?_
  rintro e w1 ⟨rfl, hb0⟩
  have HB1 := hid (HB0.out.next hb0)
  clear hb0
  have p1_2 : w1.cell? ⟨w.heap.size, 2, none⟩ = some (.int .i64 x.result) := row_cell HB1.out.e 2
  have q1_2 : w1.cell? ⟨w.heap.size + 1, 2, none⟩ = some (.int .i64 x.result) := row_cell HB1.out.f 2
  have p1_3 : w1.cell? ⟨w.heap.size, 3, none⟩ = some (.int .i64 x.slots) := row_cell HB1.out.e 3
  have q1_3 : w1.cell? ⟨w.heap.size + 1, 3, none⟩ = some (.int .i64 x.slots) := row_cell HB1.out.f 3
  have p1_4 : w1.cell? ⟨w.heap.size, 4, none⟩ = some (.slice (some ⟨gu1, 0, none⟩) x.ins.length x.ins.length) := row_cell HB1.out.e 4
  have q1_4 : w1.cell? ⟨w.heap.size + 1, 4, none⟩ = some (.slice (some ⟨gv1, 0, none⟩) x.ins.length x.ins.length) := row_cell HB1.out.f 4
  go_wp2_with fail
  refine (eqSIn_same x.ins _ HLO.out.2 (K1.out.1.next HB1.out.lo) (K1.out.2.next HB1.out.lo)).mono ?_
  rintro e w2 ⟨rfl, hb1⟩
  have HB2 := hid (HB1.out.next hb1)
  clear hb1
  go_wp2
  go_ret
  exact ⟨rfl, HB2.out.lo⟩
set_option maxHeartbeats 4000000 in
theorem eqSFn_same (l : List C.Fn) {u v : Value} {B : Nat} (w : World) (hx : LoFnS l) (k0 : SFnR B w u l) (l0 : SFnR B w v l) :
    Calls Tryz.prog 23 #[u, v] w fun e w' => e = .returned (.bool true) ∧ Below w.heap.size w w' := by
  have H1 := hid k0
  have H2 := hid l0
  have HX := hid hx
  have hN : l.length ≤ 1048576 := hx.1
  obtain ⟨gu, rfl⟩ := k0.sl
  obtain ⟨gv, rfl⟩ := l0.sl
  clear k0 l0 hx
  have hne : ((l.length : Int) != (l.length : Int)) = false := by simp
  go_enter Tryz.func23, Tryz.ntmps23
  go_wp2
  go_loopw [5] (fun i wr => ∃ j : Nat, j ≤ l.length ∧ i = .int .i64 j ∧ Below w.heap.size w wr) (fun i _ => l.length - (intOf i).toNat)
  case atStart => exact ⟨0, Nat.zero_le _, rfl, Below.refl _ _⟩
  case round =>
    obtain ⟨j, hj, rfl, hbw⟩ := hrel
    have HBW := hid hbw
    clear hbw
    by_cases hlt : j < l.length
    · obtain ⟨g, e9, _, hgu, u0, u1, a0, a1, a2, a3, a4, r0, r1⟩ := (H1.out.next HBW.out).at hlt
      injection e9 with ea en ec
      injection ea with eb
      injection eb with ec2
      subst ec2
      obtain ⟨g2, e8, _, hgv, v0, v1, b0, b1, b2, b3, b4, q0, q1⟩ := (H2.out.next HBW.out).at hlt
      injection e8 with ea2 en2 ec3
      injection ea2 with eb2
      injection eb2 with ec4
      subst ec4
      clear en ec en2 ec3
      have HLO := hid (HX.out.2 j hlt)
      obtain ⟨x, hx⟩ : ∃ x, l.getD j C.fn0 = x := ⟨_, rfl⟩
      rw [hx] at HLO a0 b0 a2 b2 a3 b3 r0 q0 r1 q1
      clear hx
      have HT0 := hid (And.intro (r0.mono (B' := 0) (Nat.zero_le _)) (q0.mono (B' := 0) (Nat.zero_le _)))
      obtain ⟨gr0, rfl⟩ := r0.sl
      obtain ⟨gq0, rfl⟩ := q0.sl
      clear r0 q0
      have HT1 := hid (And.intro (r1.mono (B' := 0) (Nat.zero_le _)) (q1.mono (B' := 0) (Nat.zero_le _)))
      obtain ⟨gr1, rfl⟩ := r1.sl
      obtain ⟨gq1, rfl⟩ := q1.sl
      clear r1 q1
      have A0 := fun p : Gr wr => (p.h.cell (p := ⟨_, _, none⟩) hgu).trans a0
      have C0 := fun p : Gr wr => (p.h.cell (p := ⟨_, _, none⟩) hgv).trans b0
      have A1 := fun p : Gr wr => (p.h.cell (p := ⟨_, _, none⟩) hgu).trans a1
      have C1 := fun p : Gr wr => (p.h.cell (p := ⟨_, _, none⟩) hgv).trans b1
      have A2 := fun p : Gr wr => (p.h.cell (p := ⟨_, _, none⟩) hgu).trans a2
      have C2 := fun p : Gr wr => (p.h.cell (p := ⟨_, _, none⟩) hgv).trans b2
      have A3 := fun p : Gr wr => (p.h.cell (p := ⟨_, _, none⟩) hgu).trans a3
      have C3 := fun p : Gr wr => (p.h.cell (p := ⟨_, _, none⟩) hgv).trans b3
      have A4 := fun p : Gr wr => (p.h.cell (p := ⟨_, _, none⟩) hgu).trans a4
      have C4 := fun p : Gr wr => (p.h.cell (p := ⟨_, _, none⟩) hgv).trans b4
      clear a0 b0 a1 b1 a2 b2 a3 b3 a4 b4
      go_wp2_with fail
      have hne2 : Nonempty (Gr wr) := ⟨⟨wr, Below.refl _ _⟩⟩
      refine wp_region_gr (by kernel_rfl) (by kernel_rfl) ?_
      repeat (go_big_quiet_step (first | (go_at_call 46; refine Calls.gr_of (v := .bool true) fun hpw => ?_; exact eqFn_same x _ HLO.out (HT0.out.1.next hpw) (HT0.out.2.next hpw) (HT1.out.1.next hpw) (HT1.out.2.next hpw))))
      refine wpQuiet_nil ?_
      intro _ hw'
      obtain ⟨pw, rfl⟩ := hw'
      have HB4 := hid (HBW.out.trans (pw.h.mono HBW.out.size))
      clear A0 C0 A1 C1 A2 C2 A3 C3 A4 C4
      go_wp2
      go_roundw
      case rel => exact ⟨j + 1, by omega, by go_num, HB4.out⟩
      case measure => simp [intOf]; omega
    · obtain rfl : j = l.length := by omega
      go_wp2
      go_ret
      exact ⟨rfl, HBW.out⟩
end Go.Proofs.YtfedmbadhcdpdaaGreatDoor.R
/-! Sizes. -/
namespace Go.Proofs.YtfedmbadhcdpdaaGreatDoor.R
open Go.RowKit
set_option maxRecDepth 20000
set_option maxHeartbeats 2000000 in
theorem szFn_any (x : C.Fn) {v0 v1 : Value} (l : Int) (w : World) (hl : 0 ≤ l) (hl2 : l ≤ 1048576) (hx : OkFn x) (k0 : SIntA w v0 x.params) (k1 : SInA w v1 x.ins) :
    Calls Tryz.prog 32 #[.agg #[.string x.name, v0, .int .i64 x.result, .int .i64 x.slots, v1], .int .i64 l] w (SzEnd l (wFn x) w) := by
  have HX := hid hx
  obtain ⟨hx0, hx1, hx2, hx3, hx4⟩ := hx
  have HB0 := hid (B1.start w (.cells #[.string x.name, v0, .int .i64 x.result, .int .i64 x.slots, v1] 72))
  have K0 := hid (k0.next HB0.out.lo)
  have K1 := hid (k1.next HB0.out.lo)
  obtain ⟨ad0, cp0, rfl⟩ := k0.sl
  obtain ⟨ad1, cp1, rfl⟩ := k1.sl
  clear k0 k1
  have hs_name := small hx0
  by_cases c0 : l - (x.name.size : Int) < 0
  · go_enter Tryz.func32, Tryz.ntmps32
    go_wp2
    go_ret
    exact ⟨⟨_, rfl, by omega, by omega, fun h => by omega⟩, HB0.out.lo⟩
  · go_enter Tryz.func32, Tryz.ntmps32
    go_wp2_with fail
    refine (szInt_any ad0 x.params.length cp0 _ _ (by omega) (by omega) hx1).mono ?_
    rintro e w1 ⟨⟨r0, rfl, p0, q0, h0⟩, hb0⟩
    have HP0 := hid h0
    have HN0 := hid hb0
    have HB1 := hid (HB0.out.next hb0)
    clear h0 hb0
    have b0_4 : w1.cell? ⟨w.heap.size, 4, none⟩ = some (.slice ad1 x.ins.length cp1) := row_cell HB1.out.e 4
    by_cases c1 : r0 < 0
    · go_wp2
      go_ret
      exact ⟨⟨_, rfl, by omega, by omega, fun h => by omega⟩, HB1.out.lo⟩
    · go_wp2_with fail
      refine (szSIn_any x.ins _ _ (by omega) (by omega) hx4 (K1.out.next HN0.out)).mono ?_
      rintro e w2 ⟨⟨r1, rfl, p1, q1, h1⟩, hb1⟩
      have HP1 := hid h1
      have HN1 := hid (HN0.out.trans (hb1.mono HN0.out.size))
      have HB2 := hid (HB1.out.next hb1)
      clear h1 hb1
      by_cases c4 : r1 < 0
      · go_wp2
        go_ret
        exact ⟨⟨_, rfl, by omega, by omega, fun h => by omega⟩, HB2.out.lo⟩
      · go_wp2
        go_ret
        refine ⟨⟨_, rfl, by omega, by omega, fun h => ?_⟩, HB2.out.lo⟩
        have eHP0 := HP0.out (by omega)
        have eHP1 := HP1.out (by omega)
        simp only [wFn]
        omega
set_option maxHeartbeats 2000000 in
theorem szSFn_any (l : List C.Fn) {v : Value} (m : Int) (w : World) (hl : 0 ≤ m) (hl2 : m ≤ 1048576) (hx : OkFnS l) (k0 : SFnA w v l) :
    Calls Tryz.prog 16 #[v, .int .i64 m] w (SzEnd m (wSFn l l.length) w) := by
  have HX := hid hx.2
  have hN := small hx.1
  have HK := hid k0
  obtain ⟨ad, cap, rfl⟩ := k0.sl
  clear hx k0
  by_cases h1 : m - (l.length : Int) < 0
  · go_enter Tryz.func16, Tryz.ntmps16
    go_wp2
    go_ret
    exact ⟨⟨_, rfl, by omega, by omega, fun h => by omega⟩, Below.refl _ _⟩
  · go_enter Tryz.func16, Tryz.ntmps16
    go_wp2
    go_loopw [1, 5] (fun q i wr => ∃ (j : Nat) (r : Int), j ≤ l.length ∧ i = .int .i64 j ∧ q = .int .i64 r ∧ 0 ≤ r ∧ r ≤ m ∧ (Hid (r + (l.length : Int) + (wSFn l j : Int) = m + (j : Int))) ∧ Below w.heap.size w wr) (fun _ i _ => l.length - (intOf i).toNat)
    case atStart => exact ⟨0, _, Nat.zero_le _, rfl, rfl, by omega, by omega, (by show _ = _; simp [wSFn]), Below.refl _ _⟩
    case round =>
      obtain ⟨j, r, hj, rfl, rfl, hr0, hr1, HS, hbw⟩ := hrel
      have HBW := hid hbw
      clear hbw
      by_cases hlt : j < l.length
      · obtain ⟨a, c, e9, hal, v0, v1, ⟨c0, c1, c2, c3, c4⟩, t0, t1⟩ := (HK.out.next HBW.out).at hlt
        injection e9 with ea en ec
        clear en
        subst ea ec
        obtain ⟨x, hx⟩ : ∃ x, l.getD j C.fn0 = x := ⟨_, rfl⟩
        have HXE := hid hx
        have HOK := hid (HX.out j hlt)
        rw [hx] at HOK c0 c2 c3 t0 t1
        clear hx
        have HT0 := hid t0
        obtain ⟨ae0, ce0, rfl⟩ := t0.sl
        clear t0
        have HT1 := hid t1
        obtain ⟨ae1, ce1, rfl⟩ := t1.sl
        clear t1
        go_wp2_with fail
        refine (szFn_any x _ _ (by omega) (by omega) HOK.out HT0.out HT1.out).mono ?_
        rintro e w1 ⟨⟨r2, rfl, hr3, hr4, hr5⟩, hb1⟩
        have HB1 := hid (HBW.out.trans (hb1.mono HBW.out.size))
        have HR5 := hid hr5
        clear hb1 hr5 c0 c1 c2 c3 c4
        by_cases hs : r2 < 0
        · go_wp2
          go_ret
          exact ⟨⟨-1, rfl, by omega, by omega, fun h => by omega⟩, HB1.out⟩
        · have HS2 : Hid (r2 + (l.length : Int) + (wSFn l (j + 1) : Int) = m + ((j + 1 : Nat) : Int)) := by
            show _ = _
            have := HS.out
            have := HR5.out (by omega)
            simp only [wSFn, HXE.out]
            omega
          go_wp2
          go_roundw
          case rel => exact ⟨j + 1, r2, by omega, by go_num, rfl, by omega, by omega, HS2, HB1.out⟩
          case measure => simp [intOf]; omega
      · obtain rfl : j = l.length := by omega
        go_wp2
        go_ret
        exact ⟨⟨r, rfl, by omega, hr1, fun _ => by have := HS.out; omega⟩, HBW.out⟩
end Go.Proofs.YtfedmbadhcdpdaaGreatDoor.R
/-! Sameness. -/
namespace Go.Proofs.YtfedmbadhcdpdaaGreatDoor.R
open Go.RowKit
set_option maxRecDepth 20000
set_option maxHeartbeats 4000000 in
theorem eqCd_same (x : Cd) {u0 v0 : Value} {B : Nat} (w : World) (hx : LoCd x) (k0 : SFnR B w u0 x.fns) (l0 : SFnR B w v0 x.fns) :
    Calls Tryz.prog 9 #[.agg #[u0], .agg #[v0]] w fun e w' => e = .returned (.bool true) ∧ Below w.heap.size w w' := by
  have K0 := hid (And.intro k0 l0)
  obtain ⟨gu0, rfl⟩ := k0.sl
  obtain ⟨gv0, rfl⟩ := l0.sl
  clear k0 l0
  have HLO := hid hx
  clear hx
  have HB0 := hid (B2.start w (.cells #[.slice (some ⟨gu0, 0, none⟩) x.fns.length x.fns.length] 30) (.cells #[.slice (some ⟨gv0, 0, none⟩) x.fns.length x.fns.length] 30))
  go_enter Tryz.func9, Tryz.ntmps9
  go_wp2_with fail
  refine (eqSFn_same x.fns _ HLO.out (K0.out.1.next HB0.out.lo) (K0.out.2.next HB0.out.lo)).mono ?_
  rintro e w1 ⟨rfl, hb0⟩
  have HB1 := hid (HB0.out.next hb0)
  clear hb0
  go_wp2
  go_ret
  exact ⟨rfl, HB1.out.lo⟩
end Go.Proofs.YtfedmbadhcdpdaaGreatDoor.R
/-! Sizes. -/
namespace Go.Proofs.YtfedmbadhcdpdaaGreatDoor.R
open Go.RowKit
set_option maxRecDepth 20000
set_option maxHeartbeats 2000000 in
theorem szCd_any (x : Cd) {v0 : Value} (l : Int) (w : World) (hl : 0 ≤ l) (hl2 : l ≤ 1048576) (hx : OkCd x) (k0 : SFnA w v0 x.fns) :
    Calls Tryz.prog 5 #[.agg #[v0], .int .i64 l] w (SzEnd l (wCd x) w) := by
  have HX := hid hx
  have hx0 := hx
  have HB0 := hid (B1.start w (.cells #[v0] 24))
  have K0 := hid (k0.next HB0.out.lo)
  obtain ⟨ad0, cp0, rfl⟩ := k0.sl
  clear k0
  clear hx
  go_enter Tryz.func5, Tryz.ntmps5
  go_wp2_with fail
  refine (szSFn_any x.fns _ _ (by omega) (by omega) hx0 (K0.out)).mono ?_
  rintro e w1 ⟨⟨r0, rfl, p0, q0, h0⟩, hb0⟩
  have HP0 := hid h0
  have HN0 := hid hb0
  have HB1 := hid (HB0.out.next hb0)
  clear h0 hb0
  by_cases c0 : r0 < 0
  · go_wp2
    go_ret
    exact ⟨⟨_, rfl, by omega, by omega, fun h => by omega⟩, HB1.out.lo⟩
  · go_wp2
    go_ret
    refine ⟨⟨_, rfl, by omega, by omega, fun h => ?_⟩, HB1.out.lo⟩
    have eHP0 := HP0.out (by omega)
    simp only [wCd]
    omega
end Go.Proofs.YtfedmbadhcdpdaaGreatDoor.R
/-! Codes that were copied, as the walks know them. -/
namespace Go.Proofs.YtfedmbadhcdpdaaGreatDoor.C
open Go.RowKit
set_option maxRecDepth 20000
theorem len_max {n : Nat} (h : n ≤ 1048576) : n ≤ maxLen := by unfold maxLen; omega
theorem intRow_of {B : Nat} {W : World} {v : Value} {l : List Int} (h : R.SIntR B W v l) (hl : l.length ≤ 1048576) : IntRow W v l := by
  obtain ⟨g, e, _, cur, h1, _, h3⟩ := h
  exact ⟨_, _, e, Nat.le_refl _, len_max hl, .inr ⟨g, cur, rfl, h1, h3⟩⟩
theorem insRow_of {B : Nat} {W : World} {v : Value} {l : List In} (h : R.SInR B W v l) (hl : R.LoInS l) : InsRow W v l := by
  obtain ⟨g, e, _, cur, h1, _, h3⟩ := h
  exact ⟨_, _, e, Nat.le_refl _, len_max hl.1, .inr ⟨g, cur, rfl, h1, h3⟩⟩
theorem fnsRow_of {B : Nat} {W : World} {v : Value} {l : List Fn} (h : R.SFnR B W v l) (hl : R.LoFnS l) : FnsRow W v l := by
  obtain ⟨g, e, _, cur, h1, _, h3⟩ := h
  refine ⟨_, _, e, Nat.le_refl _, len_max hl.1, .inr ⟨g, rfl, R.lt_hp h1, fun i hi => ?_⟩⟩
  obtain ⟨v0, v1, d0, d1, d2, d3, d4, r0, r1⟩ := h3 i hi
  have h2 := hl.2 i hi
  exact ⟨v0, v1, (R.row_cell h1 _).trans d0, (R.row_cell h1 _).trans d1, (R.row_cell h1 _).trans d2, (R.row_cell h1 _).trans d3, (R.row_cell h1 _).trans d4, intRow_of r0 h2.1, insRow_of r1 h2.2⟩
theorem codeS_of {l : List Fn} (h : R.OkFnS l) : CodeS l :=
  ⟨fun j hj => (h.2 j hj).1, fun j hj p hp => by
    obtain ⟨_, _, _, _, h5⟩ := h.2 j hj
    exact (h5.2 p hp).2.2.1⟩
end Go.Proofs.YtfedmbadhcdpdaaGreatDoor.C
/-! The tables that the card lists. -/
namespace Go.Proofs.YtfedmbadhcdpdaaGreatDoor.C
open Go.ChangeShapes Go.WideShapes Go.ChangeAt Go.RowKit Go.Deep
set_option maxRecDepth 20000
theorem lits_inj {H : Type} {k : IntKind} : ∀ {l l' : List Int}, (lits k l : List (DataW H)) = lits k l' → l = l'
  | [], [], _ => rfl
  | [], _ :: _, h => by simp [lits] at h
  | _ :: _, [], h => by simp [lits] at h
  | x :: l, y :: l', h => by
    simp only [lits, List.map_cons, List.cons.injEq, DataW.lit.injEq, Lit.int.injEq, true_and] at h
    rw [h.1, lits_inj (k := k) (H := H) h.2]
def rowD {H : Type} (z : Option (List Int)) : DataW H := match z with | none => .nil | some l => .slice (lits .i64 l) []
/-- A row of numbers that the card lists. -/
theorem row_of {H : Type} {enc : TypeId × Value → H} {P : Program} {w : World} {base : Nat} {held : Bool} {fuel : Nat} {t ei : TypeId} {cl : List Value} {z : Option (List Int)} {p : DataW H × List MemPlace}
    (hsl : P.underlying t = some (.slice ei)) (hei : P.underlying ei = some (.int .i64)) (hcei : P.cellsOf ei = 1) (h : DataW.trod enc P w base (fun _ => true) held fuel t cl = some p) (hz : p.1 = rowD z) : ∃ v, cl = [v] ∧ PartA w v (z.getD []) := by
  rcases open_ints hsl hei hcei h with ⟨e2, h2⟩ | ⟨a, len, cap, ns, e2, _, hlc, _, hlen, h2, hcell, _⟩
  · rw [h2] at hz
    cases z with
    | none => exact ⟨_, e2, none, 0, rfl, .inl rfl⟩
    | some l => cases hz
  · rw [h2] at hz
    cases z with
    | none => cases hz
    | some l =>
      simp only [rowD, DataW.slice.injEq] at hz
      have h3 := lits_inj hz.1
      have h4 : ns.drop len = [] := by
        have := hz.2
        simpa [lits] using this
      simp only [if_true] at hlen
      have h5 : ns.length ≤ len := by simpa using h4
      have h6 : ns.take len = ns := List.take_of_length_le h5
      rw [h6] at h3
      subst h3
      obtain rfl : cap = ns.length := by omega
      obtain rfl : len = ns.length := by omega
      refine ⟨_, e2, some a, ns.length, rfl, ?_⟩
      by_cases h0 : ns = []
      · exact .inl h0
      · have hp : 0 < ns.length := List.length_pos_iff.2 h0
        refine .inr ⟨a, rfl, ?_, hcell⟩
        have h7 := hcell 0 hp
        unfold World.cell? at h7
        rcases Nat.lt_or_ge (a.add 0).block w.heap.size with hl | hl
        · rwa [add_block] at hl
        · rw [Array.getElem?_eq_none hl] at h7; cases h7
theorem cellsI : Tryz.prog.cellsOf 3 = 1 := by kernel_rfl
theorem cellsSg : Tryz.prog.cellsOf 41 = 1 := by kernel_rfl
theorem gSG : Tryz.prog.globalNamed "loop.example/kilnyard/impl.millBuiltSigns" = some 2 := by kernel_rfl
theorem gSGType : (Tryz.prog.globals[2]?).map (·.type) = some 188 := by kernel_rfl
theorem cellsSG : Tryz.prog.cellsOf 187 = 2 := by kernel_rfl
theorem gIR : Tryz.prog.globalNamed "loop.example/kilnyard/impl.millInsRows" = some 1 := by kernel_rfl
theorem gIRType : (Tryz.prog.globals[1]?).map (·.type) = some 166 := by kernel_rfl
theorem cellsIR : Tryz.prog.cellsOf 165 = 3 := by kernel_rfl
def sgD {H : Type} (z : Option (List Int) × Int) : DataW H := .agg [rowD z.1, .lit (.int .i64 z.2)]
def irD {H : Type} (z : Int × Option (List Int) × Int) : DataW H := .agg [.lit (.int .i64 z.1), rowD z.2.1, .lit (.int .i64 z.2.2)]
def signs : List (Option (List Int) × Int) := [(none, 0), (some [2], 2), (some [2], 1), (some [2], 2), (some [2, 2], 2), (none, 2), (some [2], 10), (some [2, 10], 3), (some [2, 10, 10], 2), (some [2, 2], 10), (some [3], 2), (some [-1], 2), (some [2], 10)]
def irows : List (Int × Option (List Int) × Int) := [(0, none, 0), (1, none, 1), (2, none, 2), (2, some [-2], 0), (0, some [-2], 0), (3, some [-2], 3), (4, some [-2, -2], 4), (5, some [-1], 1), (6, none, 5), (7, none, 6), (8, none, 0), (8, some [1], 0), (9, none, 0), (0, some [2], 0), (0, some [2, 2], 0), (0, some [2], 0), (0, none, 0)]
theorem var_cells {W : World} {n : String} {g : Nat} {cs : Array Value} (hg : Tryz.prog.globalNamed n = some g) (h : W.var? Tryz.prog n = some cs) : g < W.heap.size ∧ ∀ i, W.cell? ⟨g, i, none⟩ = cs[i]? := by
  unfold World.var? at h
  rw [hg] at h
  simp only [Option.bind_some] at h
  split at h
  · rename_i cs' t fr hh
    cases h
    refine ⟨(Array.getElem?_eq_some_iff.1 hh).1, fun i => ?_⟩
    unfold World.cell?
    rw [hh]; rfl
  · cases h
theorem sign_of {W : World} {r : List (String × DataW Unit)} (h : laidMet Tryz.prog (("loop.example/kilnyard/impl.millBuiltSigns", Rows.laid_loop_example_kilnyard_impl_millBuiltSigns) :: r) W) :
    2 < W.heap.size ∧ ∀ (i : Nat) (z : Option (List Int) × Int), signs[i]? = some z → ∃ v, W.cell? ⟨2, i * 2, none⟩ = some v ∧ W.cell? ⟨2, i * 2 + 1, none⟩ = some (.int .i64 z.2) ∧ PartA W v (z.1.getD []) := by
  obtain ⟨ps, ⟨g', t', cs, fuel, p, q, hg', ht', hvar, hd, _, _⟩, _⟩ := h
  obtain rfl := Option.some.inj (gSG.symm.trans hg')
  obtain rfl := Option.some.inj (gSGType.symm.trans ht')
  obtain ⟨hlt, hcell⟩ := var_cells gSG hvar
  refine ⟨hlt, fun i z hz => ?_⟩
  obtain ⟨xs, m, _, hx, _, hl, hel⟩ := DataW.trod_array Tryz.underlying188 hd
  have hxs : xs.map (·.1) = signs.map sgD := by
    have h9 := congrArg Prod.fst hx
    have h8 : Rows.laid_loop_example_kilnyard_impl_millBuiltSigns (H := Unit) = .agg (signs.map sgD) := rfl
    rw [h8] at h9
    simpa using h9.symm
  have hi : i < 13 := (List.getElem?_eq_some_iff.1 hz).1
  have e1 := hel i hi
  rw [cellsSG] at e1
  obtain ⟨b, hb⟩ : ∃ b, xs[i]? = some b := ⟨xs[i]'(by omega), List.getElem?_eq_getElem (by omega)⟩
  rw [hb] at e1
  have hb1 : b.1 = sgD z := by
    have := congrArg (·[i]?) hxs
    simpa [hb, hz] using this
  obtain ⟨ys, m2, _, hbx, _, hyl, hyf⟩ := DataW.trod_struct Tryz.underlying187 e1
  match ys, hyl with
  | [y0, y1], _ =>
    have g0 := hyf 0 _ rfl
    have g1 := hyf 1 _ rfl
    simp only [List.getElem?_cons_zero] at g0
    simp only [List.getElem?_cons_succ, List.getElem?_cons_zero] at g1
    obtain ⟨v, hv, hyv, _⟩ := DataW.trod_int Tryz.underlying3 g1
    rw [hbx] at hb1
    simp only [sgD, List.map_cons, List.map_nil, DataW.agg.injEq, List.cons.injEq, and_true] at hb1
    obtain ⟨v0, hv0, hp⟩ := row_of Tryz.underlying41 Tryz.underlying3 cellsI g0 hb1.1
    have hv2 : v = z.2 := by
      have := hb1.2
      rw [hyv] at this
      simpa using this
    subst hv2
    refine ⟨v0, ?_, ?_, hp⟩
    · rw [hcell]
      have := congrArg (·[0]?) hv0
      simpa [List.getElem?_take, List.getElem?_drop, cellsI, cellsSg] using this
    · rw [hcell]
      have := congrArg (·[0]?) hv
      simpa [List.getElem?_take, List.getElem?_drop, cellsI, cellsSg] using this
theorem irow_of {W : World} {r : List (String × DataW Unit)} (h : laidMet Tryz.prog (("loop.example/kilnyard/impl.millInsRows", Rows.laid_loop_example_kilnyard_impl_millInsRows) :: r) W) :
    1 < W.heap.size ∧ ∀ (i : Nat) (z : Int × Option (List Int) × Int), irows[i]? = some z → ∃ v, W.cell? ⟨1, i * 3, none⟩ = some (.int .i64 z.1) ∧ W.cell? ⟨1, i * 3 + 1, none⟩ = some v ∧ W.cell? ⟨1, i * 3 + 2, none⟩ = some (.int .i64 z.2.2) ∧ PartA W v (z.2.1.getD []) := by
  obtain ⟨ps, ⟨g', t', cs, fuel, p, q, hg', ht', hvar, hd, _, _⟩, _⟩ := h
  obtain rfl := Option.some.inj (gIR.symm.trans hg')
  obtain rfl := Option.some.inj (gIRType.symm.trans ht')
  obtain ⟨hlt, hcell⟩ := var_cells gIR hvar
  refine ⟨hlt, fun i z hz => ?_⟩
  obtain ⟨xs, m, _, hx, _, hl, hel⟩ := DataW.trod_array Tryz.underlying166 hd
  have hxs : xs.map (·.1) = irows.map irD := by
    have h9 := congrArg Prod.fst hx
    have h8 : Rows.laid_loop_example_kilnyard_impl_millInsRows (H := Unit) = .agg (irows.map irD) := rfl
    rw [h8] at h9
    simpa using h9.symm
  have hi : i < 17 := (List.getElem?_eq_some_iff.1 hz).1
  have e1 := hel i hi
  rw [cellsIR] at e1
  obtain ⟨b, hb⟩ : ∃ b, xs[i]? = some b := ⟨xs[i]'(by omega), List.getElem?_eq_getElem (by omega)⟩
  rw [hb] at e1
  have hb1 : b.1 = irD z := by
    have := congrArg (·[i]?) hxs
    simpa [hb, hz] using this
  obtain ⟨ys, m2, _, hbx, _, hyl, hyf⟩ := DataW.trod_struct Tryz.underlying165 e1
  match ys, hyl with
  | [y0, y1, y2], _ =>
    have g0 := hyf 0 _ rfl
    have g1 := hyf 1 _ rfl
    have g2 := hyf 2 _ rfl
    simp only [List.getElem?_cons_zero] at g0
    simp only [List.getElem?_cons_succ, List.getElem?_cons_zero] at g1
    simp only [List.getElem?_cons_succ, List.getElem?_cons_zero] at g2
    obtain ⟨u, hu, hyu, _⟩ := DataW.trod_int Tryz.underlying3 g0
    obtain ⟨v, hv, hyv, _⟩ := DataW.trod_int Tryz.underlying3 g2
    rw [hbx] at hb1
    simp only [irD, List.map_cons, List.map_nil, DataW.agg.injEq, List.cons.injEq, and_true] at hb1
    obtain ⟨v0, hv0, hp⟩ := row_of Tryz.underlying41 Tryz.underlying3 cellsI g1 hb1.2.1
    have hu2 : u = z.1 := by
      have := hb1.1
      rw [hyu] at this
      simpa using this
    have hv2 : v = z.2.2 := by
      have := hb1.2.2
      rw [hyv] at this
      simpa using this
    subst hu2 hv2
    refine ⟨v0, ?_, ?_, ?_, hp⟩
    · rw [hcell]
      have := congrArg (·[0]?) hu
      simpa [List.getElem?_take, List.getElem?_drop, cellsI, cellsSg] using this
    · rw [hcell]
      have := congrArg (·[0]?) hv0
      simpa [List.getElem?_take, List.getElem?_drop, cellsI, cellsSg] using this
    · rw [hcell]
      have := congrArg (·[0]?) hv
      simpa [List.getElem?_take, List.getElem?_drop, cellsI, cellsSg] using this
theorem envI_of {W : World} {r r' : List (String × DataW Unit)} (h : laidMet Tryz.prog (("loop.example/kilnyard/impl.millBuiltSigns", Rows.laid_loop_example_kilnyard_impl_millBuiltSigns) :: r) W) (h' : laidMet Tryz.prog (("loop.example/kilnyard/impl.millInsRows", Rows.laid_loop_example_kilnyard_impl_millInsRows) :: r') W) : EnvI W := by
  obtain ⟨l2, s2⟩ := sign_of h
  obtain ⟨l1, s1⟩ := irow_of h'
  refine ⟨l1, l2, fun o h1 h2 => ?_, fun k h1 h2 => ?_⟩
  · obtain rfl | rfl | rfl | rfl | rfl | rfl | rfl | rfl | rfl | rfl | rfl | rfl | rfl | rfl | rfl | rfl : o = 1 ∨ o = 2 ∨ o = 3 ∨ o = 4 ∨ o = 5 ∨ o = 6 ∨ o = 7 ∨ o = 8 ∨ o = 9 ∨ o = 10 ∨ o = 11 ∨ o = 12 ∨ o = 13 ∨ o = 14 ∨ o = 15 ∨ o = 16 := by omega
    · exact s1 1 _ rfl
    · exact s1 2 _ rfl
    · exact s1 3 _ rfl
    · exact s1 4 _ rfl
    · exact s1 5 _ rfl
    · exact s1 6 _ rfl
    · exact s1 7 _ rfl
    · exact s1 8 _ rfl
    · exact s1 9 _ rfl
    · exact s1 10 _ rfl
    · exact s1 11 _ rfl
    · exact s1 12 _ rfl
    · exact s1 13 _ rfl
    · exact s1 14 _ rfl
    · exact s1 15 _ rfl
    · exact s1 16 _ rfl
  · obtain rfl | rfl | rfl | rfl | rfl | rfl | rfl | rfl | rfl | rfl | rfl | rfl : k = 1 ∨ k = 2 ∨ k = 3 ∨ k = 4 ∨ k = 5 ∨ k = 6 ∨ k = 7 ∨ k = 8 ∨ k = 9 ∨ k = 10 ∨ k = 11 ∨ k = 12 := by omega
    · exact s2 1 _ rfl
    · exact s2 2 _ rfl
    · exact s2 3 _ rfl
    · exact s2 4 _ rfl
    · exact s2 5 _ rfl
    · exact s2 6 _ rfl
    · exact s2 7 _ rfl
    · exact s2 8 _ rfl
    · exact s2 9 _ rfl
    · exact s2 10 _ rfl
    · exact s2 11 _ rfl
    · exact s2 12 _ rfl
end Go.Proofs.YtfedmbadhcdpdaaGreatDoor.C
/-! Marks in a code: only its own blocks are written. -/
namespace Go.Proofs.YtfedmbadhcdpdaaGreatDoor.C
open Go.RowKit
set_option maxRecDepth 20000
/-- All below B stays, and all from T on. -/
structure BT (B T : Nat) (w W : World) : Prop where
  lo : Below B w W
  hi : ∀ i, T ≤ i → i < w.heap.size → W.heap[i]? = w.heap[i]?
theorem BT.refl (B T : Nat) (w : World) : BT B T w w := ⟨Below.refl _ _, fun _ _ _ => rfl⟩
theorem BT.next {B T : Nat} {w W V : World} (h : BT B T w W) (hB : B ≤ W.heap.size) (hb : Below W.heap.size W V) : BT B T w V :=
  ⟨h.lo.trans (hb.mono hB), fun i hi hl => (hb.block i (Nat.lt_of_lt_of_le hl h.lo.size)).trans (h.hi i hi hl)⟩
theorem BT.grown {B T : Nat} {w W V : World} {g : Nat} (h : BT B T w W) (hB : B ≤ W.heap.size) (hg : W.grownBy V (some g)) (h1 : B ≤ g) (h2 : g < T) : BT B T w V :=
  ⟨h.lo.grown hg hB fun q e => by injection e with e; omega, fun i hi hl => (hg.block i (Nat.lt_of_lt_of_le hl h.lo.size) (fun e => by injection e with e; omega)).trans (h.hi i hi hl)⟩
theorem BT.set {B T : Nat} {w W : World} {g i : Nat} {v : Value} (h : BT B T w W) (hB : B ≤ W.heap.size) (h1 : B ≤ g) (h2 : g < T) : BT B T w (W.setCell ⟨g, i, none⟩ v) :=
  h.grown hB (grown_setM ⟨rfl, rfl, rfl, Nat.le_refl _, fun _ _ _ => rfl⟩ i v) h1 h2
def IB (W : World) (g n : Nat) : Prop := ∃ cur : Array Value, W.heap[g]? = some (.cells cur 3 (0, 0)) ∧ cur.size = n
theorem IB.keep {W V : World} {g n : Nat} (h : IB W g n) (hb : V.heap[g]? = W.heap[g]?) : IB V g n := by
  obtain ⟨cur, e, h1⟩ := h
  exact ⟨cur, hb.trans e, h1⟩
theorem IB.lt {W : World} {g n : Nat} (h : IB W g n) : g < W.heap.size := by
  obtain ⟨cur, e, _⟩ := h
  exact lt_hp e
theorem IB.same {W : World} {g n m : Nat} (h : IB W g n) (h2 : IB W g m) : n = m := by
  obtain ⟨cur, e, h1⟩ := h
  obtain ⟨cur2, e2, h3⟩ := h2
  rw [e] at e2
  injection e2 with e2
  injection e2 with e2 _ _
  rw [← h1, ← h3, e2]
theorem NB.same {W : World} {g n m : Nat} (h : NB W g n) (h2 : NB W g m) : n = m := by
  obtain ⟨cur, e, h1⟩ := h
  obtain ⟨cur2, e2, h3⟩ := h2
  rw [e] at e2
  injection e2 with e2
  injection e2 with e2 _ _
  rw [e2] at h1
  omega
theorem NB.int {W : World} {g n m : Nat} (h : NB W g n) (h2 : IB W g m) : False := by
  obtain ⟨cur, e, h1⟩ := h
  obtain ⟨cur2, e2, h3⟩ := h2
  rw [e] at e2
  cases e2
/-- A code's row in block g, what its functions hold above it and below T. -/
def CB (g T : Nat) (l : List Fn) (W : World) : Prop := ∃ cur : Array Value, W.heap[g]? = some (.cells cur 47 (0, 0)) ∧ cur.size = l.length * 5 ∧ ∀ i, i < l.length → ∃ g0 g1, cur[i * 5 + 1]? = some (.slice (some ⟨g0, 0, none⟩) (l.getD i fn0).params.length (l.getD i fn0).params.length) ∧ cur[i * 5 + 4]? = some (.slice (some ⟨g1, 0, none⟩) (l.getD i fn0).ins.length (l.getD i fn0).ins.length) ∧ (g < g0 ∧ g0 < T ∧ IB W g0 (l.getD i fn0).params.length) ∧ (g < g1 ∧ g1 < T ∧ NB W g1 (l.getD i fn0).ins.length)
theorem CB.of {B : Nat} {W : World} {v : Value} {l : List Fn} (h : R.SFnR B W v l) : ∃ g, v = .slice (some ⟨g, 0, none⟩) l.length l.length ∧ B ≤ g ∧ g < W.heap.size ∧ CB g W.heap.size l W := by
  obtain ⟨g, e, hB, cur, h1, h2, h3⟩ := h
  refine ⟨g, e, hB, R.lt_hp h1, cur, h1, h2, fun i hi => ?_⟩
  obtain ⟨v0, v1, d0, d1, d2, d3, d4, r0, r1⟩ := h3 i hi
  obtain ⟨g0, rfl, hg0, cu0, a1, a2, a3⟩ := r0
  obtain ⟨g1, rfl, hg1, cu1, b1, b2, b3⟩ := r1
  exact ⟨g0, g1, d1, d4, ⟨hg0, R.lt_hp a1, cu0, a1, by omega⟩, ⟨hg1, R.lt_hp b1, cu1, b1, b2⟩⟩
theorem CB.keep {g T : Nat} {l : List Fn} {W V : World} (h : CB g T l W) (h0 : V.heap[g]? = W.heap[g]?) (h1 : ∀ x n, g < x → IB W x n → IB V x n) (h2 : ∀ x n, g < x → NB W x n → NB V x n) : CB g T l V := by
  obtain ⟨cur, e, hz, h3⟩ := h
  refine ⟨cur, h0.trans e, hz, fun i hi => ?_⟩
  obtain ⟨g0, g1, a, b, ⟨c1, c2, c3⟩, ⟨d1, d2, d3⟩⟩ := h3 i hi
  exact ⟨g0, g1, a, b, ⟨c1, c2, h1 _ _ c1 c3⟩, ⟨d1, d2, h2 _ _ d1 d3⟩⟩
theorem CB.lt {g T : Nat} {l : List Fn} {W : World} (h : CB g T l W) : g < W.heap.size := by
  obtain ⟨cur, e, _⟩ := h
  exact lt_hp e
theorem CB.next {g T : Nat} {l : List Fn} {W V : World} (h : CB g T l W) (hb : Below W.heap.size W V) : CB g T l V :=
  h.keep (hb.block _ h.lt) (fun _ _ _ hx => hx.keep (hb.block _ hx.lt)) (fun _ _ _ hx => hx.keep (hb.block _ hx.lt))
theorem CB.ints {g T x n : Nat} {l : List Fn} {W V : World} (h : CB g T l W) (hx : g < x) (h0 : IB W x n) (h1 : IB V x n) (hg : W.grownBy V (some x)) : CB g T l V := by
  refine h.keep (hg.block g h.lt (fun e => by injection e with e; omega)) (fun y m _ hy => ?_) (fun y m _ hy => ?_)
  · by_cases e : y = x
    · subst e
      rw [← h0.same hy]
      exact h1
    · exact hy.keep (hg.block y hy.lt (fun e2 => by injection e2 with e2; exact e e2))
  · exact hy.keep (hg.block y hy.lt (fun e2 => by
      injection e2 with e2
      subst e2
      exact (hy.int h0).elim))
theorem CB.inss {g T x n : Nat} {l : List Fn} {W V : World} (h : CB g T l W) (hx : g < x) (h0 : NB W x n) (h1 : NB V x n) (hg : W.grownBy V (some x)) : CB g T l V := by
  refine h.keep (hg.block g h.lt (fun e => by injection e with e; omega)) (fun y m _ hy => ?_) (fun y m _ hy => ?_)
  · exact hy.keep (hg.block y hy.lt (fun e2 => by
      injection e2 with e2
      subst e2
      exact (h0.int hy).elim))
  · by_cases e : y = x
    · subst e
      rw [← h0.same hy]
      exact h1
    · exact hy.keep (hg.block y hy.lt (fun e2 => by injection e2 with e2; exact e e2))
theorem CB.set {g T : Nat} {l : List Fn} {W : World} (h : CB g T l W) {i : Nat} (v : Value) (h1 : ∀ j, i ≠ j * 5 + 1) (h2 : ∀ j, i ≠ j * 5 + 4) : CB g T l (W.setCell ⟨g, i, none⟩ v) := by
  obtain ⟨cur, e, hz, h3⟩ := h
  refine ⟨_, R.set_at (i := i) v e, by rw [Array.size_setIfInBounds]; exact hz, fun j hj => ?_⟩
  obtain ⟨g0, g1, a, b, ⟨c1, c2, c3⟩, ⟨d1, d2, d3⟩⟩ := h3 j hj
  exact ⟨g0, g1, by rw [Array.getElem?_setIfInBounds_ne (h1 j)]; exact a, by rw [Array.getElem?_setIfInBounds_ne (h2 j)]; exact b, ⟨c1, c2, c3.keep (set_other _ _ _ _ _ (by omega))⟩, ⟨d1, d2, d3.keep (set_other _ _ _ _ _ (by omega))⟩⟩
theorem CB.room {g T : Nat} {l : List Fn} {W : World} (h : CB g T l W) {i : Nat} (hi : i < l.length * 5) : (∃ v, W.cell? ⟨g, i, none⟩ = some v) ∧ W.frozen? ⟨g, i, none⟩ = false := by
  obtain ⟨cur, e, h1, _⟩ := h
  exact R.row_room e (by omega)
theorem CB.at {g T : Nat} {l : List Fn} {W : World} (h : CB g T l W) {i : Nat} (hi : i < l.length) : ∃ g0 g1, W.cell? ⟨g, i * 5 + 1, none⟩ = some (.slice (some ⟨g0, 0, none⟩) (l.getD i fn0).params.length (l.getD i fn0).params.length) ∧ W.cell? ⟨g, i * 5 + 4, none⟩ = some (.slice (some ⟨g1, 0, none⟩) (l.getD i fn0).ins.length (l.getD i fn0).ins.length) ∧ (g < g0 ∧ g0 < T ∧ IB W g0 (l.getD i fn0).params.length) ∧ (g < g1 ∧ g1 < T ∧ NB W g1 (l.getD i fn0).ins.length) := by
  obtain ⟨cur, e, h1, h3⟩ := h
  obtain ⟨g0, g1, a, b, c, d⟩ := h3 i hi
  exact ⟨g0, g1, (R.row_cell e _).trans a, (R.row_cell e _).trans b, c, d⟩
/-- The marks up to a function. -/
def kF (l : List Fn) : Nat → Nat
  | 0 => 0
  | j + 1 => kF l j + (3 + (l.getD j fn0).params.length + 4 * (l.getD j fn0).ins.length)
theorem kF_le (l : List Fn) : ∀ j, kF l j ≤ 4 * R.wSFn l j
  | 0 => Nat.le_refl _
  | j + 1 => by
    have h1 := kF_le l j
    have h2 := R.wSIn_ge (l.getD j fn0).ins (l.getD j fn0).ins.length
    simp only [kF, R.wSFn, R.wFn]
    omega
set_option maxHeartbeats 4000000 in
theorem markI_big (g n c K : Nat) (w : World) (hn : n ≤ 1048576) (hK : K ≤ 100000000) (cur : Array Value) (hg : w.heap[g]? = some (.cells cur 3 (0, 0))) (hsz : cur.size = n) :
    Calls Tryz.prog 30 #[.slice (some ⟨g, 0, none⟩) n c, .int .i64 K] w fun e w' => e = .returned (.int .i64 (K + n : Nat)) ∧ w.grownBy w' (some g) ∧ MInt w' g n K := by
  have HG0 := hid hg
  clear hg
  go_enter Tryz.func30, Tryz.ntmps30
  go_wp2
  go_loopw [1, 5] (fun k i wr => ∃ (j : Nat) (cu : Array Value), i = .int .i64 j ∧ k = .int .i64 (K + j : Nat) ∧ j ≤ n ∧ w.grownBy wr (some g) ∧ wr.heap[g]? = some (.cells cu 3 (0, 0)) ∧ cu.size = n ∧ ∀ i, i < j → cu[i]? = some (.int .i64 (K + i : Nat))) (fun _ i _ => n - (intOf i).toNat)
  case atStart => exact ⟨0, cur, rfl, rfl, Nat.zero_le _, ⟨rfl, rfl, rfl, Nat.le_refl _, fun _ _ _ => rfl⟩, HG0.out, hsz, fun i h => absurd h (Nat.not_lt_zero _)⟩
  case round =>
    obtain ⟨j, cu, rfl, rfl, hj, hgw, hh, hcs, hall⟩ := hrel
    have HG := hid hgw
    have HH := hid hh
    have HALL := hid hall
    have HCS := hid hcs
    clear hgw hall hcs hh
    by_cases hlt : j < n
    · obtain ⟨v0, x0⟩ : ∃ v, wr.cell? ⟨g, j, none⟩ = some v := ⟨_, (cell_of_row _ _ j _ _ (0, 0) HH.out).trans (Array.getElem?_eq_getElem (by rw [HCS.out]; exact hlt))⟩
      have f0 : wr.frozen? ⟨g, j, none⟩ = false := by
        unfold World.frozen?
        rw [HH.out]
        simp
      have HF : Hid ((wr.setCell ⟨g, j, none⟩ (.int .i64 (K + j : Nat))).heap[g]? = some (.cells (cu.setIfInBounds j (.int .i64 (K + j : Nat))) 3 (0, 0))) := hid (by
        unfold World.setCell
        simp only [Array.getElem?_modify, HH.out]
        simp)
      have HGR := hid (grown_setI HG.out j (.int .i64 (K + j : Nat)))
      go_wp2
      go_roundw
      case rel =>
        refine ⟨j + 1, _, by go_num, by go_num, by omega, HGR.out, HF.out, by rw [Array.size_setIfInBounds]; exact HCS.out, fun i hi => ?_⟩
        by_cases e : i = j
        · subst e
          rw [Array.getElem?_setIfInBounds_self_of_lt (by rw [HCS.out]; exact hlt)]
        · rw [Array.getElem?_setIfInBounds_ne (fun h => e h.symm)]
          exact HALL.out i (by omega)
      case measure => simp [intOf]; omega
    · obtain rfl : j = n := by omega
      go_wp2
      go_ret
      exact ⟨ret_intI (by omega), HG.out, cu, HH.out, HCS.out, HALL.out⟩
theorem markI_ib (g n c K : Nat) (w : World) (hn : n ≤ 1048576) (hK : K ≤ 100000000) (hb : IB w g n) (a : Int) (he : a = (K : Nat)) :
    Calls Tryz.prog 30 #[.slice (some ⟨g, 0, none⟩) n c, .int .i64 a] w fun e w' => e = .returned (.int .i64 (K + n : Nat)) ∧ w.grownBy w' (some g) ∧ IB w' g n := by
  subst he
  obtain ⟨cur, e, hz⟩ := hb
  refine (markI_big g n c K w hn hK cur e hz).mono ?_
  rintro e w' ⟨h1, h2, cu, h3, h4, _⟩
  exact ⟨h1, h2, cu, h3, h4⟩
theorem markN_int (g n c K : Nat) (w : World) (hn : n ≤ 1048576) (hK : 0 < K) (hK2 : K ≤ 5000000) (h : NB w g n) (a : Int) (he : a = (K : Nat)) :
    Calls Tryz.prog 58 #[.slice (some ⟨g, 0, none⟩) n c, .int .i64 a] w fun e w' => e = .returned (.int .i64 (K + 4 * n : Nat)) ∧ w.grownBy w' (some g) ∧ NB w' g n := by
  subst he
  exact markN_any g n c K w hn hK hK2 h
set_option maxHeartbeats 8000000 in
theorem markC_row {B T g : Nat} {l : List Fn} (c : Nat) (w : World) (hB : B ≤ g) (hg : g < T) (hBw : B ≤ w.heap.size) (hW : R.wSFn l l.length ≤ 1048576) (h : CB g T l w) :
    Calls Tryz.prog 29 #[.slice (some ⟨g, 0, none⟩) l.length c, .int .i64 1] w fun e w' => e = .returned (.int .i64 (1 + kF l l.length : Nat)) ∧ BT B T w w' := by
  have HG0 := hid h
  have HKL : Hid (∀ j, j ≤ l.length → kF l j ≤ 4194304) := hid fun j hj => by
    have h1 := kF_le l j
    have h2 := R.wSFn_mono l hj
    omega
  have HLO := hid (R.loFnS_of hW)
  have hll : l.length ≤ 1048576 := HLO.out.1
  clear h hW
  go_enter Tryz.func29, Tryz.ntmps29
  go_wp2
  go_loopw [1, 5] (fun k i wr => ∃ (j : Nat), i = .int .i64 j ∧ k = .int .i64 (1 + kF l j : Nat) ∧ j ≤ l.length ∧ BT B T w wr ∧ CB g T l wr) (fun _ i _ => l.length - (intOf i).toNat)
  case atStart => exact ⟨0, rfl, rfl, Nat.zero_le _, BT.refl _ _ _, HG0.out⟩
  case round =>
    obtain ⟨j, rfl, rfl, hj, hbt, hcb⟩ := hrel
    have HBT := hid hbt
    have HCB := hid hcb
    clear hbt hcb HG0
    by_cases hlt : j < l.length
    · have HLF := hid (HLO.out.2 j hlt)
      have HAT := hid (fun W (hW : CB g T l W) => hW.at hlt)
      have hk1 := HKL.out (j + 1) (by omega)
      have HKS : Hid (kF l (j + 1) = kF l j + (3 + (l.getD j fn0).params.length + 4 * (l.getD j fn0).ins.length)) := hid rfl
      rw [HKS.out] at hk1
      obtain ⟨pn, hpn⟩ : ∃ p, (l.getD j fn0).params.length = p := ⟨_, rfl⟩
      obtain ⟨qn, hqn⟩ : ∃ p, (l.getD j fn0).ins.length = p := ⟨_, rfl⟩
      have hp1 : pn ≤ 1048576 := by rw [← hpn]; exact HLF.out.1
      have hq1 : qn ≤ 1048576 := by rw [← hqn]; exact HLF.out.2.1
      rw [hpn, hqn] at HAT HKS hk1
      clear hpn hqn
      obtain ⟨M, hM⟩ : ∃ M, 1 + kF l j = M := ⟨_, rfl⟩
      have HM : Hid (1 + kF l (j + 1) = M + 3 + pn + 4 * qn) := hid (by rw [HKS.out, ← hM]; omega)
      have hMa : 0 < M := by omega
      have hMb : M + pn + 4 * qn ≤ 4194308 := by omega
      rw [hM]
      clear hM hk1 HKS
      have HSZ : Hid (∀ {W}, BT B T w W → B ≤ W.heap.size) := hid fun hW => Nat.le_trans hBw hW.lo.size
      go_upto_region 5 with (go_at_call 57; refine (markText_int _ M _ rfl (by omega) (by omega)).mono ?_; rintro e w1 ⟨rfl, hb1⟩; have HB1 := hid (HBT.out.next (HSZ.out HBT.out) hb1); have HC1 := hid (HCB.out.next hb1); obtain ⟨⟨v1, x1⟩, f1⟩ := HC1.out.room (i := j * 5) (by omega); clear hb1)
      have HB2 := hid (HB1.out.set (i := j * 5) (v := .string (mtxt M)) (HSZ.out HB1.out) hB hg)
      have HC2 := hid (HC1.out.set (i := j * 5) (.string (mtxt M)) (fun q => by omega) (fun q => by omega))
      obtain ⟨W2, hW2⟩ : ∃ W, w1.setCell ⟨g, j * 5, none⟩ (.string (mtxt M)) = W := ⟨_, rfl⟩
      rw [hW2] at HB2 HC2 ⊢
      clear hW2 x1 f1
      obtain ⟨g0, g1, y1, y4, ⟨c1, c2, c3⟩, hins⟩ := HAT.out _ HC2.out
      have HI0 := hid c3
      clear hins y4 c3
      go_upto_region 7 with (go_at_call 30; refine (markI_ib g0 pn pn (M + 1) _ hp1 (by omega) HI0.out _ (by omega)).mono ?_; rintro e w3 ⟨rfl, hg3, hi3⟩; have HB3 := hid (HB2.out.grown (HSZ.out HB2.out) hg3 (by omega) c2); have HC3 := hid (HC2.out.ints c1 HI0.out hi3 hg3); obtain ⟨⟨v3, x3⟩, f3⟩ := HC3.out.room (i := j * 5 + 2) (by omega); clear hg3 hi3)
      clear y1
      go_upto_region 8 with fail
      have HB4 := hid (HB3.out.set (i := j * 5 + 2) (v := .int .i64 ((M : Int) + 1 + pn)) (HSZ.out HB3.out) hB hg)
      have HC4 := hid (HC3.out.set (i := j * 5 + 2) (.int .i64 ((M : Int) + 1 + pn)) (fun q => by omega) (fun q => by omega))
      obtain ⟨W4, hW4⟩ : ∃ W, w3.setCell ⟨g, j * 5 + 2, none⟩ (.int .i64 ((M : Int) + 1 + pn)) = W := ⟨_, rfl⟩
      rw [hW4] at HB4 HC4 ⊢
      clear hW4 x3 f3
      obtain ⟨⟨v5, x5⟩, f5⟩ := HC4.out.room (i := j * 5 + 3) (by omega)
      go_upto_region 10 with fail
      have HB5 := hid (HB4.out.set (i := j * 5 + 3) (v := .int .i64 ((M : Int) + 1 + pn + 1)) (HSZ.out HB4.out) hB hg)
      have HC5 := hid (HC4.out.set (i := j * 5 + 3) (.int .i64 ((M : Int) + 1 + pn + 1)) (fun q => by omega) (fun q => by omega))
      obtain ⟨W5, hW5⟩ : ∃ W, W4.setCell ⟨g, j * 5 + 3, none⟩ (.int .i64 ((M : Int) + 1 + pn + 1)) = W := ⟨_, rfl⟩
      rw [hW5] at HB5 HC5 ⊢
      clear hW5 x5 f5
      obtain ⟨h0, h1, y1, y4, _, ⟨d1, d2, d3⟩⟩ := HAT.out _ HC5.out
      have HI1 := hid d3
      clear y1 d3
      go_upto_region 3 with (go_at_call 58; refine (markN_int h1 qn qn (M + 3 + pn) _ hq1 (by omega) (by omega) HI1.out _ (by omega)).mono ?_; rintro e w6 ⟨rfl, hg6, hi6⟩; have HB6 := hid (HB5.out.grown (HSZ.out HB5.out) hg6 (by omega) d2); have HC6 := hid (HC5.out.inss d1 HI1.out hi6 hg6); clear hg6 hi6)
      clear y4
      go_wp2
      go_roundw
      case rel => exact ⟨j + 1, by go_num, (by rw [HM.out]; go_num), by omega, HB6.out, HC6.out⟩
      case measure => simp [intOf]; omega
    · obtain rfl : j = l.length := by omega
      go_wp2
      go_ret
      exact ⟨rfl, HBT.out⟩
set_option maxHeartbeats 4000000 in
theorem markCode_at {B T g : Nat} {l : List Fn} (w : World) (h1 : B ≤ g) (h4 : g < T) (hBw : B ≤ w.heap.size) (hW : R.wSFn l l.length ≤ 1048576) (h5 : CB g T l w) :
    Calls Tryz.prog 13 #[.agg #[.slice (some ⟨g, 0, none⟩) l.length l.length], .int .i64 1] w fun e w' => ∃ K : Nat, e = .returned (.int .i64 K) ∧ BT B T w w' := by
  have HX := hid (R.B1.start w (.cells #[.slice (some ⟨g, 0, none⟩) l.length l.length] 30))
  have HB0 := hid ((BT.refl B T w).next hBw HX.out.lo)
  have HC0 := hid (h5.next HX.out.lo)
  have HBW : Hid (B ≤ (w.alloc (.cells #[.slice (some ⟨g, 0, none⟩) l.length l.length] 30)).heap.size) := hid (Nat.le_trans hBw HX.out.lo.size)
  clear h5
  go_enter Tryz.func13, Tryz.ntmps13
  go_upto_region 1 with fail
  obtain ⟨W1, hW1⟩ : ∃ W, w.alloc (.cells #[.slice (some ⟨g, 0, none⟩) l.length l.length] 30) = W := ⟨_, rfl⟩
  rw [hW1] at HX HB0 HC0 HBW ⊢
  clear hW1
  have k0 : W1.cell? ⟨w.heap.size, 0, none⟩ = some (.slice (some ⟨g, 0, none⟩) l.length l.length) := R.row_cell HX.out.e 0
  go_wp2_with fail
  refine (markC_row (T := T) l.length W1 h1 h4 HBW.out hW HC0.out).mono ?_
  rintro e w2 ⟨rfl, hb2⟩
  have HE : Hid (BT B T w w2) := hid ⟨HB0.out.lo.trans hb2.lo, fun i hi hl => (hb2.hi i hi (Nat.lt_of_lt_of_le hl HB0.out.lo.size)).trans (HB0.out.hi i hi hl)⟩
  clear hb2 k0
  go_wp2
  go_ret
  exact ⟨_, rfl, HE.out⟩
end Go.Proofs.YtfedmbadhcdpdaaGreatDoor.C
