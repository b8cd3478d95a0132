import Derived.ProofKit
import Derived.Deep.Slices
import Derived.Test.YtfndbnbnimhnaaaGreatDoorJ20
import Derived.Test.YtfndbnbnimhnaaaGreatDoorJ21
import Derived.Test.YtfndbnbnimhnaaaGreatDoorJ10
/-! Sameness. -/
namespace Go.Proofs.YtfndbnbnimhnaaaGreatDoor.R
open Go.RowKit
set_option maxRecDepth 20000
set_option maxHeartbeats 4000000 in
theorem eqSInt_same (l : List Int) {u v : Value} {B : Nat} (w : World) (hx : l.length ≤ 1048576) (k0 : SIntR B w u l) (l0 : SIntR B w v l) :
    Calls Tryz.prog 74 #[u, v] w fun e w' => e = .returned (.bool true) ∧ Below w.heap.size w w' := by
  have H1 := hid k0
  have H2 := hid l0
  have HX := hid hx
  have hN : l.length ≤ 1048576 := hx
  obtain ⟨gu, rfl⟩ := k0.sl
  obtain ⟨gv, rfl⟩ := l0.sl
  clear k0 l0 hx
  have hne : ((l.length : Int) != (l.length : Int)) = false := by simp
  go_enter Tryz.func74, Tryz.ntmps74
  go_wp2
  go_loopw [5] (fun i wr => ∃ j : Nat, j ≤ l.length ∧ i = .int .i64 j ∧ Below w.heap.size w wr) (fun i _ => l.length - (intOf i).toNat)
  case atStart => exact ⟨0, Nat.zero_le _, rfl, Below.refl _ _⟩
  case round =>
    obtain ⟨j, hj, rfl, hbw⟩ := hrel
    have HBW := hid hbw
    clear hbw
    by_cases hlt : j < l.length
    · obtain ⟨g, e9, _, _, a0⟩ := (H1.out.next HBW.out).at hlt
      injection e9 with ea en ec
      injection ea with eb
      injection eb with ec2
      subst ec2
      obtain ⟨g2, e8, _, _, b0⟩ := (H2.out.next HBW.out).at hlt
      injection e8 with ea2 en2 ec3
      injection ea2 with eb2
      injection eb2 with ec4
      subst ec4
      clear en ec en2 ec3
      obtain ⟨x, hx⟩ : ∃ x, l.getD j 0 = x := ⟨_, rfl⟩
      rw [hx] at a0 b0
      clear hx
      have h5 : (x != x) = false := by simp
      go_wp2_with fail
      go_quiet (fail)
      go_wp2
      go_roundw
      case rel => exact ⟨j + 1, by omega, by go_num, below_drewN HBW.out nq⟩
      case measure => simp [intOf]; omega
    · obtain rfl : j = l.length := by omega
      go_wp2
      go_ret
      exact ⟨rfl, HBW.out⟩
end Go.Proofs.YtfndbnbnimhnaaaGreatDoor.R
/-! What came in. -/
namespace Go.Proofs.YtfndbnbnimhnaaaGreatDoor.R
open Go.RowKit
set_option maxRecDepth 20000
open Go.ChangeShapes Go.WideShapes Go.ChangeAt Go.Deep
theorem bounds {x : Int} (h : (Lit.int .i64 x).wf = true) : -9223372036854775808 ≤ x ∧ x ≤ 9223372036854775807 := by
  simpa [Lit.wf, IntKind.min, IntKind.max, IntKind.signed, IntKind.bits] using h
theorem cellsint : Tryz.prog.cellsOf 3 = 1 := by kernel_rfl
theorem cellsInt : Tryz.prog.cellsOf 3 = 1 := by kernel_rfl
theorem cellsStr : Tryz.prog.cellsOf 9 = 1 := by kernel_rfl
theorem cellsSInt : Tryz.prog.cellsOf 54 = 1 := by kernel_rfl
theorem SInt_open {H : Type} {enc : TypeId × Value → H} {W : World} {base : Nat} {spare : Nat → Bool} {held : Bool} {n : Nat} {v : Value} {z : DataW H × List MemPlace} (f0 : DataW.trod enc Tryz.prog W base spare held n 54 [v] = some z) :
    ∃ l : List Int, SIntA W v l ∧ l.length ≤ maxLen := by
  rcases open_slice Tryz.underlying54 f0 with ⟨e, _⟩ | ⟨a, len, cap, m, n2, D, Pl, e, hb, hlc, hcm, hm, _, hel⟩
  · exact ⟨[], ⟨none, 0, by simpa using e, .inl rfl⟩, Nat.zero_le _⟩
  · have hall : ∀ i, ∃ x : Int, i < len → (IntA W (a.add i) x) ∧ True ∧ a.block < W.heap.size := fun i => by
      by_cases hi : i < len
      · have hm2 : len ≤ m := by rw [hm]; split <;> omega
        obtain ⟨cs', hc, ht⟩ := hel i (by omega)
        rw [cellsint, Nat.mul_one] at hc
        obtain ⟨x, e0, _, _⟩ := DataW.trod_int Tryz.underlying3 ht
        subst e0
        refine ⟨x, fun _ => ?_⟩
        have hbl := World.cells?_block hc (by omega)
        rw [add_block] at hbl
        obtain ⟨_, _, hg⟩ := World.cells?_some hc
        exact ⟨(by have := hg 0 (by omega); simpa [Addr.add, IntA] using this), trivial, hbl⟩
      · exact ⟨0, fun h => absurd h hi⟩
    obtain ⟨f, hnd⟩ := Classical.skolem.1 hall
    have hget : ∀ i, i < len → ((List.range len).map f).getD i 0 = f i := fun i hi => by simp [List.getD_eq_getElem?_getD, hi]
    have hlen : ((List.range len).map f).length = len := by simp
    refine ⟨(List.range len).map f, ⟨some a, cap, by rw [hlen]; simpa using e, ?_⟩, ?_⟩
    · by_cases h0 : len = 0
      · subst h0; exact .inl rfl
      · refine .inr ⟨a, rfl, (hnd 0 (by omega)).2.2, fun i hi => ?_⟩
        rw [hlen] at hi
        rw [hget i hi]
        exact (hnd i hi).1
    · rw [hlen]; omega
theorem cellsIn : Tryz.prog.cellsOf 165 = 4 := by kernel_rfl
theorem In_open {H : Type} {enc : TypeId × Value → H} {W : World} {base : Nat} {spare : Nat → Bool} {held : Bool} {n : Nat} {cs : List Value} {z : DataW H × List MemPlace} (h : DataW.trod enc Tryz.prog W base spare held n 165 cs = some z) :
    ∃ (x : C.In), cs = [.int .i64 x.op, .int .i64 x.a, .int .i64 x.n, .string x.text] ∧ OkIn x := by
  obtain ⟨xs, m, _, _, hl, hlen, hf⟩ := DataW.trod_struct Tryz.underlying165 h
  rw [cellsIn] at hl
  match cs, hl with
  | [c0, c1, c2, c3], _ =>
    match xs, hlen with
    | [y0, y1, y2, y3], _ =>
      have f0 := hf 0 _ rfl
      simp [cellsInt] at f0
      obtain ⟨x0, e0, _, h0⟩ := DataW.trod_int Tryz.underlying3 f0
      cases e0
      have f1 := hf 1 _ rfl
      simp [cellsInt] at f1
      obtain ⟨x1, e1, _, h1⟩ := DataW.trod_int Tryz.underlying3 f1
      cases e1
      have f2 := hf 2 _ rfl
      simp at f2
      obtain ⟨x2, e2, _, h2⟩ := DataW.trod_int Tryz.underlying2 f2
      cases e2
      have f3 := hf 3 _ rfl
      simp [cellsStr] at f3
      obtain ⟨x3, e3, _, h3⟩ := DataW.trod_string Tryz.underlying9 f3
      cases e3
      exact ⟨⟨x0, x1, x2, x3⟩, rfl, ⟨(bounds h0), (bounds h1), (bounds h2), h3⟩⟩
theorem cellsSIn : Tryz.prog.cellsOf 75 = 1 := by kernel_rfl
theorem SIn_open {H : Type} {enc : TypeId × Value → H} {W : World} {base : Nat} {spare : Nat → Bool} {held : Bool} {n : Nat} {v : Value} {z : DataW H × List MemPlace} (f0 : DataW.trod enc Tryz.prog W base spare held n 75 [v] = some z) :
    ∃ l : List C.In, SInA W v l ∧ OkInS l := by
  rcases open_slice Tryz.underlying75 f0 with ⟨e, _⟩ | ⟨a, len, cap, m, n2, D, Pl, e, hb, hlc, hcm, hm, _, hel⟩
  · exact ⟨[], ⟨none, 0, by simpa using e, .inl rfl⟩, ⟨Nat.zero_le _, fun i h => absurd h (Nat.not_lt_zero _)⟩⟩
  · have hall : ∀ i, ∃ x : C.In, i < len → (InA W (a.add (i * 4)) x) ∧ OkIn x ∧ a.block < W.heap.size := fun i => by
      by_cases hi : i < len
      · have hm2 : len ≤ m := by rw [hm]; split <;> omega
        obtain ⟨cs', hc, ht⟩ := hel i (by omega)
        rw [cellsIn] at hc
        obtain ⟨x, rfl, hx⟩ := In_open ht
        refine ⟨x, fun _ => ?_⟩
        have hbl := World.cells?_block hc (by omega)
        rw [add_block] at hbl
        obtain ⟨_, _, hg⟩ := World.cells?_some hc
        exact ⟨⟨(by have := hg 0 (by omega); simpa [Addr.add] using this), (by have := hg 1 (by omega); rw [add_one _ 1 (by decide)] at this; simpa using this), (by have := hg 2 (by omega); rw [add_one _ 2 (by decide)] at this; simpa using this), (by have := hg 3 (by omega); rw [add_one _ 3 (by decide)] at this; simpa using this)⟩, hx, hbl⟩
      · exact ⟨C.in0, fun h => absurd h hi⟩
    obtain ⟨f, hnd⟩ := Classical.skolem.1 hall
    have hget : ∀ i, i < len → ((List.range len).map f).getD i C.in0 = f i := fun i hi => by simp [List.getD_eq_getElem?_getD, hi]
    have hlen : ((List.range len).map f).length = len := by simp
    refine ⟨(List.range len).map f, ⟨some a, cap, by rw [hlen]; simpa using e, ?_⟩, ?_⟩
    · by_cases h0 : len = 0
      · subst h0; exact .inl rfl
      · refine .inr ⟨a, rfl, (hnd 0 (by omega)).2.2, fun i hi => ?_⟩
        rw [hlen] at hi
        rw [hget i hi]
        exact (hnd i hi).1
    · refine ⟨by rw [hlen]; omega, fun i hi => ?_⟩
      rw [hlen] at hi
      rw [hget i hi]
      exact (hnd i hi).2.1
theorem cellsFn : Tryz.prog.cellsOf 77 = 5 := by kernel_rfl
theorem Fn_open {H : Type} {enc : TypeId × Value → H} {W : World} {base : Nat} {spare : Nat → Bool} {held : Bool} {n : Nat} {cs : List Value} {z : DataW H × List MemPlace} (h : DataW.trod enc Tryz.prog W base spare held n 77 cs = some z) :
    ∃ (x : C.Fn) (v0 : Value) (v1 : Value), cs = [.string x.name, v0, .int .i64 x.result, .int .i64 x.slots, v1] ∧ SIntA W v0 x.params ∧ SInA W v1 x.ins ∧ OkFn x := by
  obtain ⟨xs, m, _, _, hl, hlen, hf⟩ := DataW.trod_struct Tryz.underlying77 h
  rw [cellsFn] at hl
  match cs, hl with
  | [c0, c1, c2, c3, c4], _ =>
    match xs, hlen with
    | [y0, y1, y2, y3, y4], _ =>
      have f0 := hf 0 _ rfl
      simp [cellsStr] at f0
      obtain ⟨x0, e0, _, h0⟩ := DataW.trod_string Tryz.underlying9 f0
      cases e0
      have f1 := hf 1 _ rfl
      simp [cellsSInt] at f1
      obtain ⟨x1, r1, h1⟩ := SInt_open f1
      have f2 := hf 2 _ rfl
      simp [cellsInt] at f2
      obtain ⟨x2, e2, _, h2⟩ := DataW.trod_int Tryz.underlying3 f2
      cases e2
      have f3 := hf 3 _ rfl
      simp [cellsInt] at f3
      obtain ⟨x3, e3, _, h3⟩ := DataW.trod_int Tryz.underlying3 f3
      cases e3
      have f4 := hf 4 _ rfl
      simp [cellsSIn] at f4
      obtain ⟨x4, r4, h4⟩ := SIn_open f4
      exact ⟨⟨x0, x1, x2, x3, x4⟩, c1, c4, rfl, r1, r4, ⟨h0, h1, (bounds h2), (bounds h3), h4⟩⟩
theorem cellsSFn : Tryz.prog.cellsOf 22 = 1 := by kernel_rfl
theorem SFn_open {H : Type} {enc : TypeId × Value → H} {W : World} {base : Nat} {spare : Nat → Bool} {held : Bool} {n : Nat} {v : Value} {z : DataW H × List MemPlace} (f0 : DataW.trod enc Tryz.prog W base spare held n 22 [v] = some z) :
    ∃ l : List C.Fn, SFnA W v l ∧ OkFnS l := by
  rcases open_slice Tryz.underlying22 f0 with ⟨e, _⟩ | ⟨a, len, cap, m, n2, D, Pl, e, hb, hlc, hcm, hm, _, hel⟩
  · exact ⟨[], ⟨none, 0, by simpa using e, .inl rfl⟩, ⟨Nat.zero_le _, fun i h => absurd h (Nat.not_lt_zero _)⟩⟩
  · have hall : ∀ i, ∃ x : C.Fn, i < len → (∃ v0 v1, FnA W (a.add (i * 5)) x v0 v1 ∧ SIntA W v0 x.params ∧ SInA W v1 x.ins) ∧ OkFn x ∧ a.block < W.heap.size := fun i => by
      by_cases hi : i < len
      · have hm2 : len ≤ m := by rw [hm]; split <;> omega
        obtain ⟨cs', hc, ht⟩ := hel i (by omega)
        rw [cellsFn] at hc
        obtain ⟨x, v0, v1, rfl, t0, t1, hx⟩ := Fn_open ht
        refine ⟨x, fun _ => ?_⟩
        have hbl := World.cells?_block hc (by omega)
        rw [add_block] at hbl
        obtain ⟨_, _, hg⟩ := World.cells?_some hc
        exact ⟨⟨v0, v1, ⟨(by have := hg 0 (by omega); simpa [Addr.add] using this), (by have := hg 1 (by omega); rw [add_one _ 1 (by decide)] at this; simpa using this), (by have := hg 2 (by omega); rw [add_one _ 2 (by decide)] at this; simpa using this), (by have := hg 3 (by omega); rw [add_one _ 3 (by decide)] at this; simpa using this), (by have := hg 4 (by omega); rw [add_one _ 4 (by decide)] at this; simpa using this)⟩, t0, t1⟩, hx, hbl⟩
      · exact ⟨C.fn0, fun h => absurd h hi⟩
    obtain ⟨f, hnd⟩ := Classical.skolem.1 hall
    have hget : ∀ i, i < len → ((List.range len).map f).getD i C.fn0 = f i := fun i hi => by simp [List.getD_eq_getElem?_getD, hi]
    have hlen : ((List.range len).map f).length = len := by simp
    refine ⟨(List.range len).map f, ⟨some a, cap, by rw [hlen]; simpa using e, ?_⟩, ?_⟩
    · by_cases h0 : len = 0
      · subst h0; exact .inl rfl
      · refine .inr ⟨a, rfl, (hnd 0 (by omega)).2.2, fun i hi => ?_⟩
        rw [hlen] at hi
        rw [hget i hi]
        exact (hnd i hi).1
    · refine ⟨by rw [hlen]; omega, fun i hi => ?_⟩
      rw [hlen] at hi
      rw [hget i hi]
      exact (hnd i hi).2.1
theorem cellsCd : Tryz.prog.cellsOf 24 = 1 := by kernel_rfl
theorem Cd_open {H : Type} {enc : TypeId × Value → H} {W : World} {base : Nat} {spare : Nat → Bool} {held : Bool} {n : Nat} {cs : List Value} {z : DataW H × List MemPlace} (h : DataW.trod enc Tryz.prog W base spare held n 24 cs = some z) :
    ∃ (x : Cd) (v0 : Value), cs = [v0] ∧ SFnA W v0 x.fns ∧ OkCd x := by
  obtain ⟨xs, m, _, _, hl, hlen, hf⟩ := DataW.trod_struct Tryz.underlying24 h
  rw [cellsCd] at hl
  match cs, hl with
  | [c0], _ =>
    match xs, hlen with
    | [y0], _ =>
      have f0 := hf 0 _ rfl
      simp [cellsSFn] at f0
      obtain ⟨x0, r0, h0⟩ := SFn_open f0
      exact ⟨⟨x0⟩, c0, rfl, r0, h0⟩
end Go.Proofs.YtfndbnbnimhnaaaGreatDoor.R
/-! Sizes. -/
namespace Go.Proofs.YtfndbnbnimhnaaaGreatDoor.R
open Go.RowKit
set_option maxRecDepth 20000
set_option maxHeartbeats 2000000 in
theorem szFn_any (x : C.Fn) {v0 v1 : Value} (l : Int) (w : World) (hl : 0 ≤ l) (hl2 : l ≤ 1048576) (hx : OkFn x) (k0 : SIntA w v0 x.params) (k1 : SInA w v1 x.ins) :
    Calls Tryz.prog 31 #[.agg #[.string x.name, v0, .int .i64 x.result, .int .i64 x.slots, v1], .int .i64 l] w (SzEnd l (wFn x) w) := by
  have HX := hid hx
  obtain ⟨hx0, hx1, hx2, hx3, hx4⟩ := hx
  have HB0 := hid (B1.start w (.cells #[.string x.name, v0, .int .i64 x.result, .int .i64 x.slots, v1] 77))
  have K0 := hid (k0.next HB0.out.lo)
  have K1 := hid (k1.next HB0.out.lo)
  obtain ⟨ad0, cp0, rfl⟩ := k0.sl
  obtain ⟨ad1, cp1, rfl⟩ := k1.sl
  clear k0 k1
  have hs_name := small hx0
  by_cases c0 : l - (x.name.size : Int) < 0
  · go_enter Tryz.func31, Tryz.ntmps31
    go_wp2
    go_ret
    exact ⟨⟨_, rfl, by omega, by omega, fun h => by omega⟩, HB0.out.lo⟩
  · go_enter Tryz.func31, Tryz.ntmps31
    go_wp2_with fail
    refine (szInt_any ad0 x.params.length cp0 _ _ (by omega) (by omega) hx1).mono ?_
    rintro e w1 ⟨⟨r0, rfl, p0, q0, h0⟩, hb0⟩
    have HP0 := hid h0
    have HN0 := hid hb0
    have HB1 := hid (HB0.out.next hb0)
    clear h0 hb0
    have b0_4 : w1.cell? ⟨w.heap.size, 4, none⟩ = some (.slice ad1 x.ins.length cp1) := row_cell HB1.out.e 4
    by_cases c1 : r0 < 0
    · go_wp2
      go_ret
      exact ⟨⟨_, rfl, by omega, by omega, fun h => by omega⟩, HB1.out.lo⟩
    · go_wp2_with fail
      refine (szSIn_any x.ins _ _ (by omega) (by omega) hx4 (K1.out.next HN0.out)).mono ?_
      rintro e w2 ⟨⟨r1, rfl, p1, q1, h1⟩, hb1⟩
      have HP1 := hid h1
      have HN1 := hid (HN0.out.trans (hb1.mono HN0.out.size))
      have HB2 := hid (HB1.out.next hb1)
      clear h1 hb1
      by_cases c4 : r1 < 0
      · go_wp2
        go_ret
        exact ⟨⟨_, rfl, by omega, by omega, fun h => by omega⟩, HB2.out.lo⟩
      · go_wp2
        go_ret
        refine ⟨⟨_, rfl, by omega, by omega, fun h => ?_⟩, HB2.out.lo⟩
        have eHP0 := HP0.out (by omega)
        have eHP1 := HP1.out (by omega)
        simp only [wFn]
        omega
set_option maxHeartbeats 2000000 in
theorem szSFn_any (l : List C.Fn) {v : Value} (m : Int) (w : World) (hl : 0 ≤ m) (hl2 : m ≤ 1048576) (hx : OkFnS l) (k0 : SFnA w v l) :
    Calls Tryz.prog 14 #[v, .int .i64 m] w (SzEnd m (wSFn l l.length) w) := by
  have HX := hid hx.2
  have hN := small hx.1
  have HK := hid k0
  obtain ⟨ad, cap, rfl⟩ := k0.sl
  clear hx k0
  by_cases h1 : m - (l.length : Int) < 0
  · go_enter Tryz.func14, Tryz.ntmps14
    go_wp2
    go_ret
    exact ⟨⟨_, rfl, by omega, by omega, fun h => by omega⟩, Below.refl _ _⟩
  · go_enter Tryz.func14, Tryz.ntmps14
    go_wp2
    go_loopw [1, 5] (fun q i wr => ∃ (j : Nat) (r : Int), j ≤ l.length ∧ i = .int .i64 j ∧ q = .int .i64 r ∧ 0 ≤ r ∧ r ≤ m ∧ (Hid (r + (l.length : Int) + (wSFn l j : Int) = m + (j : Int))) ∧ Below w.heap.size w wr) (fun _ i _ => l.length - (intOf i).toNat)
    case atStart => exact ⟨0, _, Nat.zero_le _, rfl, rfl, by omega, by omega, (by show _ = _; simp [wSFn]), Below.refl _ _⟩
    case round =>
      obtain ⟨j, r, hj, rfl, rfl, hr0, hr1, HS, hbw⟩ := hrel
      have HBW := hid hbw
      clear hbw
      by_cases hlt : j < l.length
      · obtain ⟨a, c, e9, hal, v0, v1, ⟨c0, c1, c2, c3, c4⟩, t0, t1⟩ := (HK.out.next HBW.out).at hlt
        injection e9 with ea en ec
        clear en
        subst ea ec
        obtain ⟨x, hx⟩ : ∃ x, l.getD j C.fn0 = x := ⟨_, rfl⟩
        have HXE := hid hx
        have HOK := hid (HX.out j hlt)
        rw [hx] at HOK c0 c2 c3 t0 t1
        clear hx
        have HT0 := hid t0
        obtain ⟨ae0, ce0, rfl⟩ := t0.sl
        clear t0
        have HT1 := hid t1
        obtain ⟨ae1, ce1, rfl⟩ := t1.sl
        clear t1
        go_wp2_with fail
        refine (szFn_any x _ _ (by omega) (by omega) HOK.out HT0.out HT1.out).mono ?_
        rintro e w1 ⟨⟨r2, rfl, hr3, hr4, hr5⟩, hb1⟩
        have HB1 := hid (HBW.out.trans (hb1.mono HBW.out.size))
        have HR5 := hid hr5
        clear hb1 hr5 c0 c1 c2 c3 c4
        by_cases hs : r2 < 0
        · go_wp2
          go_ret
          exact ⟨⟨-1, rfl, by omega, by omega, fun h => by omega⟩, HB1.out⟩
        · have HS2 : Hid (r2 + (l.length : Int) + (wSFn l (j + 1) : Int) = m + ((j + 1 : Nat) : Int)) := by
            show _ = _
            have := HS.out
            have := HR5.out (by omega)
            simp only [wSFn, HXE.out]
            omega
          go_wp2
          go_roundw
          case rel => exact ⟨j + 1, r2, by omega, by go_num, rfl, by omega, by omega, HS2, HB1.out⟩
          case measure => simp [intOf]; omega
      · obtain rfl : j = l.length := by omega
        go_wp2
        go_ret
        exact ⟨⟨r, rfl, by omega, hr1, fun _ => by have := HS.out; omega⟩, HBW.out⟩
end Go.Proofs.YtfndbnbnimhnaaaGreatDoor.R
/-! Copies. -/
namespace Go.Proofs.YtfndbnbnimhnaaaGreatDoor.R
open Go.RowKit
set_option maxRecDepth 20000
set_option maxHeartbeats 4000000 in
theorem toFn_any (x : C.Fn) {v0 v1 : Value} (w : World) (hx : LoFn x) (k0 : SIntA w v0 x.params) (k1 : SInA w v1 x.ins) :
    Calls Tryz.prog 36 #[.agg #[.string x.name, v0, .int .i64 x.result, .int .i64 x.slots, v1]] w fun e w' => ∃ u0 u1, e = .returned (.agg #[.string x.name, u0, .int .i64 x.result, .int .i64 x.slots, u1]) ∧ SIntR w.heap.size w' u0 x.params ∧ SInR w.heap.size w' u1 x.ins ∧ Below w.heap.size w w' := by
  have K0 := hid k0
  have K1 := hid k1
  obtain ⟨ad0, cp0, rfl⟩ := k0.sl
  obtain ⟨ad1, cp1, rfl⟩ := k1.sl
  clear k0 k1
  have HLO := hid hx
  clear hx
  have HX0 := hid (B3.start w (.cells #[.string x.name, .slice ad0 x.params.length cp0, .int .i64 x.result, .int .i64 x.slots, .slice ad1 x.ins.length cp1] 77) #[.string ⟨#[]⟩, .slice none 0 0, .int .i64 0, .int .i64 0, .slice none 0 0] #[.string ⟨#[]⟩, .slice none 0 0, .int .i64 0, .int .i64 0, .slice none 0 0] 57)
  obtain ⟨W0, hW0⟩ : ∃ W, ((w.alloc (.cells #[.string x.name, .slice ad0 x.params.length cp0, .int .i64 x.result, .int .i64 x.slots, .slice ad1 x.ins.length cp1] 77)).alloc (.cells #[.string ⟨#[]⟩, .slice none 0 0, .int .i64 0, .int .i64 0, .slice none 0 0] 57)).alloc (.cells #[.string ⟨#[]⟩, .slice none 0 0, .int .i64 0, .int .i64 0, .slice none 0 0] 57) = W := ⟨_, rfl⟩
  rw [hW0] at HX0
  have a0_0 : W0.cell? ⟨w.heap.size, 0, none⟩ = some (.string x.name) := row_cell HX0.out.e 0
  have a0_1 : W0.cell? ⟨w.heap.size, 1, none⟩ = some (.slice ad0 x.params.length cp0) := row_cell HX0.out.e 1
  have o0_0 : W0.cell? ⟨w.heap.size + 1 + 1, 0, none⟩ = some (.string ⟨#[]⟩) := row_cell HX0.out.o 0
  have z0_0 : W0.frozen? ⟨w.heap.size + 1 + 1, 0, none⟩ = false := (row_room HX0.out.o (i := 0) (by simp)).2
  go_enter Tryz.func36, Tryz.ntmps36
  go_wp2_with fail
  clear hW0
  have HY0 := hid (HX0.out.set 0 (.string x.name))
  obtain ⟨V0, hV0⟩ : ∃ V, (W0.setCell ⟨w.heap.size + 1 + 1, 0, none⟩ (.string x.name)) = V := ⟨_, rfl⟩
  rw [hV0] at HY0 ⊢
  clear hV0
  clear a0_0 a0_1 o0_0 z0_0 HX0
  refine (toSInt_any x.params V0 HLO.out.1 (K0.out.next HY0.out.lo)).mono ?_
  rintro e w1 ⟨u0, rfl, r0, hb0⟩
  have HRu0 := hid (r0.mono (B' := w.heap.size + 3) HY0.out.sz)
  obtain ⟨gu0, rfl⟩ := r0.sl
  clear r0
  have HX1 := hid (HY0.out.next hb0)
  clear hb0 HY0
  have a1_1 : w1.cell? ⟨w.heap.size, 1, none⟩ = some (.slice ad0 x.params.length cp0) := row_cell HX1.out.e 1
  have a1_2 : w1.cell? ⟨w.heap.size, 2, none⟩ = some (.int .i64 x.result) := row_cell HX1.out.e 2
  have a1_3 : w1.cell? ⟨w.heap.size, 3, none⟩ = some (.int .i64 x.slots) := row_cell HX1.out.e 3
  have a1_4 : w1.cell? ⟨w.heap.size, 4, none⟩ = some (.slice ad1 x.ins.length cp1) := row_cell HX1.out.e 4
  have o1_1 : w1.cell? ⟨w.heap.size + 1 + 1, 1, none⟩ = some (.slice none 0 0) := row_cell HX1.out.o 1
  have z1_1 : w1.frozen? ⟨w.heap.size + 1 + 1, 1, none⟩ = false := (row_room HX1.out.o (i := 1) (by simp)).2
  have o1_2 : w1.cell? ⟨w.heap.size + 1 + 1, 2, none⟩ = some (.int .i64 0) := row_cell HX1.out.o 2
  have z1_2 : w1.frozen? ⟨w.heap.size + 1 + 1, 2, none⟩ = false := (row_room HX1.out.o (i := 2) (by simp)).2
  have o1_3 : w1.cell? ⟨w.heap.size + 1 + 1, 3, none⟩ = some (.int .i64 0) := row_cell HX1.out.o 3
  have z1_3 : w1.frozen? ⟨w.heap.size + 1 + 1, 3, none⟩ = false := (row_room HX1.out.o (i := 3) (by simp)).2
  go_wp2_with fail
  have HY1 := hid (((HX1.out.set 1 (.slice (some ⟨gu0, 0, none⟩) x.params.length x.params.length)).set 2 (.int .i64 x.result)).set 3 (.int .i64 x.slots))
  have HRu0_1 := hid (((HRu0.out.set (b := w.heap.size + 1 + 1) (by omega) 1 (.slice (some ⟨gu0, 0, none⟩) x.params.length x.params.length)).set (b := w.heap.size + 1 + 1) (by omega) 2 (.int .i64 x.result)).set (b := w.heap.size + 1 + 1) (by omega) 3 (.int .i64 x.slots))
  obtain ⟨V1, hV1⟩ : ∃ V, (((w1.setCell ⟨w.heap.size + 1 + 1, 1, none⟩ (.slice (some ⟨gu0, 0, none⟩) x.params.length x.params.length)).setCell ⟨w.heap.size + 1 + 1, 2, none⟩ (.int .i64 x.result)).setCell ⟨w.heap.size + 1 + 1, 3, none⟩ (.int .i64 x.slots)) = V := ⟨_, rfl⟩
  rw [hV1] at HY1 HRu0_1 ⊢
  clear hV1
  clear a1_1 a1_2 a1_3 a1_4 o1_1 z1_1 o1_2 z1_2 o1_3 z1_3 HX1 HRu0
  refine (toSIn_any x.ins V1 HLO.out.2 (K1.out.next HY1.out.lo)).mono ?_
  rintro e w2 ⟨u1, rfl, r1, hb1⟩
  have HRu1 := hid (r1.mono (B' := w.heap.size + 3) HY1.out.sz)
  obtain ⟨gu1, rfl⟩ := r1.sl
  clear r1
  have HX2 := hid (HY1.out.next hb1)
  have HRu0 := hid (HRu0_1.out.next hb1)
  clear HRu0_1
  clear hb1 HY1
  have o2_0 : w2.cell? ⟨w.heap.size + 1 + 1, 0, none⟩ = some (.string x.name) := row_cell HX2.out.o 0
  have y2_0 : w2.cell? ⟨w.heap.size + 1, 0, none⟩ = some (.string ⟨#[]⟩) := row_cell HX2.out.r 0
  have f2_0 : w2.frozen? ⟨w.heap.size + 1, 0, none⟩ = false := (row_room HX2.out.r (i := 0) (by simp)).2
  have o2_1 : w2.cell? ⟨w.heap.size + 1 + 1, 1, none⟩ = some (.slice (some ⟨gu0, 0, none⟩) x.params.length x.params.length) := row_cell HX2.out.o 1
  have y2_1 : w2.cell? ⟨w.heap.size + 1, 1, none⟩ = some (.slice none 0 0) := row_cell HX2.out.r 1
  have f2_1 : w2.frozen? ⟨w.heap.size + 1, 1, none⟩ = false := (row_room HX2.out.r (i := 1) (by simp)).2
  have o2_2 : w2.cell? ⟨w.heap.size + 1 + 1, 2, none⟩ = some (.int .i64 x.result) := row_cell HX2.out.o 2
  have y2_2 : w2.cell? ⟨w.heap.size + 1, 2, none⟩ = some (.int .i64 0) := row_cell HX2.out.r 2
  have f2_2 : w2.frozen? ⟨w.heap.size + 1, 2, none⟩ = false := (row_room HX2.out.r (i := 2) (by simp)).2
  have o2_3 : w2.cell? ⟨w.heap.size + 1 + 1, 3, none⟩ = some (.int .i64 x.slots) := row_cell HX2.out.o 3
  have y2_3 : w2.cell? ⟨w.heap.size + 1, 3, none⟩ = some (.int .i64 0) := row_cell HX2.out.r 3
  have f2_3 : w2.frozen? ⟨w.heap.size + 1, 3, none⟩ = false := (row_room HX2.out.r (i := 3) (by simp)).2
  have o2_4 : w2.cell? ⟨w.heap.size + 1 + 1, 4, none⟩ = some (.slice none 0 0) := row_cell HX2.out.o 4
  have y2_4 : w2.cell? ⟨w.heap.size + 1, 4, none⟩ = some (.slice none 0 0) := row_cell HX2.out.r 4
  have f2_4 : w2.frozen? ⟨w.heap.size + 1, 4, none⟩ = false := (row_room HX2.out.r (i := 4) (by simp)).2
  have z2_4 : w2.frozen? ⟨w.heap.size + 1 + 1, 4, none⟩ = false := (row_room HX2.out.o (i := 4) (by simp)).2
  go_wp2
  refine bodyPost_ret (v := .agg #[.string x.name, .slice (some ⟨gu0, 0, none⟩) x.params.length x.params.length, .int .i64 x.result, .int .i64 x.slots, .slice (some ⟨gu1, 0, none⟩) x.ins.length x.ins.length]) (by simp [results, Tryz.results36, go_sem, y2_0, y2_1, y2_2, y2_3, y2_4]) rfl ⟨_, _, rfl, ?_, ?_, ?_⟩
  · exact ((((((HRu0.out.set (by omega) _ _).set (by omega) _ _).set (by omega) _ _).set (by omega) _ _).set (by omega) _ _).set (by omega) _ _).mono (by omega)
  · exact ((((((HRu1.out.set (by omega) _ _).set (by omega) _ _).set (by omega) _ _).set (by omega) _ _).set (by omega) _ _).set (by omega) _ _).mono (by omega)
  · exact (below_set (below_set (below_set (below_set (below_set (below_set HX2.out.lo _ _ (by omega) _) _ _ (by omega) _) _ _ (by omega) _) _ _ (by omega) _) _ _ (by omega) _) _ _ (by omega) _)
theorem info_Fn : (Tryz.prog.info? 57).map (fun i => (i.zero, i.size, i.bytes)) = some (some (.agg #[.string ⟨#[]⟩, .slice none 0 0, .int .i64 0, .int .i64 0, .slice none 0 0]), 5, 80) := by kernel_rfl
set_option maxHeartbeats 4000000 in
theorem toSFn_any (l : List C.Fn) {v : Value} (w : World) (hx : LoFnS l) (k0 : SFnA w v l) :
    Calls Tryz.prog 17 #[v] w fun e w' => ∃ u, e = .returned u ∧ SFnR w.heap.size w' u l ∧ Below w.heap.size w w' := by
  have HK := hid k0
  have HX := hid hx
  have hN : l.length ≤ 1048576 := hx.1
  obtain ⟨ad, cap, rfl⟩ := k0.sl
  clear hx k0
  obtain ⟨i0, hi, hz0, hz1, hz2⟩ := info_parts info_Fn
  have HHI := hid (And.intro hi (And.intro hz0 (And.intro hz1 hz2)))
  clear hi hz0 hz1
  go_enter Tryz.func17, Tryz.ntmps17
  go_wp2_with (at_make; refine wpList_make_full _ rfl _ _ 27 rfl w.heap.size 57 i0 (.agg #[.string ⟨#[]⟩, .slice none 0 0, .int .i64 0, .int .i64 0, .slice none 0 0]) 5 Tryz.underlying27 HHI.out.1 HHI.out.2.1 HHI.out.2.2.1 _ _ _ _ l.length rfl rfl rfl rfl (by rw [hz2]; omega) (by unfold maxLen; omega) (Nat.le_refl _) ?_; intro w1 o1 g1)
  have HF0 : Hid (SFnF w.heap.size w1 l 0) := by
    obtain ⟨h1, ⟨h2, _⟩ | ⟨g, c, cur, e, _, h4, _, _, h7, _⟩⟩ := o1
    · cases h2
    · cases e
      exact ⟨cur, h4, h7, fun i h => absurd h (Nat.not_lt_zero _)⟩
  have HB0 := hid ((Below.refl w.heap.size w).grown g1 (Nat.le_refl _) (fun q e => by cases e))
  clear o1 g1
  go_loopw [4] (fun i wr => ∃ j : Nat, j ≤ l.length ∧ i = .int .i64 j ∧ SFnF w.heap.size wr l j ∧ Below w.heap.size w wr) (fun i _ => l.length - (intOf i).toNat)
  case atStart => exact ⟨0, Nat.zero_le _, rfl, HF0.out, HB0.out⟩
  case round =>
    obtain ⟨j, hj, rfl, hfi, hbw⟩ := hrel
    have HFI := hid hfi
    have HBW := hid hbw
    have hgl := hfi.lt
    clear hfi hbw
    by_cases hlt : j < l.length
    · obtain ⟨a, c, e9, hal, v0, v1, ⟨c0, c1, c2, c3, c4⟩, t0, t1⟩ := (HK.out.next HBW.out).at hlt
      injection e9 with ea en ec
      clear en
      subst ea ec
      have HLE := hid (HX.out.2 j hlt)
      obtain ⟨x, hx⟩ : ∃ x, l.getD j C.fn0 = x := ⟨_, rfl⟩
      have HXE := hid hx
      rw [hx] at HLE c0 c2 c3 t0 t1
      clear hx
      have HT0 := hid t0
      obtain ⟨ae0, ce0, rfl⟩ := t0.sl
      clear t0
      have HT1 := hid t1
      obtain ⟨ae1, ce1, rfl⟩ := t1.sl
      clear t1
      go_wp2_with fail
      refine (toFn_any x _ HLE.out HT0.out HT1.out).mono ?_
      rintro e w2 ⟨u0, u1, rfl, s0, s1, hb2⟩
      have HF2 := hid (HFI.out.keep fun i hi hl => hb2.block i hl)
      have HFX := hid (HF2.out.step hlt (by rw [HXE.out]; exact s0.mono (by omega)) (by rw [HXE.out]; exact s1.mono (by omega)))
      rw [HXE.out] at HFX
      obtain ⟨gq0, rfl⟩ := s0.sl
      clear s0
      obtain ⟨gq1, rfl⟩ := s1.sl
      clear s1
      obtain ⟨⟨w_0, x0⟩, y0⟩ := HF2.out.room (i := j * 5) (by omega)
      obtain ⟨⟨w_1, x1⟩, y1⟩ := HF2.out.room (i := j * 5 + 1) (by omega)
      obtain ⟨⟨w_2, x2⟩, y2⟩ := HF2.out.room (i := j * 5 + 2) (by omega)
      obtain ⟨⟨w_3, x3⟩, y3⟩ := HF2.out.room (i := j * 5 + 3) (by omega)
      obtain ⟨⟨w_4, x4⟩, y4⟩ := HF2.out.room (i := j * 5 + 4) (by omega)
      have HBX := hid (HBW.out.trans (hb2.mono HBW.out.size))
      clear hb2 c0 c1 c2 c3 c4
      go_wp2
      go_roundw
      case rel => exact ⟨j + 1, by omega, by go_num, HFX.out, (below_set (below_set (below_set (below_set (below_set HBX.out _ _ (Nat.le_refl _) _) _ _ (Nat.le_refl _) _) _ _ (Nat.le_refl _) _) _ _ (Nat.le_refl _) _) _ _ (Nat.le_refl _) _)⟩
      case measure => simp [intOf]; omega
    · obtain rfl : j = l.length := by omega
      go_wp2
      go_ret
      exact ⟨_, rfl, ⟨w.heap.size, rfl, Nat.le_refl _, HFI.out⟩, HBW.out⟩
end Go.Proofs.YtfndbnbnimhnaaaGreatDoor.R
/-! Which instructions have an argument, in the model. -/
namespace Go.Proofs.YtfndbnbnimhnaaaGreatDoor.C
open Go.RowKit
set_option maxRecDepth 20000
def hasA (op : Int) : Bool := decide (op = 1) || decide (op = 2) || decide (op = 3) || inB op 5 12
set_option maxHeartbeats 1000000 in
theorem hasA_any (op : Int) (w : World) : Calls Tryz.prog 35 #[.int .i64 op] w fun e w' => e = .returned (.bool (hasA op)) ∧ w' = w := by
  obtain rfl | rfl | rfl | h : op = 1 ∨ op = 2 ∨ op = 3 ∨ ¬ (op = 1 ∨ op = 2 ∨ op = 3) := by omega
  iterate 3
    · go_enter Tryz.func35, Tryz.ntmps35
      go_wp2
      go_ret
      exact ⟨rfl, rfl⟩
  · have e1 : (op == 1) = false := by simp; omega
    have e2 : (op == 2) = false := by simp; omega
    have e3 : (op == 3) = false := by simp; omega
    have HH : Hid (hasA op = inB op 5 12) := hid (by unfold hasA; simp; omega)
    have HC := hid (fun W => l16In_any op 5 12 W)
    obtain ⟨B, hB⟩ : ∃ B, inB op 5 12 = B := ⟨_, rfl⟩
    rw [hB] at HC HH
    clear h hB
    go_enter Tryz.func35, Tryz.ntmps35
    go_wp2_with (go_at_call 66; refine (HC.out _).mono ?_; rintro e w' ⟨rfl, hw⟩; have hw2 := hw.symm; clear hw; subst hw2)
    go_ret
    exact ⟨ret_bool HH.out.symm, rfl⟩
end Go.Proofs.YtfndbnbnimhnaaaGreatDoor.C
