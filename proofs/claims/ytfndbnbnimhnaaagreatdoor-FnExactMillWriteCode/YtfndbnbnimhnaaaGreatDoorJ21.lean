import Derived.OwnWalk
import Derived.Test.YtfndbnbnimhnaaaGreatDoorJ20
import Derived.Test.YtfndbnbnimhnaaaGreatDoorJ13
/-! Copies. -/
namespace Go.Proofs.YtfndbnbnimhnaaaGreatDoor.R
open Go.RowKit
set_option maxRecDepth 20000
theorem info_Int : (Tryz.prog.info? 3).map (fun i => (i.zero, i.size, i.bytes)) = some (some (.int .i64 0), 1, 8) := by kernel_rfl
set_option maxHeartbeats 4000000 in
theorem toSInt_any (l : List Int) {v : Value} (w : World) (hx : l.length ≤ 1048576) (k0 : SIntA w v l) :
    Calls Tryz.prog 67 #[v] w fun e w' => ∃ u, e = .returned u ∧ SIntR w.heap.size w' u l ∧ Below w.heap.size w w' := by
  have HK := hid k0
  have HX := hid hx
  have hN : l.length ≤ 1048576 := hx
  obtain ⟨ad, cap, rfl⟩ := k0.sl
  clear hx k0
  obtain ⟨i0, hi, hz0, hz1, hz2⟩ := info_parts info_Int
  have HHI := hid (And.intro hi (And.intro hz0 (And.intro hz1 hz2)))
  clear hi hz0 hz1
  go_enter Tryz.func67, Tryz.ntmps67
  go_wp2_with (at_make; refine wpList_make_full _ rfl _ _ 54 rfl w.heap.size 3 i0 (.int .i64 0) 1 Tryz.underlying54 HHI.out.1 HHI.out.2.1 HHI.out.2.2.1 _ _ _ _ l.length rfl rfl rfl rfl (by rw [hz2]; omega) (by unfold maxLen; omega) (Nat.le_refl _) ?_; intro w1 o1 g1)
  have HF0 : Hid (SIntF w.heap.size w1 l 0) := by
    obtain ⟨h1, ⟨h2, _⟩ | ⟨g, c, cur, e, _, h4, _, _, h7, _⟩⟩ := o1
    · cases h2
    · cases e
      exact ⟨cur, h4, h7, fun i h => absurd h (Nat.not_lt_zero _)⟩
  have HB0 := hid ((Below.refl w.heap.size w).grown g1 (Nat.le_refl _) (fun q e => by cases e))
  clear o1 g1
  go_loopw [4] (fun i wr => ∃ j : Nat, j ≤ l.length ∧ i = .int .i64 j ∧ SIntF w.heap.size wr l j ∧ Below w.heap.size w wr) (fun i _ => l.length - (intOf i).toNat)
  case atStart => exact ⟨0, Nat.zero_le _, rfl, HF0.out, HB0.out⟩
  case round =>
    obtain ⟨j, hj, rfl, hfi, hbw⟩ := hrel
    have HFI := hid hfi
    have HBW := hid hbw
    have hgl := hfi.lt
    clear hfi hbw
    by_cases hlt : j < l.length
    · obtain ⟨a, c, e9, hal, c0⟩ := (HK.out.next HBW.out).at hlt
      injection e9 with ea en ec
      clear en
      subst ea ec
      have HFX := hid (HFI.out.step hlt)
      obtain ⟨⟨v0, x0⟩, y0⟩ := HFI.out.room (i := j) (by omega)
      obtain ⟨x, hx⟩ : ∃ x, l.getD j 0 = x := ⟨_, rfl⟩
      rw [hx] at c0 HFX
      clear hx
      unfold IntA at c0
      go_wp2
      go_roundw
      case rel => exact ⟨j + 1, by omega, by go_num, HFX.out, below_set HBW.out _ _ (Nat.le_refl _) _⟩
      case measure => simp [intOf]; omega
    · obtain rfl : j = l.length := by omega
      go_wp2
      go_ret
      exact ⟨_, rfl, ⟨w.heap.size, rfl, Nat.le_refl _, HFI.out⟩, HBW.out⟩
end Go.Proofs.YtfndbnbnimhnaaaGreatDoor.R
/-! Sizes. -/
namespace Go.Proofs.YtfndbnbnimhnaaaGreatDoor.R
open Go.RowKit
set_option maxRecDepth 20000
set_option maxHeartbeats 2000000 in
theorem szIn_any (x : C.In) (l : Int) (w : World) (hl : 0 ≤ l) (hl2 : l ≤ 1048576) (hx : OkIn x) :
    Calls Tryz.prog 85 #[.agg #[.int .i64 x.op, .int .i64 x.a, .int .i64 x.n, .string x.text], .int .i64 l] w (SzEnd l (wIn x) w) := by
  have HX := hid hx
  obtain ⟨hx0, hx1, hx2, hx3⟩ := hx
  have HB0 := hid (B1.start w (.cells #[.int .i64 x.op, .int .i64 x.a, .int .i64 x.n, .string x.text] 165))
  have hs_text := small hx3
  by_cases c3 : l - (x.text.size : Int) < 0
  · go_enter Tryz.func85, Tryz.ntmps85
    go_wp2
    go_ret
    exact ⟨⟨_, rfl, by omega, by omega, fun h => by omega⟩, HB0.out.lo⟩
  · go_enter Tryz.func85, Tryz.ntmps85
    go_wp2
    go_ret
    refine ⟨⟨_, rfl, by omega, by omega, fun h => ?_⟩, HB0.out.lo⟩
    simp only [wIn]
    omega
set_option maxHeartbeats 2000000 in
theorem szSIn_any (l : List C.In) {v : Value} (m : Int) (w : World) (hl : 0 ≤ m) (hl2 : m ≤ 1048576) (hx : OkInS l) (k0 : SInA w v l) :
    Calls Tryz.prog 62 #[v, .int .i64 m] w (SzEnd m (wSIn l l.length) w) := by
  have HX := hid hx.2
  have hN := small hx.1
  have HK := hid k0
  obtain ⟨ad, cap, rfl⟩ := k0.sl
  clear hx k0
  by_cases h1 : m - (l.length : Int) < 0
  · go_enter Tryz.func62, Tryz.ntmps62
    go_wp2
    go_ret
    exact ⟨⟨_, rfl, by omega, by omega, fun h => by omega⟩, Below.refl _ _⟩
  · go_enter Tryz.func62, Tryz.ntmps62
    go_wp2
    go_loopw [1, 5] (fun q i wr => ∃ (j : Nat) (r : Int), j ≤ l.length ∧ i = .int .i64 j ∧ q = .int .i64 r ∧ 0 ≤ r ∧ r ≤ m ∧ (Hid (r + (l.length : Int) + (wSIn l j : Int) = m + (j : Int))) ∧ Below w.heap.size w wr) (fun _ i _ => l.length - (intOf i).toNat)
    case atStart => exact ⟨0, _, Nat.zero_le _, rfl, rfl, by omega, by omega, (by show _ = _; simp [wSIn]), Below.refl _ _⟩
    case round =>
      obtain ⟨j, r, hj, rfl, rfl, hr0, hr1, HS, hbw⟩ := hrel
      have HBW := hid hbw
      clear hbw
      by_cases hlt : j < l.length
      · obtain ⟨a, c, e9, hal, ⟨c0, c1, c2, c3⟩⟩ := (HK.out.next HBW.out).at hlt
        injection e9 with ea en ec
        clear en
        subst ea ec
        obtain ⟨x, hx⟩ : ∃ x, l.getD j C.in0 = x := ⟨_, rfl⟩
        have HXE := hid hx
        have HOK := hid (HX.out j hlt)
        rw [hx] at HOK c0 c1 c2 c3
        clear hx
        go_wp2_with fail
        refine (szIn_any x _ _ (by omega) (by omega) HOK.out).mono ?_
        rintro e w1 ⟨⟨r2, rfl, hr3, hr4, hr5⟩, hb1⟩
        have HB1 := hid (HBW.out.trans (hb1.mono HBW.out.size))
        have HR5 := hid hr5
        clear hb1 hr5 c0 c1 c2 c3
        by_cases hs : r2 < 0
        · go_wp2
          go_ret
          exact ⟨⟨-1, rfl, by omega, by omega, fun h => by omega⟩, HB1.out⟩
        · have HS2 : Hid (r2 + (l.length : Int) + (wSIn l (j + 1) : Int) = m + ((j + 1 : Nat) : Int)) := by
            show _ = _
            have := HS.out
            have := HR5.out (by omega)
            simp only [wSIn, HXE.out]
            omega
          go_wp2
          go_roundw
          case rel => exact ⟨j + 1, r2, by omega, by go_num, rfl, by omega, by omega, HS2, HB1.out⟩
          case measure => simp [intOf]; omega
      · obtain rfl : j = l.length := by omega
        go_wp2
        go_ret
        exact ⟨⟨r, rfl, by omega, hr1, fun _ => by have := HS.out; omega⟩, HBW.out⟩
end Go.Proofs.YtfndbnbnimhnaaaGreatDoor.R
/-! Copies. -/
namespace Go.Proofs.YtfndbnbnimhnaaaGreatDoor.R
open Go.RowKit
set_option maxRecDepth 20000
set_option maxHeartbeats 4000000 in
theorem toIn_any (x : C.In) (w : World) :
    Calls Tryz.prog 92 #[.agg #[.int .i64 x.op, .int .i64 x.a, .int .i64 x.n, .string x.text]] w fun e w' => e = .returned (.agg #[.int .i64 x.op, .int .i64 x.a, .int .i64 x.n, .string x.text]) ∧ Below w.heap.size w w' := by
  go_enter Tryz.func92, Tryz.ntmps92
  go_wp2
  refine bodyPost_ret (v := .agg #[.int .i64 x.op, .int .i64 x.a, .int .i64 x.n, .string x.text]) ?_ rfl ⟨rfl, ?_⟩
  · simp [results, Tryz.results92, go_sem]
  · exact (below_two' _ _ _).alloc (by simp; omega) _
theorem info_In : (Tryz.prog.info? 84).map (fun i => (i.zero, i.size, i.bytes)) = some (some (.agg #[.int .i64 0, .int .i64 0, .int .i64 0, .string ⟨#[]⟩]), 4, 40) := by kernel_rfl
set_option maxHeartbeats 4000000 in
theorem toSIn_any (l : List C.In) {v : Value} (w : World) (hx : LoInS l) (k0 : SInA w v l) :
    Calls Tryz.prog 68 #[v] w fun e w' => ∃ u, e = .returned u ∧ SInR w.heap.size w' u l ∧ Below w.heap.size w w' := by
  have HK := hid k0
  have HX := hid hx
  have hN : l.length ≤ 1048576 := hx.1
  obtain ⟨ad, cap, rfl⟩ := k0.sl
  clear hx k0
  obtain ⟨i0, hi, hz0, hz1, hz2⟩ := info_parts info_In
  have HHI := hid (And.intro hi (And.intro hz0 (And.intro hz1 hz2)))
  clear hi hz0 hz1
  go_enter Tryz.func68, Tryz.ntmps68
  go_wp2_with (at_make; refine wpList_make_full _ rfl _ _ 55 rfl w.heap.size 84 i0 (.agg #[.int .i64 0, .int .i64 0, .int .i64 0, .string ⟨#[]⟩]) 4 Tryz.underlying55 HHI.out.1 HHI.out.2.1 HHI.out.2.2.1 _ _ _ _ l.length rfl rfl rfl rfl (by rw [hz2]; omega) (by unfold maxLen; omega) (Nat.le_refl _) ?_; intro w1 o1 g1)
  have HF0 : Hid (SInF w.heap.size w1 l 0) := by
    obtain ⟨h1, ⟨h2, _⟩ | ⟨g, c, cur, e, _, h4, _, _, h7, _⟩⟩ := o1
    · cases h2
    · cases e
      exact ⟨cur, h4, h7, fun i h => absurd h (Nat.not_lt_zero _)⟩
  have HB0 := hid ((Below.refl w.heap.size w).grown g1 (Nat.le_refl _) (fun q e => by cases e))
  clear o1 g1
  go_loopw [4] (fun i wr => ∃ j : Nat, j ≤ l.length ∧ i = .int .i64 j ∧ SInF w.heap.size wr l j ∧ Below w.heap.size w wr) (fun i _ => l.length - (intOf i).toNat)
  case atStart => exact ⟨0, Nat.zero_le _, rfl, HF0.out, HB0.out⟩
  case round =>
    obtain ⟨j, hj, rfl, hfi, hbw⟩ := hrel
    have HFI := hid hfi
    have HBW := hid hbw
    have hgl := hfi.lt
    clear hfi hbw
    by_cases hlt : j < l.length
    · obtain ⟨a, c, e9, hal, ⟨c0, c1, c2, c3⟩⟩ := (HK.out.next HBW.out).at hlt
      injection e9 with ea en ec
      clear en
      subst ea ec
      have HLE := hid (HX.out.2 j hlt)
      obtain ⟨x, hx⟩ : ∃ x, l.getD j C.in0 = x := ⟨_, rfl⟩
      have HXE := hid hx
      rw [hx] at HLE c0 c1 c2 c3
      clear hx
      go_wp2_with fail
      refine (toIn_any x _).mono ?_
      rintro e w2 ⟨rfl, hb2⟩
      have HF2 := hid (HFI.out.keep fun i hi hl => hb2.block i hl)
      have HFX := hid (HF2.out.step hlt)
      rw [HXE.out] at HFX
      obtain ⟨⟨w_0, x0⟩, y0⟩ := HF2.out.room (i := j * 4) (by omega)
      obtain ⟨⟨w_1, x1⟩, y1⟩ := HF2.out.room (i := j * 4 + 1) (by omega)
      obtain ⟨⟨w_2, x2⟩, y2⟩ := HF2.out.room (i := j * 4 + 2) (by omega)
      obtain ⟨⟨w_3, x3⟩, y3⟩ := HF2.out.room (i := j * 4 + 3) (by omega)
      have HBX := hid (HBW.out.trans (hb2.mono HBW.out.size))
      clear hb2 c0 c1 c2 c3
      go_wp2
      go_roundw
      case rel => exact ⟨j + 1, by omega, by go_num, HFX.out, (below_set (below_set (below_set (below_set HBX.out _ _ (Nat.le_refl _) _) _ _ (Nat.le_refl _) _) _ _ (Nat.le_refl _) _) _ _ (Nat.le_refl _) _)⟩
      case measure => simp [intOf]; omega
    · obtain rfl : j = l.length := by omega
      go_wp2
      go_ret
      exact ⟨_, rfl, ⟨w.heap.size, rfl, Nat.le_refl _, HFI.out⟩, HBW.out⟩
end Go.Proofs.YtfndbnbnimhnaaaGreatDoor.R
/-! What an instruction gives, in the model: operation 10. -/
namespace Go.Proofs.YtfndbnbnimhnaaaGreatDoor.C
open Go.RowKit
set_option maxRecDepth 20000
set_option maxHeartbeats 1000000 in
theorem gives_10 (fns : List Fn) (f : Fn) (a : Int) (n : Int) (tx : ByteArray) (sl sk : List Int) (w : World) (cv pv iv av bv : Value) (h1 : FnsRow w cv fns) (h2 : IntRow w pv f.params) (h3 : InsRow w iv f.ins) (h4 : IntRow w av sl) (h5 : IntRow w bv sk) (hn : sk.length ≤ 1000) :
    Calls Tryz.prog 91 #[.agg #[cv], .agg #[.string f.name, pv, .int .i64 f.result, .int .i64 f.slots, iv], .agg #[.int .i64 10, .int .i64 a, .int .i64 n, .string tx], .agg #[.int .i64 1, av, bv]] w (GvEnd fns f ⟨10, a, n, tx⟩ sl sk w) := by
  obtain ⟨adA, cA, rfl⟩ := h4.sl
  obtain ⟨adB, cB, rfl⟩ := h5.sl
  have HX := hid (boxes (i := ⟨10, a, n, tx⟩) h1 h2 h3 h4 h5)
  have HTK : Hid (takesN fns ⟨10, a, n, tx⟩ = 0) := hid (by simp [takesN])
  have HEF : Hid (∀ tk, eff fns f ⟨10, a, n, tx⟩ sl tk = some []) := hid (by intro tk; simp [eff])
  clear h1 h2 h3 h4 h5
  go_enter Tryz.func91, Tryz.ntmps91
  go_upto_region 1 with fail
  obtain ⟨W, hW⟩ : ∃ W, ((((w.alloc (.cells #[cv] 29)).alloc (.cells #[.string f.name, pv, .int .i64 f.result, .int .i64 f.slots, iv] 57)).alloc (.cells #[.int .i64 10, .int .i64 a, .int .i64 n, .string tx] 84)).alloc (.cells #[.int .i64 1, .slice adA sl.length cA, .slice adB sk.length cB] 125)) = W := ⟨_, rfl⟩
  have HX2 : Hid _ := hid (hW ▸ HX.out)
  rw [hW]
  clear hW HX
  have x0 := HX2.out.i0
  have x1 := HX2.out.i1
  have y1 := HX2.out.s1
  have y2 := HX2.out.s2
  go_upto_if 26 with fail
  go_cut [12] (fun v wx => v = .int .i64 (tp sk) ∧ wx = W)
  case first =>
    by_cases hp : 0 < sk.length
    · obtain ⟨g, c, e9, _, _, _, hc⟩ := HX2.out.sk_.at hp
      injection e9 with ea _ ec
      subst ea ec
      have hpi : (0 : Int) < (sk.length : Int) := by omega
      have hwr : IntKind.i64.wrap ((sk.length : Int) - 1) = ((sk.length - 1 : Nat) : Int) := by rw [IntKind.wrap_i64]; omega
      have hlt : ((sk.length - 1 : Nat) : Int) < (sk.length : Int) := by omega
      have hct := hc (sk.length - 1) (by omega)
      rw [tp_at hp] at hct
      clear hc
      go_wp2_with fail
      go_meet
      case rel => exact ⟨rfl, rfl⟩
    · have hpi : ¬ (0 : Int) < (sk.length : Int) := by omega
      have HT := hid (tp_none hp)
      clear hp
      go_wp2_with fail
      go_meet
      case rel => exact ⟨by rw [HT.out], rfl⟩
  case rest =>
    obtain ⟨rfl, rfl⟩ := hcut
    go_upto_if 34 with fail
    go_cut [13] (fun v wx => v = .int .i64 (bw sk) ∧ wx = wc)
    case first =>
      by_cases hp : 1 < sk.length
      · obtain ⟨g, c, e9, _, _, _, hc⟩ := HX2.out.sk_.at (i := 0) (by omega)
        injection e9 with ea _ ec
        subst ea ec
        have hpi : (1 : Int) < (sk.length : Int) := by omega
        have hwr : IntKind.i64.wrap ((sk.length : Int) - 2) = ((sk.length - 2 : Nat) : Int) := by rw [IntKind.wrap_i64]; omega
        have hlt : ((sk.length - 2 : Nat) : Int) < (sk.length : Int) := by omega
        have hct := hc (sk.length - 2) (by omega)
        rw [bw_at hp] at hct
        clear hc
        go_wp2_with fail
        go_meet
        case rel => exact ⟨rfl, rfl⟩
      · have hpi : ¬ (1 : Int) < (sk.length : Int) := by omega
        have HT := hid (bw_none hp)
        clear hp
        go_wp2_with fail
        go_meet
        case rel => exact ⟨by rw [HT.out], rfl⟩
    case rest =>
      obtain ⟨rfl, hwc⟩ := hcut
      subst hwc
      go_wp2
      go_ret3
      exact gv_ok (k := 0) (by first | exact HX2.out.lo.alloc HX2.out.lo.size _ | exact (HX2.out.lo.alloc HX2.out.lo.size _).drew) (by decide) HTK.out.symm (by omega) (HEF.out _) (by first | exact row0 _ | exact (row0 _).next (Below.refl _ _).drew)
end Go.Proofs.YtfndbnbnimhnaaaGreatDoor.C
/-! What an instruction gives, in the model: operation 9. -/
namespace Go.Proofs.YtfndbnbnimhnaaaGreatDoor.C
open Go.RowKit
set_option maxRecDepth 20000
set_option maxHeartbeats 4000000 in
theorem gives_9 (fns : List Fn) (f : Fn) (m : Nat) (n : Int) (tx : ByteArray) (sl sk : List Int) (w : World) (cv pv iv av bv : Value) (h1 : FnsRow w cv fns) (h2 : IntRow w pv f.params) (h3 : InsRow w iv f.ins) (h4 : IntRow w av sl) (h5 : IntRow w bv sk) (hn : sk.length ≤ 1000) (hmn : m < fns.length) (hm : (m : Int) < (fns.length : Int)) (hpl : (fns.getD m fn0).params.length ≤ 8) :
    Calls Tryz.prog 91 #[.agg #[cv], .agg #[.string f.name, pv, .int .i64 f.result, .int .i64 f.slots, iv], .agg #[.int .i64 9, .int .i64 (m : Int), .int .i64 n, .string tx], .agg #[.int .i64 1, av, bv]] w (GvEnd fns f ⟨9, (m : Int), n, tx⟩ sl sk w) := by
  obtain ⟨adA, cA, rfl⟩ := h4.sl
  obtain ⟨adB, cB, rfl⟩ := h5.sl
  have HX := hid (boxes (i := ⟨9, (m : Int), n, tx⟩) h1 h2 h3 h4 h5)
  have HTK : Hid (takesN fns ⟨9, (m : Int), n, tx⟩ = (fns.getD m fn0).params.length) := hid (by simp [takesN])
  have HEF : Hid (∀ tk, eff fns f ⟨9, (m : Int), n, tx⟩ sl tk = whn (tk = (fns.getD m fn0).params) (if (fns.getD m fn0).result = 0 then [] else [(fns.getD m fn0).result])) := hid (by intro tk; simp [eff, whn])
  clear h1 h2 h3 h4 h5
  go_enter Tryz.func91, Tryz.ntmps91
  go_upto_region 1 with fail
  obtain ⟨W, hW⟩ : ∃ W, ((((w.alloc (.cells #[cv] 29)).alloc (.cells #[.string f.name, pv, .int .i64 f.result, .int .i64 f.slots, iv] 57)).alloc (.cells #[.int .i64 9, .int .i64 (m : Int), .int .i64 n, .string tx] 84)).alloc (.cells #[.int .i64 1, .slice adA sl.length cA, .slice adB sk.length cB] 125)) = W := ⟨_, rfl⟩
  have HX2 : Hid _ := hid (hW ▸ HX.out)
  rw [hW]
  clear hW HX
  have x0 := HX2.out.i0
  have x1 := HX2.out.i1
  have y1 := HX2.out.s1
  have y2 := HX2.out.s2
  go_upto_if 26 with fail
  go_cut [12] (fun v wx => v = .int .i64 (tp sk) ∧ wx = W)
  case first =>
    by_cases hp : 0 < sk.length
    · obtain ⟨g, c, e9, _, _, _, hc⟩ := HX2.out.sk_.at hp
      injection e9 with ea _ ec
      subst ea ec
      have hpi : (0 : Int) < (sk.length : Int) := by omega
      have hwr : IntKind.i64.wrap ((sk.length : Int) - 1) = ((sk.length - 1 : Nat) : Int) := by rw [IntKind.wrap_i64]; omega
      have hlt : ((sk.length - 1 : Nat) : Int) < (sk.length : Int) := by omega
      have hct := hc (sk.length - 1) (by omega)
      rw [tp_at hp] at hct
      clear hc
      go_wp2_with fail
      go_meet
      case rel => exact ⟨rfl, rfl⟩
    · have hpi : ¬ (0 : Int) < (sk.length : Int) := by omega
      have HT := hid (tp_none hp)
      clear hp
      go_wp2_with fail
      go_meet
      case rel => exact ⟨by rw [HT.out], rfl⟩
  case rest =>
    obtain ⟨rfl, rfl⟩ := hcut
    go_upto_if 34 with fail
    go_cut [13] (fun v wx => v = .int .i64 (bw sk) ∧ wx = wc)
    case first =>
      by_cases hp : 1 < sk.length
      · obtain ⟨g, c, e9, _, _, _, hc⟩ := HX2.out.sk_.at (i := 0) (by omega)
        injection e9 with ea _ ec
        subst ea ec
        have hpi : (1 : Int) < (sk.length : Int) := by omega
        have hwr : IntKind.i64.wrap ((sk.length : Int) - 2) = ((sk.length - 2 : Nat) : Int) := by rw [IntKind.wrap_i64]; omega
        have hlt : ((sk.length - 2 : Nat) : Int) < (sk.length : Int) := by omega
        have hct := hc (sk.length - 2) (by omega)
        rw [bw_at hp] at hct
        clear hc
        go_wp2_with fail
        go_meet
        case rel => exact ⟨rfl, rfl⟩
      · have hpi : ¬ (1 : Int) < (sk.length : Int) := by omega
        have HT := hid (bw_none hp)
        clear hp
        go_wp2_with fail
        go_meet
        case rel => exact ⟨by rw [HT.out], rfl⟩
    case rest =>
      obtain ⟨rfl, hwc⟩ := hcut
      subst hwc
      obtain ⟨gF, cF, rfl, hgF, pw, jw, d0, d1, d2, d3, d4, d5, d6⟩ := HX2.out.code.at hmn
      obtain ⟨G, hG⟩ : ∃ G, fns.getD m fn0 = G := ⟨_, rfl⟩
      rw [hG] at d0 d2 d3 d5 d6 HTK HEF hpl
      clear hG
      obtain ⟨adP, cP, rfl⟩ := d5.sl
      obtain ⟨adJ, cJ, rfl⟩ := d6.sl
      have z0 := HX2.out.c0
      have HD5 := hid d5
      clear d5 d6
      go_upto_region 32 with fail
      have HBN := hid ((Below.refl wc.heap.size wc).alloc (Nat.le_refl _) (.cells #[.string G.name, .slice adP G.params.length cP, .int .i64 G.result, .int .i64 G.slots, .slice adJ G.ins.length cJ] 57))
      have v1 : (wc.alloc (.cells #[.string G.name, .slice adP G.params.length cP, .int .i64 G.result, .int .i64 G.slots, .slice adJ G.ins.length cJ] 57)).cell? ⟨wc.heap.size, 1, none⟩ = some (.slice adP G.params.length cP) := cell_new_row wc #[.string G.name, .slice adP G.params.length cP, .int .i64 G.result, .int .i64 G.slots, .slice adJ G.ins.length cJ] 57 1
      have v2 : (wc.alloc (.cells #[.string G.name, .slice adP G.params.length cP, .int .i64 G.result, .int .i64 G.slots, .slice adJ G.ins.length cJ] 57)).cell? ⟨wc.heap.size, 2, none⟩ = some (.int .i64 G.result) := cell_new_row wc #[.string G.name, .slice adP G.params.length cP, .int .i64 G.result, .int .i64 G.slots, .slice adJ G.ins.length cJ] 57 2
      have hwz : wc.heap.size < (wc.alloc (.cells #[.string G.name, .slice adP G.params.length cP, .int .i64 G.result, .int .i64 G.slots, .slice adJ G.ins.length cJ] 57)).heap.size := by simp
      have HX3 := hid (HX2.out.next HBN.out)
      have HP3 := hid (HD5.out.next HBN.out)
      obtain ⟨V, hV⟩ : ∃ V, wc.alloc (.cells #[.string G.name, .slice adP G.params.length cP, .int .i64 G.result, .int .i64 G.slots, .slice adJ G.ins.length cJ] 57) = V := ⟨_, rfl⟩
      rw [hV] at v1 v2 HX3 HP3 hwz ⊢
      clear hV HBN HX2 HD5 x0 x1 y1 y2 z0 d0 d1 d2 d3 d4
      obtain ⟨bN, hbN⟩ : ∃ b, wc.heap.size = b := ⟨_, rfl⟩
      rw [hbN] at v1 v2 hwz ⊢
      clear hbN
      by_cases hle : G.params.length ≤ sk.length
      · have hlei : ¬ (sk.length : Int) < (G.params.length : Int) := by omega
        have y2 := HX3.out.s2
        go_wp2_with fail
        go_loopw [21] (fun a wr => ∃ j : Nat, j ≤ G.params.length ∧ a = .int .i64 j ∧ Below V.heap.size V wr ∧ ∀ i, i < j → sk.getD (sk.length - G.params.length + i) 0 = G.params.getD i 0) (fun a _ => G.params.length - (intOf a).toNat)
        case atStart => exact ⟨0, Nat.zero_le _, rfl, Below.refl _ _, fun i hi => absurd hi (Nat.not_lt_zero _)⟩
        case round =>
          obtain ⟨j, hj, rfl, hbr, hsame⟩ := hrel
          have HBR := hid hbr
          have HSM := hid hsame
          have HXB := hid (HX3.out.lo.trans (HBR.out.mono HX3.out.lo.size))
          clear hbr hsame
          by_cases hlt : j < G.params.length
          · have hlti : (j : Int) < (G.params.length : Int) := by omega
            obtain ⟨gS, cS, e9, _, _, hgS, hcS⟩ := (HX3.out.next HBR.out).sk_.at (i := 0) (by omega)
            injection e9 with ea _ ec
            subst ea ec
            obtain ⟨gP, cP2, e9, _, _, hgP, hcP⟩ := (HP3.out.next HBR.out).at (i := j) (by omega)
            injection e9 with ea _ ec
            subst ea ec
            have kS := hcS (sk.length - G.params.length + j) (by omega)
            have kP := hcP j (by omega)
            have y2r := (HX3.out.next HBR.out).s2
            have v1r := (HBR.out.cell (p := ⟨bN, 1, none⟩) hwz).trans v1
            have hw1 : IntKind.i64.wrap ((sk.length : Int) - (G.params.length : Int)) = ((sk.length - G.params.length : Nat) : Int) := by rw [IntKind.wrap_i64]; omega
            have hw2 : IntKind.i64.wrap (((sk.length - G.params.length : Nat) : Int) + (j : Int)) = ((sk.length - G.params.length + j : Nat) : Int) := by rw [IntKind.wrap_i64]; omega
            have hl1 : ((sk.length - G.params.length + j : Nat) : Int) < (sk.length : Int) := by omega
            have hl2 : sk.length - G.params.length + j < sk.length := by omega
            obtain ⟨x, hx⟩ : ∃ x, sk.getD (sk.length - G.params.length + j) 0 = x := ⟨_, rfl⟩
            obtain ⟨y, hy⟩ : ∃ y, G.params.getD j 0 = y := ⟨_, rfl⟩
            rw [hx] at kS
            rw [hy] at kP
            have HXX := hid hx
            have HYY := hid hy
            clear hx hy hcS hcP
            by_cases hxy : x = y
            · subst hxy
              have hxf : (x != x) = false := by simp
              go_wp2_with fail
              go_quiet (fail)
              go_wp2
              go_roundw
              case rel =>
                refine ⟨j + 1, by omega, by go_num, below_drewN HBR.out _, fun i hi => ?_⟩
                by_cases e : i = j
                · subst e; rw [HXX.out, HYY.out]
                · exact HSM.out i (by omega)
              case measure => simp [intOf]; omega
            · have hxf : (x != y) = true := by simpa using hxy
              have HNE := hid hxy
              clear hxy
              go_wp2_with fail
              go_quiet (fail)
              go_wp2
              go_ret3
              refine gv_bad (k := 0) ((below_drewN HXB.out _).alloc (below_drewN HXB.out _).size _) (by decide) (.inl rfl) (fun h => ?_)
              rw [HEF.out, HTK.out]
              refine if_neg fun h9 => HNE.out ?_
              rw [← HXX.out, ← HYY.out]
              exact drop_at h9 j
          · obtain rfl : j = G.params.length := by omega
            have v2r := (HBR.out.cell (p := ⟨bN, 2, none⟩) hwz).trans v2
            have HEND : Hid (eff fns f ⟨9, (m : Int), n, tx⟩ sl (sk.drop (sk.length - takesN fns ⟨9, (m : Int), n, tx⟩)) = some (if G.result = 0 then [] else [G.result])) := hid (by rw [HEF.out, HTK.out]; exact if_pos (drop_eq hle HSM.out))
            by_cases hr0 : G.result = 0
            · have hrf : (G.result == 0) = true := by simpa using hr0
              have HE2 := hid (HEND.out.trans (by rw [if_pos hr0]))
              clear hr0
              go_wp2
              go_ret3
              exact gv_ok (k := G.params.length) (HXB.out.alloc HXB.out.size _) (by omega) HTK.out.symm hle HE2.out (row0 _)
            · have hrf : (G.result == 0) = false := by simpa using hr0
              have HE2 := hid (HEND.out.trans (by rw [if_neg hr0]))
              clear hr0
              go_wp2_with fail
              go_region
              all_goals
                go_wp2
                go_ret3
                exact gv_ok (k := G.params.length) (HXB.out.alloc HXB.out.size _).drew (by omega) HTK.out.symm hle HE2.out ((row1 _ _).next (Below.refl _ _).drew)
      · have hlei : (sk.length : Int) < (G.params.length : Int) := by omega
        go_wp2
        go_ret3
        exact gv_bad (k := 0) (HX3.out.lo.alloc HX3.out.lo.size _) (by decide) (.inl rfl) (fun h => by rw [HTK.out] at h; omega)
end Go.Proofs.YtfndbnbnimhnaaaGreatDoor.C
