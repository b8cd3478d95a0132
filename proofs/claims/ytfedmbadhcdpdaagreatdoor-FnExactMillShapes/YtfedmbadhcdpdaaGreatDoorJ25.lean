import Derived.Test.YtfedmbadhcdpdaaGreatDoorJ24
/-! What is wrong with a code whatever lies where, in the model. -/
namespace Go.Proofs.YtfedmbadhcdpdaaGreatDoor.C
open Go.RowKit
set_option maxRecDepth 20000
/-- What a code that came in has by its types. -/
structure CodeS (fns : List Fn) : Prop where
  names : ∀ j, j < fns.length → (fns.getD j fn0).name.size ≤ maxLen
  nums : ∀ j, j < fns.length → ∀ p, p < (fns.getD j fn0).ins.length → -9223372036854775808 ≤ ((fns.getD j fn0).ins.getD p in0).n ∧ ((fns.getD j fn0).ins.getD p in0).n ≤ 9223372036854775807
def PlainEnd (fns : List Fn) (w : World) (e : Ending) (w' : World) : Prop := ∃ c k i : Nat, e = .returned (.tuple #[.int .i64 c, .int .i64 k, .int .i64 i]) ∧ Plain fns c k i ∧ Below w.heap.size w w'
structure PX (w : World) (cv : Value) (W : World) : Prop where
  lo : Below w.heap.size w W
  e0 : W.heap[w.heap.size]? = some (.cells #[cv] 30)
theorem PX.next {w : World} {cv : Value} {W V : World} (h : PX w cv W) (hb : Below W.heap.size W V) : PX w cv V := ⟨h.lo.trans (hb.mono h.lo.size), hp_next h.e0 hb⟩
theorem PX.start (w : World) (cv : Value) : PX w cv (w.alloc (.cells #[cv] 30)) := ⟨(Below.refl _ _).alloc (Nat.le_refl _) _, heap_alloc_new _ _⟩
set_option maxHeartbeats 8000000 in
theorem plain_any {fns : List Fn} {w : World} {cv : Value} (h1 : FnsRow w cv fns) (hC : CodeS fns) :
    Calls Tryz.prog 17 #[.agg #[cv]] w (PlainEnd fns w) := by
  have H1 := hid h1
  have HC := hid hC
  obtain ⟨aF, cF, hcv⟩ := h1.sl
  subst hcv
  have hfl : fns.length ≤ 9223372036854775807 := by
    obtain ⟨_, c, e, h2, h3, _⟩ := h1
    unfold maxLen at h3
    omega
  clear h1 hC
  go_enter Tryz.func17, Tryz.ntmps17
  go_upto_region 1 with fail
  have HX := hid (PX.start w (.slice aF fns.length cF))
  obtain ⟨W1, hW1⟩ : ∃ W, w.alloc (.cells #[.slice aF fns.length cF] 30) = W := ⟨_, rfl⟩
  rw [hW1] at HX ⊢
  clear hW1
  have k0 := cx HX.out.e0
  cases hb : inB fns.length 1 60 with
  | false =>
    have HPL : Hid (Plain fns 1 0 0) := hid (.many fun h => by have := inB_iff.2 (show (1 : Int) ≤ (fns.length : Int) ∧ (fns.length : Int) ≤ 60 by omega); rw [hb] at this; cases this)
    go_wp2_with (go_at_call 24; refine (l16In_any _ _ _ _).mono ?_; rintro e w' ⟨rfl, hw⟩; have hw2 := hw.symm; clear hw; subst hw2)
    go_ret3
    exact ⟨1, 0, 0, rfl, HPL.out, HX.out.lo⟩
  | true =>
    have HLEN : Hid (1 ≤ fns.length ∧ fns.length ≤ 60) := hid (by have := inB_iff.1 hb; omega)
    have h60 := HLEN.out.2
    go_wp2_with (go_at_call 24; refine (l16In_any _ _ _ _).mono ?_; rintro e w' ⟨rfl, hw⟩; have hw2 := hw.symm; clear hw; subst hw2)
    clear hb k0
    go_loopw [5] (fun i wr => ∃ j : Nat, j ≤ fns.length ∧ i = .int .i64 j ∧ PX w (.slice aF fns.length cF) wr ∧ ∀ p, p < j → FnOk fns p) (fun i _ => fns.length - (intOf i).toNat)
    case atStart => exact ⟨0, Nat.zero_le _, rfl, HX.out, fun p hp => absurd hp (Nat.not_lt_zero _)⟩
    case round =>
      obtain ⟨j, hj, rfl, hx, hall⟩ := hrel
      have HX2 := hid hx
      have HALL := hid hall
      have k0 := cx hx.e0
      clear hx hall HX
      by_cases hlt : j < fns.length
      · have hlti : (j : Int) < (fns.length : Int) := by omega
        by_cases hok : FnOk fns j
        · have HOK := hid hok
          clear hok
          go_wp2_with (go_at_call 33; refine (fnOk_any (H1.out.next HX2.out.lo) hlt h60 HC.out.names).mono ?_; rintro e w5 ⟨⟨b5, rfl, hb5⟩, hlo5⟩; obtain rfl : b5 = true := hb5.2 HOK.out; have HX5 := hid (HX2.out.next hlo5); clear hb5 hlo5)
          go_roundw
          case rel =>
            refine ⟨j + 1, by omega, by go_num, HX5.out, fun p hp => ?_⟩
            by_cases e : p = j
            · subst e; exact HOK.out
            · exact HALL.out p (by omega)
          case measure => simp [intOf]; omega
        · have HOK := hid hok
          clear hok
          go_wp2_with (go_at_call 33; refine (fnOk_any (H1.out.next HX2.out.lo) hlt h60 HC.out.names).mono ?_; rintro e w5 ⟨⟨b5, rfl, hb5⟩, hlo5⟩; obtain rfl : b5 = false := (Bool.eq_false_iff.2 fun h => HOK.out (hb5.1 h)); have HX5 := hid (HX2.out.next hlo5); clear hb5 hlo5)
          go_ret3
          exact ⟨2, j, 0, rfl, .fn HLEN.out j hlt HALL.out HOK.out, HX5.out.lo⟩
      · obtain rfl : j = fns.length := by omega
        have hge : ¬ ((fns.length : Int) < (fns.length : Int)) := by omega
        go_wp2_with fail
        go_loopw [6] (fun i wr => ∃ j : Nat, j ≤ fns.length ∧ i = .int .i64 j ∧ PX w (.slice aF fns.length cF) wr ∧ ∀ q, q < j → ∀ p, p < (fns.getD q fn0).ins.length → insB fns (fns.getD q fn0) ((fns.getD q fn0).ins.getD p in0) = true) (fun i _ => fns.length - (intOf i).toNat)
        case atStart => exact ⟨0, Nat.zero_le _, rfl, HX2.out, fun p hp => absurd hp (Nat.not_lt_zero _)⟩
        case round =>
          obtain ⟨j, hj, rfl, hx, hins⟩ := hrel
          have HX3 := hid hx
          have HINS := hid hins
          clear hx hins HX2 k0
          have k0 := cx HX3.out.e0
          by_cases hlt : j < fns.length
          · have hlti : (j : Int) < (fns.length : Int) := by omega
            have hFO := HALL.out j hlt
            obtain ⟨gF, cF2, e9, hgF, pv, iv, n0, n1, n2, n3, n4, hpv, hiv⟩ := H1.out.at hlt
            injection e9 with ea en ec
            clear en
            subst ea ec
            have HNU := hid (HC.out.nums j hlt)
            have hsl9 := hFO.slots
            have hin9 := hFO.some_
            obtain ⟨f, hf⟩ : ∃ f, fns.getD j fn0 = f := ⟨_, rfl⟩
            rw [hf] at n0 n2 n3 hpv hiv HNU hsl9 hin9
            have HFE := hid hf
            have HSL : Hid (0 ≤ f.slots ∧ f.slots ≤ 200) := hid (by omega)
            have HP := hid hpv
            have HI := hid hiv
            obtain ⟨aP, cP, rfl⟩ := hpv.sl
            obtain ⟨gI, cI, rfl, hgI, hcI⟩ := hiv.at (show 0 < f.ins.length by omega)
            have HCI := hid hcI
            have HN5 := hid (And.intro n0 (And.intro n1 (And.intro n2 (And.intro n3 n4))))
            clear hf hpv hiv hcI n0 n1 n2 n3 n4 hFO hsl9
            obtain ⟨hi1, hi2⟩ := hin9
            go_wp2_with fail
            go_loopw [7] (fun i wr => ∃ z : Nat, z ≤ f.ins.length ∧ i = .int .i64 z ∧ PX w (.slice (some ⟨gF, 0, none⟩) fns.length cF) wr ∧ ∀ p, p < z → insB fns f (f.ins.getD p in0) = true) (fun i _ => f.ins.length - (intOf i).toNat)
            case atStart => exact ⟨0, Nat.zero_le _, rfl, HX3.out, fun p hp => absurd hp (Nat.not_lt_zero _)⟩
            case round =>
              obtain ⟨z, hz, rfl, hx, hsofar⟩ := hrel
              have HX4 := hid hx
              have HSF := hid hsofar
              clear hx hsofar k0
              have k0 := cx HX4.out.e0
              have HCE : Hid (∀ V, Below wr.heap.size wr V → V.cell? ⟨w.heap.size, 0, none⟩ = some (.slice (some ⟨gF, 0, none⟩) fns.length cF) ∧ V.cell? ⟨gF, j * 5, none⟩ = some (.string f.name) ∧ V.cell? ⟨gF, j * 5 + 1, none⟩ = some (.slice aP f.params.length cP) ∧ V.cell? ⟨gF, j * 5 + 2, none⟩ = some (.int .i64 f.result) ∧ V.cell? ⟨gF, j * 5 + 3, none⟩ = some (.int .i64 f.slots) ∧ V.cell? ⟨gF, j * 5 + 4, none⟩ = some (.slice (some ⟨gI, 0, none⟩) f.ins.length cI)) := hid fun V hV => by
                have hb := (HX4.out.next hV).lo
                obtain ⟨n0, n1, n2, n3, n4⟩ := HN5.out
                exact ⟨cx (HX4.out.next hV).e0, (hb.cell (p := ⟨gF, _, none⟩) hgF).trans n0, (hb.cell (p := ⟨gF, _, none⟩) hgF).trans n1, (hb.cell (p := ⟨gF, _, none⟩) hgF).trans n2, (hb.cell (p := ⟨gF, _, none⟩) hgF).trans n3, (hb.cell (p := ⟨gF, _, none⟩) hgF).trans n4⟩
              obtain ⟨_, n0, n1, n2, n3, n4⟩ := HCE.out wr (Below.refl _ _)
              by_cases hzt : z < f.ins.length
              · have hzi : (z : Int) < (f.ins.length : Int) := by omega
                have HID : Hid (∀ V, Below wr.heap.size wr V → V.cell? ⟨gI, z * 4, none⟩ = some (.int .i64 (f.ins.getD z in0).op) ∧ V.cell? ⟨gI, z * 4 + 1, none⟩ = some (.int .i64 (f.ins.getD z in0).a) ∧ V.cell? ⟨gI, z * 4 + 2, none⟩ = some (.int .i64 (f.ins.getD z in0).n) ∧ V.cell? ⟨gI, z * 4 + 3, none⟩ = some (.string (f.ins.getD z in0).text)) := hid fun V hV => by
                  have hb := (HX4.out.next hV).lo
                  obtain ⟨d0, d1, d2, d3⟩ := HCI.out z hzt
                  exact ⟨(hb.cell (p := ⟨gI, _, none⟩) hgI).trans d0, (hb.cell (p := ⟨gI, _, none⟩) hgI).trans d1, (hb.cell (p := ⟨gI, _, none⟩) hgI).trans d2, (hb.cell (p := ⟨gI, _, none⟩) hgI).trans d3⟩
                have HNZ := hid (HNU.out z hzt)
                obtain ⟨i, hi⟩ : ∃ i, f.ins.getD z in0 = i := ⟨_, rfl⟩
                rw [hi] at HID HNZ
                have HIE := hid hi
                clear hi
                have HCALL : Hid (∀ V, Below wr.heap.size wr V → Calls Tryz.prog 34 #[.agg #[.slice (some ⟨gF, 0, none⟩) fns.length cF], .agg #[.string f.name, .slice aP f.params.length cP, .int .i64 f.result, .int .i64 f.slots, .slice (some ⟨gI, 0, none⟩) f.ins.length cI], .agg #[.int .i64 i.op, .int .i64 i.a, .int .i64 i.n, .string i.text]] V fun e w' => e = .returned (.bool (insB fns f i)) ∧ Below V.heap.size V w') := hid fun V hV => insOk_any (H1.out.next (HX4.out.next hV).lo) (HP.out.next (HX4.out.next hV).lo) (HI.out.next (HX4.out.next hV).lo) HSL.out h60 HNZ.out
                obtain ⟨d0, d1, d2, d3⟩ := HID.out wr (Below.refl _ _)
                cases hv : insB fns f i with
                | false =>
                  rw [hv] at HCALL
                  have HV := hid hv
                  clear hv
                  go_wp2_with fail
                  go_region_held3 (fun V => (V.cell? ⟨w.heap.size, 0, none⟩ = some (.slice (some ⟨gF, 0, none⟩) fns.length cF) ∧ V.cell? ⟨gF, j * 5, none⟩ = some (.string f.name) ∧ V.cell? ⟨gF, j * 5 + 1, none⟩ = some (.slice aP f.params.length cP) ∧ V.cell? ⟨gF, j * 5 + 2, none⟩ = some (.int .i64 f.result) ∧ V.cell? ⟨gF, j * 5 + 3, none⟩ = some (.int .i64 f.slots) ∧ V.cell? ⟨gF, j * 5 + 4, none⟩ = some (.slice (some ⟨gI, 0, none⟩) f.ins.length cI)) ∧ (V.cell? ⟨gI, z * 4, none⟩ = some (.int .i64 i.op) ∧ V.cell? ⟨gI, z * 4 + 1, none⟩ = some (.int .i64 i.a) ∧ V.cell? ⟨gI, z * 4 + 2, none⟩ = some (.int .i64 i.n) ∧ V.cell? ⟨gI, z * 4 + 3, none⟩ = some (.string i.text))) (first | (exact ⟨HCE.out _ (Below.refl _ _).drew, HID.out _ (Below.refl _ _).drew⟩) | (exact ⟨HCE.out _ HB9.out, HID.out _ HB9.out⟩) | go_keep) (first
                    | (go_at_call 34; refine (HCALL.out _ (Below.refl _ _).drew).mono ?_; rintro e w9 ⟨rfl, hb9⟩; have HB9 := hid ((Below.refl wr.heap.size wr).drew.trans hb9); clear hb9) | fail)
                  go_wp2_with fail
                  go_ret3
                  exact ⟨3, j, z, rfl, .ins HLEN.out HALL.out j z hlt (by rw [HFE.out]; exact hzt) HINS.out (by rw [HFE.out]; exact HSF.out) (by rw [HFE.out, HIE.out]; exact HV.out), (HX4.out.next HB9.out).lo⟩
                | true =>
                  rw [hv] at HCALL
                  have HV := hid hv
                  clear hv
                  go_wp2_with fail
                  go_region_held3 (fun V => (V.cell? ⟨w.heap.size, 0, none⟩ = some (.slice (some ⟨gF, 0, none⟩) fns.length cF) ∧ V.cell? ⟨gF, j * 5, none⟩ = some (.string f.name) ∧ V.cell? ⟨gF, j * 5 + 1, none⟩ = some (.slice aP f.params.length cP) ∧ V.cell? ⟨gF, j * 5 + 2, none⟩ = some (.int .i64 f.result) ∧ V.cell? ⟨gF, j * 5 + 3, none⟩ = some (.int .i64 f.slots) ∧ V.cell? ⟨gF, j * 5 + 4, none⟩ = some (.slice (some ⟨gI, 0, none⟩) f.ins.length cI)) ∧ (V.cell? ⟨gI, z * 4, none⟩ = some (.int .i64 i.op) ∧ V.cell? ⟨gI, z * 4 + 1, none⟩ = some (.int .i64 i.a) ∧ V.cell? ⟨gI, z * 4 + 2, none⟩ = some (.int .i64 i.n) ∧ V.cell? ⟨gI, z * 4 + 3, none⟩ = some (.string i.text))) (first | (exact ⟨HCE.out _ (Below.refl _ _).drew, HID.out _ (Below.refl _ _).drew⟩) | (exact ⟨HCE.out _ HB9.out, HID.out _ HB9.out⟩) | go_keep) (first
                    | (go_at_call 34; refine (HCALL.out _ (Below.refl _ _).drew).mono ?_; rintro e w9 ⟨rfl, hb9⟩; have HB9 := hid ((Below.refl wr.heap.size wr).drew.trans hb9); clear hb9) | fail)
                  go_wp2_with fail
                  go_roundw
                  case rel =>
                    refine ⟨z + 1, by omega, by go_num, HX4.out.next HB9.out, fun p hp => ?_⟩
                    by_cases e : p = z
                    · subst e; rw [HIE.out]; exact HV.out
                    · exact HSF.out p (by omega)
                  case measure => simp [intOf]; omega
              · obtain rfl : z = f.ins.length := by omega
                have hge : ¬ ((f.ins.length : Int) < (f.ins.length : Int)) := by omega
                go_wp2_with fail
                go_roundw
                case rel =>
                  refine ⟨j + 1, by omega, by go_num, HX4.out, fun q hq => ?_⟩
                  by_cases e : q = j
                  · subst e; rw [HFE.out]; exact HSF.out
                  · exact HINS.out q (by omega)
                case measure => simp [intOf]; omega
          · obtain rfl : j = fns.length := by omega
            go_wp2_with (go_at_call 35; refine (main_any (H1.out.next HX3.out.lo) h60).mono ?_; rintro e w9 ⟨r, rfl, hcase, hb9⟩; have HB9 := hid ((HX3.out.next hb9).lo); have HCASE := hid hcase; clear hb9 hcase; rcases HCASE.out with ⟨hr, hno⟩ | ⟨jm, hjm, hr, hyes⟩)
            · go_ret3
              exact ⟨4, 0, 0, rfl, .main HLEN.out HALL.out HINS.out hno, HB9.out⟩
            · go_ret3
              exact ⟨0, 0, 0, rfl, .ok HLEN.out HALL.out HINS.out jm hjm hyes, HB9.out⟩
end Go.Proofs.YtfedmbadhcdpdaaGreatDoor.C
