import Derived.Test.YtfndbnbnimhnaaaGreatDoorJ37
import Derived.Test.YtfndbnbnimhnaaaGreatDoorJ38
/-! What is wrong with a code whatever lies where, in the model. -/
namespace Go.Proofs.YtfndbnbnimhnaaaGreatDoor.C
open Go.RowKit
set_option maxRecDepth 20000
/-- What a code that came in has by its types. -/
structure CodeS (fns : List Fn) : Prop where
  names : ∀ j, j < fns.length → (fns.getD j fn0).name.size ≤ maxLen
  nums : ∀ j, j < fns.length → ∀ p, p < (fns.getD j fn0).ins.length → -9223372036854775808 ≤ ((fns.getD j fn0).ins.getD p in0).n ∧ ((fns.getD j fn0).ins.getD p in0).n ≤ 9223372036854775807
def PlainEnd (fns : List Fn) (w : World) (e : Ending) (w' : World) : Prop := ∃ c k i : Nat, e = .returned (.tuple #[.int .i64 c, .int .i64 k, .int .i64 i]) ∧ Plain fns c k i ∧ Below w.heap.size w w'
structure PX (w : World) (cv : Value) (W : World) : Prop where
  lo : Below w.heap.size w W
  e0 : W.heap[w.heap.size]? = some (.cells #[cv] 29)
theorem PX.next {w : World} {cv : Value} {W V : World} (h : PX w cv W) (hb : Below W.heap.size W V) : PX w cv V := ⟨h.lo.trans (hb.mono h.lo.size), hp_next h.e0 hb⟩
theorem PX.start (w : World) (cv : Value) : PX w cv (w.alloc (.cells #[cv] 29)) := ⟨(Below.refl _ _).alloc (Nat.le_refl _) _, heap_alloc_new _ _⟩
set_option maxHeartbeats 8000000 in
theorem plain_any {fns : List Fn} {w : World} {cv : Value} (h1 : FnsRow w cv fns) (hC : CodeS fns) :
    Calls Tryz.prog 63 #[.agg #[cv]] w (PlainEnd fns w) := by
  have H1 := hid h1
  have HC := hid hC
  obtain ⟨aF, cF, hcv⟩ := h1.sl
  subst hcv
  have hfl : fns.length ≤ 9223372036854775807 := by
    obtain ⟨_, c, e, h2, h3, _⟩ := h1
    unfold maxLen at h3
    omega
  clear h1 hC
  go_enter Tryz.func63, Tryz.ntmps63
  go_upto_region 1 with fail
  have HX := hid (PX.start w (.slice aF fns.length cF))
  obtain ⟨W1, hW1⟩ : ∃ W, w.alloc (.cells #[.slice aF fns.length cF] 29) = W := ⟨_, rfl⟩
  rw [hW1] at HX ⊢
  clear hW1
  have k0 := cx HX.out.e0
  cases hb : inB fns.length 1 60 with
  | false =>
    have HPL : Hid (Plain fns 1 0 0) := hid (.many fun h => by have := inB_iff.2 (show (1 : Int) ≤ (fns.length : Int) ∧ (fns.length : Int) ≤ 60 by omega); rw [hb] at this; cases this)
    go_wp2_with (go_at_call 66; refine (l16In_any _ _ _ _).mono ?_; rintro e w' ⟨rfl, hw⟩; have hw2 := hw.symm; clear hw; subst hw2)
    go_ret3
    exact ⟨1, 0, 0, rfl, HPL.out, HX.out.lo⟩
  | true =>
    have HLEN : Hid (1 ≤ fns.length ∧ fns.length ≤ 60) := hid (by have := inB_iff.1 hb; omega)
    have h60 := HLEN.out.2
    go_wp2_with (go_at_call 66; refine (l16In_any _ _ _ _).mono ?_; rintro e w' ⟨rfl, hw⟩; have hw2 := hw.symm; clear hw; subst hw2)
    clear hb k0
    go_loopw [5] (fun i wr => ∃ j : Nat, j ≤ fns.length ∧ i = .int .i64 j ∧ PX w (.slice aF fns.length cF) wr ∧ ∀ p, p < j → FnOk fns p) (fun i _ => fns.length - (intOf i).toNat)
    case atStart => exact ⟨0, Nat.zero_le _, rfl, HX.out, fun p hp => absurd hp (Nat.not_lt_zero _)⟩
    case round =>
      obtain ⟨j, hj, rfl, hx, hall⟩ := hrel
      have HX2 := hid hx
      have HALL := hid hall
      have k0 := cx hx.e0
      clear hx hall HX
      by_cases hlt : j < fns.length
      · have hlti : (j : Int) < (fns.length : Int) := by omega
        by_cases hok : FnOk fns j
        · have HOK := hid hok
          clear hok
          go_wp2_with (go_at_call 86; refine (fnOk_any (H1.out.next HX2.out.lo) hlt h60 HC.out.names).mono ?_; rintro e w5 ⟨⟨b5, rfl, hb5⟩, hlo5⟩; obtain rfl : b5 = true := hb5.2 HOK.out; have HX5 := hid (HX2.out.next hlo5); clear hb5 hlo5)
          go_roundw
          case rel =>
            refine ⟨j + 1, by omega, by go_num, HX5.out, fun p hp => ?_⟩
            by_cases e : p = j
            · subst e; exact HOK.out
            · exact HALL.out p (by omega)
          case measure => simp [intOf]; omega
        · have HOK := hid hok
          clear hok
          go_wp2_with (go_at_call 86; refine (fnOk_any (H1.out.next HX2.out.lo) hlt h60 HC.out.names).mono ?_; rintro e w5 ⟨⟨b5, rfl, hb5⟩, hlo5⟩; obtain rfl : b5 = false := (Bool.eq_false_iff.2 fun h => HOK.out (hb5.1 h)); have HX5 := hid (HX2.out.next hlo5); clear hb5 hlo5)
          go_ret3
          exact ⟨2, j, 0, rfl, .fn HLEN.out j hlt HALL.out HOK.out, HX5.out.lo⟩
      · obtain rfl : j = fns.length := by omega
        have hge : ¬ ((fns.length : Int) < (fns.length : Int)) := by omega
        go_wp2_with fail
        go_loopw [6] (fun i wr => ∃ j : Nat, j ≤ fns.length ∧ i = .int .i64 j ∧ PX w (.slice aF fns.length cF) wr ∧ ∀ q, q < j → ∀ p, p < (fns.getD q fn0).ins.length → insB fns (fns.getD q fn0) ((fns.getD q fn0).ins.getD p in0) = true) (fun i _ => fns.length - (intOf i).toNat)
        case atStart => exact ⟨0, Nat.zero_le _, rfl, HX2.out, fun p hp => absurd hp (Nat.not_lt_zero _)⟩
        case round =>
          obtain ⟨j, hj, rfl, hx, hins⟩ := hrel
          have HX3 := hid hx
          have HINS := hid hins
          clear hx hins HX2 k0
          have k0 := cx HX3.out.e0
          by_cases hlt : j < fns.length
          · have hlti : (j : Int) < (fns.length : Int) := by omega
            have hFO := HALL.out j hlt
            obtain ⟨gF, cF2, e9, hgF, pv, iv, n0, n1, n2, n3, n4, hpv, hiv⟩ := H1.out.at hlt
            injection e9 with ea en ec
            clear en
            subst ea ec
            have HNU := hid (HC.out.nums j hlt)
            have hsl9 := hFO.slots
            have hin9 := hFO.some_
            obtain ⟨f, hf⟩ : ∃ f, fns.getD j fn0 = f := ⟨_, rfl⟩
            rw [hf] at n0 n2 n3 hpv hiv HNU hsl9 hin9
            have HFE := hid hf
            have HSL : Hid (0 ≤ f.slots ∧ f.slots ≤ 200) := hid (by omega)
            have HP := hid hpv
            have HI := hid hiv
            obtain ⟨aP, cP, rfl⟩ := hpv.sl
            obtain ⟨gI, cI, rfl, hgI, hcI⟩ := hiv.at (show 0 < f.ins.length by omega)
            have HCI := hid hcI
            have HN5 := hid (And.intro n0 (And.intro n1 (And.intro n2 (And.intro n3 n4))))
            clear hf hpv hiv hcI n0 n1 n2 n3 n4 hFO hsl9
            obtain ⟨hi1, hi2⟩ := hin9
            go_wp2_with fail
            go_loopw [7] (fun i wr => ∃ z : Nat, z ≤ f.ins.length ∧ i = .int .i64 z ∧ PX w (.slice (some ⟨gF, 0, none⟩) fns.length cF) wr ∧ ∀ p, p < z → insB fns f (f.ins.getD p in0) = true) (fun i _ => f.ins.length - (intOf i).toNat)
            case atStart => exact ⟨0, Nat.zero_le _, rfl, HX3.out, fun p hp => absurd hp (Nat.not_lt_zero _)⟩
            case round =>
              obtain ⟨z, hz, rfl, hx, hsofar⟩ := hrel
              have HX4 := hid hx
              have HSF := hid hsofar
              clear hx hsofar k0
              have k0 := cx HX4.out.e0
              have HCE : Hid (∀ V, Below wr.heap.size wr V → V.cell? ⟨w.heap.size, 0, none⟩ = some (.slice (some ⟨gF, 0, none⟩) fns.length cF) ∧ V.cell? ⟨gF, j * 5, none⟩ = some (.string f.name) ∧ V.cell? ⟨gF, j * 5 + 1, none⟩ = some (.slice aP f.params.length cP) ∧ V.cell? ⟨gF, j * 5 + 2, none⟩ = some (.int .i64 f.result) ∧ V.cell? ⟨gF, j * 5 + 3, none⟩ = some (.int .i64 f.slots) ∧ V.cell? ⟨gF, j * 5 + 4, none⟩ = some (.slice (some ⟨gI, 0, none⟩) f.ins.length cI)) := hid fun V hV => by
                have hb := (HX4.out.next hV).lo
                obtain ⟨n0, n1, n2, n3, n4⟩ := HN5.out
                exact ⟨cx (HX4.out.next hV).e0, (hb.cell (p := ⟨gF, _, none⟩) hgF).trans n0, (hb.cell (p := ⟨gF, _, none⟩) hgF).trans n1, (hb.cell (p := ⟨gF, _, none⟩) hgF).trans n2, (hb.cell (p := ⟨gF, _, none⟩) hgF).trans n3, (hb.cell (p := ⟨gF, _, none⟩) hgF).trans n4⟩
              obtain ⟨_, n0, n1, n2, n3, n4⟩ := HCE.out wr (Below.refl _ _)
              by_cases hzt : z < f.ins.length
              · have hzi : (z : Int) < (f.ins.length : Int) := by omega
                have HID : Hid (∀ V, Below wr.heap.size wr V → V.cell? ⟨gI, z * 4, none⟩ = some (.int .i64 (f.ins.getD z in0).op) ∧ V.cell? ⟨gI, z * 4 + 1, none⟩ = some (.int .i64 (f.ins.getD z in0).a) ∧ V.cell? ⟨gI, z * 4 + 2, none⟩ = some (.int .i64 (f.ins.getD z in0).n) ∧ V.cell? ⟨gI, z * 4 + 3, none⟩ = some (.string (f.ins.getD z in0).text)) := hid fun V hV => by
                  have hb := (HX4.out.next hV).lo
                  obtain ⟨d0, d1, d2, d3⟩ := HCI.out z hzt
                  exact ⟨(hb.cell (p := ⟨gI, _, none⟩) hgI).trans d0, (hb.cell (p := ⟨gI, _, none⟩) hgI).trans d1, (hb.cell (p := ⟨gI, _, none⟩) hgI).trans d2, (hb.cell (p := ⟨gI, _, none⟩) hgI).trans d3⟩
                have HNZ := hid (HNU.out z hzt)
                obtain ⟨i, hi⟩ : ∃ i, f.ins.getD z in0 = i := ⟨_, rfl⟩
                rw [hi] at HID HNZ
                have HIE := hid hi
                clear hi
                have HCALL : Hid (∀ V, Below wr.heap.size wr V → Calls Tryz.prog 87 #[.agg #[.slice (some ⟨gF, 0, none⟩) fns.length cF], .agg #[.string f.name, .slice aP f.params.length cP, .int .i64 f.result, .int .i64 f.slots, .slice (some ⟨gI, 0, none⟩) f.ins.length cI], .agg #[.int .i64 i.op, .int .i64 i.a, .int .i64 i.n, .string i.text]] V fun e w' => e = .returned (.bool (insB fns f i)) ∧ Below V.heap.size V w') := hid fun V hV => insOk_any (H1.out.next (HX4.out.next hV).lo) (HP.out.next (HX4.out.next hV).lo) (HI.out.next (HX4.out.next hV).lo) HSL.out h60 HNZ.out
                obtain ⟨d0, d1, d2, d3⟩ := HID.out wr (Below.refl _ _)
                cases hv : insB fns f i with
                | false =>
                  rw [hv] at HCALL
                  have HV := hid hv
                  clear hv
                  go_wp2_with fail
                  go_region_held3 (fun V => (V.cell? ⟨w.heap.size, 0, none⟩ = some (.slice (some ⟨gF, 0, none⟩) fns.length cF) ∧ V.cell? ⟨gF, j * 5, none⟩ = some (.string f.name) ∧ V.cell? ⟨gF, j * 5 + 1, none⟩ = some (.slice aP f.params.length cP) ∧ V.cell? ⟨gF, j * 5 + 2, none⟩ = some (.int .i64 f.result) ∧ V.cell? ⟨gF, j * 5 + 3, none⟩ = some (.int .i64 f.slots) ∧ V.cell? ⟨gF, j * 5 + 4, none⟩ = some (.slice (some ⟨gI, 0, none⟩) f.ins.length cI)) ∧ (V.cell? ⟨gI, z * 4, none⟩ = some (.int .i64 i.op) ∧ V.cell? ⟨gI, z * 4 + 1, none⟩ = some (.int .i64 i.a) ∧ V.cell? ⟨gI, z * 4 + 2, none⟩ = some (.int .i64 i.n) ∧ V.cell? ⟨gI, z * 4 + 3, none⟩ = some (.string i.text))) (first | (exact ⟨HCE.out _ (Below.refl _ _).drew, HID.out _ (Below.refl _ _).drew⟩) | (exact ⟨HCE.out _ HB9.out, HID.out _ HB9.out⟩) | go_keep) (first
                    | (go_at_call 87; refine (HCALL.out _ (Below.refl _ _).drew).mono ?_; rintro e w9 ⟨rfl, hb9⟩; have HB9 := hid ((Below.refl wr.heap.size wr).drew.trans hb9); clear hb9) | fail)
                  go_wp2_with fail
                  go_ret3
                  exact ⟨3, j, z, rfl, .ins HLEN.out HALL.out j z hlt (by rw [HFE.out]; exact hzt) HINS.out (by rw [HFE.out]; exact HSF.out) (by rw [HFE.out, HIE.out]; exact HV.out), (HX4.out.next HB9.out).lo⟩
                | true =>
                  rw [hv] at HCALL
                  have HV := hid hv
                  clear hv
                  go_wp2_with fail
                  go_region_held3 (fun V => (V.cell? ⟨w.heap.size, 0, none⟩ = some (.slice (some ⟨gF, 0, none⟩) fns.length cF) ∧ V.cell? ⟨gF, j * 5, none⟩ = some (.string f.name) ∧ V.cell? ⟨gF, j * 5 + 1, none⟩ = some (.slice aP f.params.length cP) ∧ V.cell? ⟨gF, j * 5 + 2, none⟩ = some (.int .i64 f.result) ∧ V.cell? ⟨gF, j * 5 + 3, none⟩ = some (.int .i64 f.slots) ∧ V.cell? ⟨gF, j * 5 + 4, none⟩ = some (.slice (some ⟨gI, 0, none⟩) f.ins.length cI)) ∧ (V.cell? ⟨gI, z * 4, none⟩ = some (.int .i64 i.op) ∧ V.cell? ⟨gI, z * 4 + 1, none⟩ = some (.int .i64 i.a) ∧ V.cell? ⟨gI, z * 4 + 2, none⟩ = some (.int .i64 i.n) ∧ V.cell? ⟨gI, z * 4 + 3, none⟩ = some (.string i.text))) (first | (exact ⟨HCE.out _ (Below.refl _ _).drew, HID.out _ (Below.refl _ _).drew⟩) | (exact ⟨HCE.out _ HB9.out, HID.out _ HB9.out⟩) | go_keep) (first
                    | (go_at_call 87; refine (HCALL.out _ (Below.refl _ _).drew).mono ?_; rintro e w9 ⟨rfl, hb9⟩; have HB9 := hid ((Below.refl wr.heap.size wr).drew.trans hb9); clear hb9) | fail)
                  go_wp2_with fail
                  go_roundw
                  case rel =>
                    refine ⟨z + 1, by omega, by go_num, HX4.out.next HB9.out, fun p hp => ?_⟩
                    by_cases e : p = z
                    · subst e; rw [HIE.out]; exact HV.out
                    · exact HSF.out p (by omega)
                  case measure => simp [intOf]; omega
              · obtain rfl : z = f.ins.length := by omega
                have hge : ¬ ((f.ins.length : Int) < (f.ins.length : Int)) := by omega
                go_wp2_with fail
                go_roundw
                case rel =>
                  refine ⟨j + 1, by omega, by go_num, HX4.out, fun q hq => ?_⟩
                  by_cases e : q = j
                  · subst e; rw [HFE.out]; exact HSF.out
                  · exact HINS.out q (by omega)
                case measure => simp [intOf]; omega
          · obtain rfl : j = fns.length := by omega
            go_wp2_with (go_at_call 88; refine (main_any (H1.out.next HX3.out.lo) h60).mono ?_; rintro e w9 ⟨r, rfl, hcase, hb9⟩; have HB9 := hid ((HX3.out.next hb9).lo); have HCASE := hid hcase; clear hb9 hcase; rcases HCASE.out with ⟨hr, hno⟩ | ⟨jm, hjm, hr, hyes⟩)
            · go_ret3
              exact ⟨4, 0, 0, rfl, .main HLEN.out HALL.out HINS.out hno, HB9.out⟩
            · go_ret3
              exact ⟨0, 0, 0, rfl, .ok HLEN.out HALL.out HINS.out jm hjm hyes, HB9.out⟩
end Go.Proofs.YtfndbnbnimhnaaaGreatDoor.C
/-! A place goes on, in the program. -/
namespace Go.Proofs.YtfndbnbnimhnaaaGreatDoor.C
open Go.RowKit
set_option maxRecDepth 20000
theorem desc_len : ∀ {wk : List Nat} {n : Nat}, wk.Pairwise (· > ·) → (∀ q ∈ wk, q < n) → wk.length ≤ n
  | [], _, _, _ => Nat.zero_le _
  | x :: r, n, h, hb => by
    obtain ⟨h1, h2⟩ := List.pairwise_cons.1 h
    have := desc_len (wk := r) (n := x) h2 (fun q hq => h1 q hq)
    have := hb x (by simp)
    simp only [List.length_cons]
    omega
/-- A row of numbers beside the work list. -/
def RowK (W : World) (v : Value) (l : List Int) (ob : Option Nat) : Prop := IntRow W v l ∧ (l = [] ∨ ∃ g c, v = .slice (some ⟨g, 0, none⟩) l.length c ∧ g < W.heap.size ∧ some g ≠ ob)
theorem RowK.keep {W V : World} {v : Value} {l : List Int} {b gL : Nat} {wv wv' : Value} (h : RowK W v l wv.ownBlock) (hc : CK b gL wv.ownBlock W V) (ho : OwnLater W wv wv') {cs cs' : Array Value} {t t' : TypeId} (eb : W.heap[b]? = some (.cells cs t (0, 0))) (eg : W.heap[gL]? = some (.cells cs' t' (0, 0))) (ht : ¬ t = 3) (ht' : ¬ t' = 3) : RowK V v l wv'.ownBlock := by
  obtain ⟨⟨ad, c, e, h1, h2, h3⟩, h4⟩ := h
  rcases h3 with h3 | ⟨g, cur, e1, e2, e3⟩
  · exact ⟨⟨ad, c, e, h1, h2, .inl h3⟩, .inl h3⟩
  · rcases h4 with h4 | ⟨g', c', e4, hg, hob⟩
    · exact ⟨⟨ad, c, e, h1, h2, .inl h4⟩, .inl h4⟩
    · have hgg : g' = g := by
        rw [e, e1] at e4
        injection e4 with e4
        injection e4 with e4
        injection e4 with e4
        exact e4.symm
      subst hgg
      have hk : V.heap[g']? = W.heap[g']? := hc.block g' hg (fun eq => by rw [eq, eb] at e2; simp at e2; exact ht e2.2) (fun eq => by rw [eq, eg] at e2; simp at e2; exact ht' e2.2) hob
      refine ⟨⟨ad, c, e, h1, h2, .inr ⟨g', cur, e1, hk.trans e2, e3⟩⟩, .inr ⟨g', c', e4, Nat.lt_of_lt_of_le hg hc.size, ?_⟩⟩
      rcases ho with h9 | ⟨k, h9, h10⟩
      · rw [h9]; exact hob
      · rw [h9]
        intro h11
        injection h11 with h11
        omega
def GoEnd (fns : List Fn) (f : Fn) (w : World) (b gL : Nat) (cv pv iv : Value) (A : Nat → Sh) (wk : List Nat) (e : Ending) (w' : World) : Prop := e = .returned (.tuple #[]) ∧ ∃ A' wk' wv', SP fns f w b gL cv pv iv A' wk' wv' w' ∧ WInv fns f A' wk' ∧ ((A' = A ∧ wk' = wk) ∨ tot f.S A' f.ins.length < tot f.S A f.ins.length)
/-- What holds while the ways are gone. -/
structure GX (fns : List Fn) (f : Fn) (w : World) (b gL : Nat) (cv pv iv : Value) (A : Nat → Sh) (wk : List Nat) (p z : Nat) (s : Sh) (b4 : Nat) (gv : Value) (i : In) (W : World) : Prop where
  sp : ∃ A3 wk3 wv3, SP fns f w b gL cv pv iv A3 wk3 wv3 W ∧ GInv fns f A3 wk3 p z s ∧ ((A3 = A ∧ wk3 = wk) ∨ tot f.S A3 f.ins.length < tot f.S A f.ins.length) ∧ RowK W gv (nums (goes i p)) wv3.ownBlock
  e4 : W.heap[b4]? = some (lbox (s.st : Nat) (kt s.sl) (kt s.sk))
  n4 : ¬ b4 = gL
theorem go_fresh {fns : List Fn} {f : Fn} {w : World} {b gL : Nat} {cv pv iv : Value} {A : Nat → Sh} {wk : List Nat} {wv gv : Value} {W V : World} {l : List Int} (h : SP fns f w b gL cv pv iv A wk wv W) (_hb : Below W.heap.size W V) (hr : IntRow V gv l) (hf : l = [] ∨ ∃ g c, gv = .slice (some ⟨g, 0, none⟩) l.length c ∧ W.heap.size ≤ g) : l = [] ∨ ∃ g c, gv = .slice (some ⟨g, 0, none⟩) l.length c ∧ g < V.heap.size ∧ some g ≠ wv.ownBlock := by
  rcases hf with hf | ⟨g, c, e, hg⟩
  · exact .inl hf
  · obtain ⟨ad, c', e1, _, _, h3⟩ := hr
    rcases h3 with h3 | ⟨g', cur, e2, e3, _⟩
    · exact .inl h3
    · refine .inr ⟨g, c, e, ?_, fun h9 => ?_⟩
      · rw [e, e2] at e1
        injection e1 with e1
        injection e1 with e1
        injection e1 with e1
        rw [e1]
        exact lt_hp e3
      · have := (h.own.lt g h9.symm).2
        omega
theorem go_step {fns : List Fn} {f : Fn} {w : World} {b gL : Nat} {cv pv iv : Value} {A : Nat → Sh} {wk : List Nat} {p z : Nat} {s : Sh} {b4 : Nat} {gv : Value} {i : In} {W : World} (hx : GX fns f w b gL cv pv iv A wk p z s b4 gv i W) {A3 : Nat → Sh} {wk3 : List Nat} {wv3 : Value} (hp : SP fns f w b gL cv pv iv A3 wk3 wv3 W) (hg : GInv fns f A3 wk3 p z s) (ho : (A3 = A ∧ wk3 = wk) ∨ tot f.S A3 f.ins.length < tot f.S A f.ins.length) (hr : RowK W gv (nums (goes i p)) wv3.ownBlock) {g : Nat} (hgz : (goes (f.ins.getD p in0) p)[z]? = some g) (hgn : g < f.ins.length) {V : World} {wv4 : Value} (hck : CK b gL wv3.ownBlock W V) (hol : OwnLater W wv3 wv4)
    (hc : (join (A3 g) s = A3 g ∧ SP fns f w b gL cv pv iv A3 wk3 wv4 V) ∨ (¬ join (A3 g) s = A3 g ∧ SP fns f w b gL cv pv iv (upd A3 g (join (A3 g) s)) (ins1 wk3 g) wv4 V)) : GX fns f w b gL cv pv iv A wk p (z + 1) s b4 gv i V := by
  obtain ⟨cu, elg, _⟩ := id hp.ly
  have hrk := hr.keep hck hol hp.e elg (by decide) (by decide)
  have hnb : ¬ b4 = b := fun e => by
    have h9 := hx.e4
    rw [e, hp.e] at h9
    simp [lbox] at h9
  have hno : some b4 ≠ wv3.ownBlock := own_neS hp.own (by decide) hx.e4
  have e4 : V.heap[b4]? = some (lbox (s.st : Nat) (kt s.sl) (kt s.sk)) := (hck.block b4 (lt_hp hx.e4) hnb hx.n4 hno).trans hx.e4
  rcases hc with ⟨hj, hs4⟩ | ⟨hj, hs4⟩
  · exact ⟨⟨A3, wk3, wv4, hs4, hg.same hgz hgn hj, ho, hrk⟩, e4, hx.n4⟩
  · obtain ⟨hgu, hlt⟩ := hg.up hgz hgn hj
    refine ⟨⟨_, _, wv4, hs4, hgu, .inr ?_, hrk⟩, e4, hx.n4⟩
    rcases ho with ⟨h1, _⟩ | h1
    · rw [h1] at hlt; rw [h1]; exact hlt
    · exact Nat.lt_trans hlt h1
set_option maxHeartbeats 8000000 in
theorem goOn_any {fns : List Fn} {f : Fn} {w : World} {b gL : Nat} {cv pv iv : Value} {A : Nat → Sh} {wk : List Nat} {wv : Value} {W : World} (hP : SP fns f w b gL cv pv iv A wk wv W) (hG : SG fns f w cv pv iv) {p : Nat} (hp : p < f.ins.length) (hF : ∀ g ∈ fns, FnR fns g) (hf : FnR fns f) (h0 : ¬ (A p).st = 0) (hI : GInv fns f A wk p 0 (behind fns f p (A p))) :
    Calls Tryz.prog 101 #[.pointer (some ⟨b, 0, none⟩), .int .i64 p] W (GoEnd fns f w b gL cv pv iv A wk) := by
  have hIL : f.ins.length ≤ 50000 := hf.some_.2
  have hpi : (p : Int) < (f.ins.length : Int) := by omega
  have HIR : Hid (InsR fns f (f.ins.getD p in0)) := hid (hf.ins _ (by rw [List.getD_eq_getElem?_getD, List.getElem?_eq_getElem hp]; exact List.getElem_mem hp))
  have HLV : Hid (Calls Tryz.prog 102 #[.pointer (some ⟨b, 0, none⟩), .int .i64 p] W (LvEnd fns f p (A p) W)) := hid (leaves_any (hP.ms hG) (hG.en.next hP.lo) hP.ly hp hF hf (hI.low.ok p hp) h0)
  have HP := hid hP
  have HG := hid hG
  have HI := hid hI
  have HS200 : Hid (f.S ≤ 200) := hid (by have := hf.slots; unfold Fn.S; omega)
  obtain ⟨s, hs⟩ : ∃ s, behind fns f p (A p) = s := ⟨_, rfl⟩
  unfold LvEnd at HLV
  rw [hs] at HI HLV
  have HSB := hid hs
  clear hP hG hI hF hf h0 hs
  go_enter Tryz.func101, Tryz.ntmps101
  go_upto_region 1 with (go_at_call 102; refine HLV.out.mono ?_; rintro e W1 ⟨st, u, v, fit, rfl, hft, hff, hb1⟩; have HFT := hid hft; have HFF := hid hff; have HB1 := hid hb1; clear hft hff hb1)
  have HP1 := hid (HP.out.next HB1.out)
  have HAL : Hid (Below W1.heap.size W1 (W1.alloc (lbox (s.st : Nat) (kt s.sl) (kt s.sk)))) := hid ((Below.refl _ _).alloc (Nat.le_refl _) _)
  have E4 : Hid ((W1.alloc (lbox (s.st : Nat) (kt s.sl) (kt s.sk))).heap[W1.heap.size]? = some (lbox (s.st : Nat) (kt s.sl) (kt s.sk))) := hid (heap_alloc_new _ _)
  cases fit with
  | true =>
    have hlv := HFT.out rfl
    unfold lv at hlv
    injection hlv with hlv
    simp at hlv
    obtain ⟨h1, h2, h3⟩ := hlv
    subst h1 h2 h3
    go_upto_region 3 with fail
    have HP2 := hid (HP1.out.next HAL.out)
    obtain ⟨b4, hb4⟩ : ∃ b4, W1.heap.size = b4 := ⟨_, rfl⟩
    have HN4 : Hid (¬ b4 = gL) := hid (by have := HP1.out.ly.lt; omega)
    obtain ⟨W2, hW2⟩ : ∃ W', W1.alloc (lbox (s.st : Nat) (kt s.sl) (kt s.sk)) = W' := ⟨_, rfl⟩
    rw [hW2] at HP2 E4 HAL
    rw [hb4] at E4
    unfold lbox at hW2
    rw [hW2, hb4]
    clear hW2 hb4 HP1 HAL HP HB1 HLV HFT HFF
    have HAF : Hid (Calls Tryz.prog 126 #[.pointer (some ⟨b, 0, none⟩), .int .i64 p] W2 (AftEnd (f.ins.getD p in0) p W2)) := hid (after_fresh (HP2.out.ms HG.out) hp (by omega) HIR.out)
    have HGF := hid (fun q hq => HI.out.good q hq)
    obtain ⟨i, hi⟩ : ∃ i, f.ins.getD p in0 = i := ⟨_, rfl⟩
    rw [hi] at HAF
    have HIE := hid hi
    clear hi
    go_wp2_with (go_at_call 126; refine HAF.out.mono ?_; rintro e W3 ⟨gv, rfl, hgr, hb3, hfr⟩; have HP3 := hid (HP2.out.next hb3); have E43 := hid (hp_next E4.out hb3); have HGX : Hid (GX fns f w b gL cv pv iv A wk p 0 s b4 gv i W3) := hid ⟨⟨A, wk, wv, HP3.out, HI.out, .inl ⟨rfl, rfl⟩, hgr, go_fresh HP2.out hb3 hgr hfr⟩, E43.out, HN4.out⟩; obtain ⟨gad, gc, hgv⟩ := hgr.sl; rw [nums_length] at hgv; subst hgv; clear hgr hb3 hfr)
    have hgl := goes_few i p
    clear HP2 HP3 E4 E43 HAF
    go_loopw [21] (fun ix wr => ∃ z : Nat, z ≤ (goes i p).length ∧ ix = .int .i64 z ∧ GX fns f w b gL cv pv iv A wk p z s b4 (.slice gad (goes i p).length gc) i wr) (fun ix _ => (goes i p).length - (intOf ix).toNat)
    case atStart => exact ⟨0, Nat.zero_le _, rfl, HGX.out⟩
    case round =>
      clear HGX
      obtain ⟨z, hz, rfl, hgx⟩ := hrel
      have HX := hid hgx
      obtain ⟨A3, wk3, wv3, hsp3, hg3, hor3, hrk3⟩ := hgx.sp
      have HP3 := hid hsp3
      have HG3 := hid hg3
      have HOR := hid hor3
      have HRK := hid hrk3
      clear hgx hsp3 hg3 hor3 hrk3
      obtain ⟨x0, x1, x2, _, _, _⟩ := six_l HX.out.e4
      have m6 : wr.cell? ⟨b, 6, none⟩ = some (.slice (some ⟨gL, 0, none⟩) f.ins.length f.ins.length) := (cell_hp HP3.out.e 6).trans rfl
      by_cases hzt : z < (goes i p).length
      · have hzi : (z : Int) < ((goes i p).length : Int) := by omega
        obtain ⟨g, hgz⟩ : ∃ g, (goes i p)[z]? = some g := ⟨_, List.getElem?_eq_getElem hzt⟩
        have HGZ : Hid ((goes (f.ins.getD p in0) p)[z]? = some g) := hid (by rw [HIE.out]; exact hgz)
        obtain ⟨gg, gc2, e9, _, _, hggl, hgc⟩ := HRK.out.1.at (i := z) (by rw [nums_length]; exact hzt)
        injection e9 with e9 en ec
        clear en
        subst e9 ec
        have n0 := hgc z (by rw [nums_length]; exact hzt)
        rw [nums_get hgz] at n0
        clear hgc hgz
        by_cases hgn : g < f.ins.length
        · have hgni : (g : Int) < (f.ins.length : Int) := by omega
          have HCM : Hid (Calls Tryz.prog 100 #[.pointer (some ⟨b, 0, none⟩), .int .i64 g, .agg #[.int .i64 (s.st : Nat), .string (kt s.sl), .string (kt s.sk)]] wr (ComeEnd fns f w b gL cv pv iv A3 wk3 wv3 wr g s)) := hid (come_any HP3.out hgn hIL (HG3.out.low.ok g hgn) HG3.out.src.ok HG3.out.src.st HS200.out HG3.out.desc (fun q hq => (HG3.out.good q hq).1) (by have := desc_len HG3.out.desc (fun q hq => (HG3.out.good q hq).1); omega))
          go_wp2_with (go_at_call 100; refine HCM.out.mono ?_; rintro e W4 ⟨rfl, hck, wv4, hol, hcase⟩; have HNX : Hid (GX fns f w b gL cv pv iv A wk p (z + 1) s b4 (.slice (some ⟨gg, 0, none⟩) (goes i p).length gc) i W4) := hid (go_step HX.out HP3.out HG3.out HOR.out HRK.out HGZ.out hgn hck hol hcase); clear hck hol hcase)
          go_roundw
          case rel => exact ⟨z + 1, by omega, by go_num, HNX.out⟩
          case measure => simp [intOf]; omega
        · have hgni : ¬ (g : Int) < (f.ins.length : Int) := by omega
          go_wp2_with fail
          go_roundw
          case rel => exact ⟨z + 1, by omega, by go_num, ⟨⟨A3, wk3, wv3, HP3.out, HG3.out.out HGZ.out hgn, HOR.out, HRK.out⟩, HX.out.e4, HX.out.n4⟩⟩
          case measure => simp [intOf]; omega
      · obtain rfl : z = (goes i p).length := by omega
        have hge : ¬ (((goes i p).length : Int) < ((goes i p).length : Int)) := by omega
        go_wp2_with fail
        go_end0
        exact ⟨rfl, A3, wk3, wv3, HP3.out, HG3.out.fin (by rw [HIE.out]; exact Nat.le_refl _), HOR.out⟩
  | false =>
    have HTOP := hid (HFF.out.1 rfl)
    go_upto_region 3 with fail
    have HP2 := hid (HP1.out.next HAL.out)
    obtain ⟨b4, hb4⟩ : ∃ b4, W1.heap.size = b4 := ⟨_, rfl⟩
    have HN4 : Hid (¬ b4 = gL) := hid (by have := HP1.out.ly.lt; omega)
    obtain ⟨W2, hW2⟩ : ∃ W', W1.alloc (lbox (s.st : Nat) (kt s.sl) (kt s.sk)) = W' := ⟨_, rfl⟩
    rw [hW2] at HP2 E4 HAL
    rw [hb4] at E4
    unfold lbox at hW2
    have hW2' : W1.alloc (.cells #[.int .i64 2, .string ⟨#[]⟩, .string ⟨#[]⟩] 187) = W2 := by have h9 := hW2; rw [HTOP.out] at h9; exact h9
    rw [hW2', hb4]
    clear hW2'
    clear hW2 hb4 HP1 HAL HP HB1 HLV HFT HFF
    have HAF : Hid (Calls Tryz.prog 126 #[.pointer (some ⟨b, 0, none⟩), .int .i64 p] W2 (AftEnd (f.ins.getD p in0) p W2)) := hid (after_fresh (HP2.out.ms HG.out) hp (by omega) HIR.out)
    have HGF := hid (fun q hq => HI.out.good q hq)
    obtain ⟨i, hi⟩ : ∃ i, f.ins.getD p in0 = i := ⟨_, rfl⟩
    rw [hi] at HAF
    have HIE := hid hi
    clear hi
    go_wp2_with (go_at_call 126; refine HAF.out.mono ?_; rintro e W3 ⟨gv, rfl, hgr, hb3, hfr⟩; have HP3 := hid (HP2.out.next hb3); have E43 := hid (hp_next E4.out hb3); have HGX : Hid (GX fns f w b gL cv pv iv A wk p 0 s b4 gv i W3) := hid ⟨⟨A, wk, wv, HP3.out, HI.out, .inl ⟨rfl, rfl⟩, hgr, go_fresh HP2.out hb3 hgr hfr⟩, E43.out, HN4.out⟩; obtain ⟨gad, gc, hgv⟩ := hgr.sl; rw [nums_length] at hgv; subst hgv; clear hgr hb3 hfr)
    have hgl := goes_few i p
    clear HP2 HP3 E4 E43 HAF
    go_loopw [21] (fun ix wr => ∃ z : Nat, z ≤ (goes i p).length ∧ ix = .int .i64 z ∧ GX fns f w b gL cv pv iv A wk p z s b4 (.slice gad (goes i p).length gc) i wr) (fun ix _ => (goes i p).length - (intOf ix).toNat)
    case atStart => exact ⟨0, Nat.zero_le _, rfl, HGX.out⟩
    case round =>
      clear HGX
      obtain ⟨z, hz, rfl, hgx⟩ := hrel
      have HX := hid hgx
      obtain ⟨A3, wk3, wv3, hsp3, hg3, hor3, hrk3⟩ := hgx.sp
      have HP3 := hid hsp3
      have HG3 := hid hg3
      have HOR := hid hor3
      have HRK := hid hrk3
      clear hgx hsp3 hg3 hor3 hrk3
      obtain ⟨x0, x1, x2, _, _, _⟩ := six_l HX.out.e4
      have m6 : wr.cell? ⟨b, 6, none⟩ = some (.slice (some ⟨gL, 0, none⟩) f.ins.length f.ins.length) := (cell_hp HP3.out.e 6).trans rfl
      by_cases hzt : z < (goes i p).length
      · have hzi : (z : Int) < ((goes i p).length : Int) := by omega
        obtain ⟨g, hgz⟩ : ∃ g, (goes i p)[z]? = some g := ⟨_, List.getElem?_eq_getElem hzt⟩
        have HGZ : Hid ((goes (f.ins.getD p in0) p)[z]? = some g) := hid (by rw [HIE.out]; exact hgz)
        obtain ⟨gg, gc2, e9, _, _, hggl, hgc⟩ := HRK.out.1.at (i := z) (by rw [nums_length]; exact hzt)
        injection e9 with e9 en ec
        clear en
        subst e9 ec
        have n0 := hgc z (by rw [nums_length]; exact hzt)
        rw [nums_get hgz] at n0
        clear hgc hgz
        by_cases hgn : g < f.ins.length
        · have hgni : (g : Int) < (f.ins.length : Int) := by omega
          have HCM : Hid (Calls Tryz.prog 100 #[.pointer (some ⟨b, 0, none⟩), .int .i64 g, .agg #[.int .i64 (s.st : Nat), .string (kt s.sl), .string (kt s.sk)]] wr (ComeEnd fns f w b gL cv pv iv A3 wk3 wv3 wr g s)) := hid (come_any HP3.out hgn hIL (HG3.out.low.ok g hgn) HG3.out.src.ok HG3.out.src.st HS200.out HG3.out.desc (fun q hq => (HG3.out.good q hq).1) (by have := desc_len HG3.out.desc (fun q hq => (HG3.out.good q hq).1); omega))
          go_wp2_with (go_at_call 100; refine HCM.out.mono ?_; rintro e W4 ⟨rfl, hck, wv4, hol, hcase⟩; have HNX : Hid (GX fns f w b gL cv pv iv A wk p (z + 1) s b4 (.slice (some ⟨gg, 0, none⟩) (goes i p).length gc) i W4) := hid (go_step HX.out HP3.out HG3.out HOR.out HRK.out HGZ.out hgn hck hol hcase); clear hck hol hcase)
          go_roundw
          case rel => exact ⟨z + 1, by omega, by go_num, HNX.out⟩
          case measure => simp [intOf]; omega
        · have hgni : ¬ (g : Int) < (f.ins.length : Int) := by omega
          go_wp2_with fail
          go_roundw
          case rel => exact ⟨z + 1, by omega, by go_num, ⟨⟨A3, wk3, wv3, HP3.out, HG3.out.out HGZ.out hgn, HOR.out, HRK.out⟩, HX.out.e4, HX.out.n4⟩⟩
          case measure => simp [intOf]; omega
      · obtain rfl : z = (goes i p).length := by omega
        have hge : ¬ (((goes i p).length : Int) < ((goes i p).length : Int)) := by omega
        go_wp2_with fail
        go_end0
        exact ⟨rfl, A3, wk3, wv3, HP3.out, HG3.out.fin (by rw [HIE.out]; exact Nat.le_refl _), HOR.out⟩
end Go.Proofs.YtfndbnbnimhnaaaGreatDoor.C
