import Derived.Laws.StructEq
import Derived.Test.YtcjgcipacfcjnaaGreatDoorJ24
import Derived.Test.YtcjgcipacfcjnaaGreatDoorJ25
namespace Go.Proofs.YtcjgcipacfcjnaaGreatDoor.C
open Go.RowKit
set_option maxRecDepth 20000
theorem isIns_any (t : Int) (w : World) :
  Calls Tryz.prog 106 #[.int .i64 t] w fun e w' => e = .returned (.bool (decide (1 ≤ t) && decide (t ≤ 16))) ∧ w' = w := by
 go_enter Tryz.func106, Tryz.ntmps106
 go_wp2
 all_goals go_ret
 all_goals exact ⟨ret_bool (by rw [Bool.eq_iff_iff]; simp; try omega), rfl⟩
structure IRX (f : Fn) (i : In) (w : World) (pv iv : Value) (W : World) : Prop where
 lo : Below w.heap.size w W
 e0 : W.heap[w.heap.size]? = some (ibox i)
 e1 : W.heap[w.heap.size + 1]? = some (fbox f pv iv)
theorem IRX.next {f : Fn} {i : In} {w : World} {pv iv : Value} {W V : World} (h : IRX f i w pv iv W) (hb : Below W.heap.size W V) : IRX f i w pv iv V := ⟨h.lo.trans (hb.mono h.lo.size), hp_next h.e0 hb, hp_next h.e1 hb⟩
theorem empty_iff (s : ByteArray) : s.toList.isEmpty = decide (s.size = 0) := by
 by_cases h : s.size = 0
 ·rw [Lib.toList_data, V.size_zero h]; rfl
 ·rw [V.notEmpty s (by omega)]; simp [h]
set_option maxHeartbeats 8000000 in
theorem insRight_any {fns : List Fn} {f : Fn} {i : In} {aP aI : Option Addr} {cP cI : Nat} {w : World} (hE : EnvI w) (hsl : 0 ≤ f.slots ∧ f.slots ≤ 200) (hl : fns.length ≤ 60) (hil : f.ins.length ≤ 50000) (hn : -9223372036854775808 ≤ i.n ∧ i.n ≤ 9223372036854775807) :
  Calls Tryz.prog 97 #[inV i, .agg #[.string f.name, .slice aP f.params.length cP, .int .i64 f.result, .int .i64 f.slots, .slice aI f.ins.length cI], .int .i64 fns.length] w fun e w' => e = .returned (.bool (insB fns f i)) ∧ Below w.heap.size w w' := by
 have HE := hid hE
 obtain ⟨op, a, n, tx⟩ := i
 dsimp only at hn
 unfold inV
 dsimp only
 obtain ⟨t0, t1, hlo, hz⟩ := two w (ibox ⟨op, a, n, tx⟩) (fbox f (.slice aP f.params.length cP) (.slice aI f.ins.length cI))
 have HX : Hid (IRX f ⟨op, a, n, tx⟩ w (.slice aP f.params.length cP) (.slice aI f.ins.length cI) ((w.alloc (ibox ⟨op, a, n, tx⟩)).alloc (fbox f (.slice aP f.params.length cP) (.slice aI f.ins.length cI)))) := hid ⟨hlo, t0, t1⟩
 clear t0 t1 hlo hz hE
 go_enter Tryz.func97, Tryz.ntmps97
 go_upto_region 1 with fail
 obtain ⟨W1, hW1⟩ : ∃ W, ((w.alloc (ibox ⟨op, a, n, tx⟩)).alloc (fbox f (.slice aP f.params.length cP) (.slice aI f.ins.length cI))) = W := ⟨_, rfl⟩
 rw [hW1] at HX
 unfold ibox fbox at hW1
 rw [hW1]
 clear hW1
 obtain ⟨j0, j1, j2, j3⟩ := ix HX.out.e0
 dsimp only at j0 j1 j2 j3
 by_cases hop : 1 ≤ op ∧ op ≤ 16
 ·have hb : (decide (1 ≤ op) && decide (op ≤ 16)) = true := by simp [hop.1, hop.2]
  have HIB : Hid (insB fns f ⟨op, a, n, tx⟩ = (aB fns f op a && (if op = 1 then V.validB a n tx else decide (n = 0) && decide (tx.size = 0)))) := hid (by simp [insB, inB, hop.1, hop.2])
  obtain ⟨o, rfl⟩ : ∃ o : Nat, op = o := ⟨op.toNat, by omega⟩
  obtain ⟨q0, q1, q2, q3, q4⟩ := fx HX.out.e1
  have HEN := hid (fun V (hV : Below W1.heap.size W1 V) => ends_any (fns := fns) (f := f) (aP := aP) (aI := aI) (cP := cP) (cI := cI) (o := o) (HE.out.next (HX.out.next hV).lo) (by omega) (by omega) hsl hl hil)
  clear hop
  go_upto_region 3 with (go_at_call 106; refine (isIns_any _ _).mono ?_; rw [hb]; rintro e w' ⟨rfl, hw⟩; have hw2 := hw.symm; clear hw; subst hw2)
  clear hb
  go_upto_region 4 with (go_at_call 119; refine (HEN.out _ (Below.refl _ _)).mono ?_; rintro e W2 ⟨lo, hi, rfl, hab, hb2⟩; have HAB := hid hab; have HX2 := hid (HX.out.next hb2); clear hab hb2)
  clear j0 j1 j2 j3 q0 q1 q2 q3 q4 HEN HX
  obtain ⟨j0, j1, j2, j3⟩ := ix HX2.out.e0
  dsimp only at j0 j1 j2 j3
  by_cases hlo : a < lo
  ·have HF : Hid (insB fns f ⟨(o : Nat), a, n, tx⟩ = false) := hid (by rw [HIB.out, HAB.out]; simp [inB]; intro h; omega)
   go_wp2_with fail
   go_ret
   exact ⟨by rw [HF.out]; rfl, HX2.out.lo⟩
  ·by_cases hhi : a > hi
   ·have HF : Hid (insB fns f ⟨(o : Nat), a, n, tx⟩ = false) := hid (by rw [HIB.out, HAB.out]; simp [inB]; intro _ h; omega)
    have hhi2 : hi < a := hhi
    go_wp2_with fail
    go_ret
    exact ⟨by rw [HF.out]; rfl, HX2.out.lo⟩
   ·have hhi2 : ¬ hi < a := hhi
    have HT : Hid (insB fns f ⟨(o : Nat), a, n, tx⟩ = (if (o : Int) = 1 then V.validB a n tx else decide (n = 0) && decide (tx.size = 0))) := hid (by
     have e : inB a lo hi = true := by simp [inB]; omega
     rw [HIB.out, HAB.out, e, Bool.true_and])
    by_cases h1 : (o : Int) = 1
    ·rw [if_pos h1] at HT
     rw [h1] at j0
     have HVV := hid (V.implVV a n tx hn.1 hn.2 W2)
     unfold V.val at HVV
     clear h1
     go_wp2_with (go_at_call 120; refine HVV.out.mono ?_; rintro e W3 ⟨rfl, hb3⟩; have HB3 := hid (HX2.out.next hb3).lo; clear hb3)
     go_ret
     exact ⟨by rw [HT.out]; rfl, HB3.out⟩
    ·rw [if_neg h1] at HT
     have h1b : ((o : Int) == 1) = false := by simpa using h1
     clear h1
     by_cases hn0 : n = 0
     ·subst hn0
      have HT2 : Hid (insB fns f ⟨(o : Nat), a, 0, tx⟩ = tx.toList.isEmpty) := hid (by rw [HT.out, empty_iff]; simp)
      go_wp2_with fail
      go_ret
      exact ⟨by rw [HT2.out]; rfl, HX2.out.lo⟩
     ·have hnb : (n == 0) = false := by simpa using hn0
      have HF : Hid (decide (n = 0) = false) := hid (by simpa using hn0)
      clear hn0
      go_wp2_with fail
      go_ret
      exact ⟨by rw [HT.out, HF.out]; rfl, HX2.out.lo⟩
 ·have hb : (decide (1 ≤ op) && decide (op ≤ 16)) = false := by
   cases h : (decide (1 ≤ op) && decide (op ≤ 16)) with
   | false => rfl
   | true => simp at h; exact absurd h hop
  have HF : Hid (insB fns f ⟨op, a, n, tx⟩ = false) := hid (by simp [insB, inB, hb])
  clear hop
  go_wp2_with (go_at_call 106; refine (isIns_any _ _).mono ?_; rw [hb]; rintro e w' ⟨rfl, hw⟩; have hw2 := hw.symm; clear hw; subst hw2)
  go_ret
  exact ⟨by rw [HF.out]; rfl, HX.out.lo⟩
structure CodeS (fns : List Fn) : Prop where
 names : ∀ j, j < fns.length → (fns.getD j fn0).name.size ≤ maxLen
 nums : ∀ j, j < fns.length → ∀ p, p < (fns.getD j fn0).ins.length → -9223372036854775808 ≤ ((fns.getD j fn0).ins.getD p in0).n ∧ ((fns.getD j fn0).ins.getD p in0).n ≤ 9223372036854775807
def PlainEnd (fns : List Fn) (w : World) (e : Ending) (w' : World) : Prop := ∃ c k i : Nat, e = .returned (.tuple #[.int .i64 c, .int .i64 k, .int .i64 i]) ∧ Plain fns c k i ∧ Below w.heap.size w w'
structure PX (w : World) (cv : Value) (W : World) : Prop where
 lo : Below w.heap.size w W
 e0 : W.heap[w.heap.size]? = some (.cells #[cv] 29)
theorem PX.next {w : World} {cv : Value} {W V : World} (h : PX w cv W) (hb : Below W.heap.size W V) : PX w cv V := ⟨h.lo.trans (hb.mono h.lo.size), hp_next h.e0 hb⟩
theorem PX.start (w : World) (cv : Value) : PX w cv (w.alloc (.cells #[cv] 29)) := ⟨(Below.refl _ _).alloc (Nat.le_refl _) _, heap_alloc_new _ _⟩
set_option maxHeartbeats 8000000 in
theorem plain_any {fns : List Fn} {w : World} {cv : Value} (h1 : FnsRow w cv fns) (hC : CodeS fns) :
  Calls Tryz.prog 63 #[.agg #[cv]] w (PlainEnd fns w) := by
 have H1 := hid h1
 have HC := hid hC
 obtain ⟨aF, cF, hcv⟩ := h1.sl
 subst hcv
 have hfl : fns.length ≤ 9223372036854775807 := by
  obtain ⟨_, c, e, h2, h3, _⟩ := h1
  unfold maxLen at h3
  omega
 clear h1 hC
 go_enter Tryz.func63, Tryz.ntmps63
 go_upto_region 1 with fail
 have HX := hid (PX.start w (.slice aF fns.length cF))
 obtain ⟨W1, hW1⟩ : ∃ W, w.alloc (.cells #[.slice aF fns.length cF] 29) = W := ⟨_, rfl⟩
 rw [hW1] at HX ⊢
 clear hW1
 have k0 := cx HX.out.e0
 cases hb : inB fns.length 1 60 with
 | false =>
  have HPL : Hid (Plain fns 1 0 0) := hid (.many fun h => by have := inB_iff.2 (show (1 : Int) ≤ (fns.length : Int) ∧ (fns.length : Int) ≤ 60 by omega); rw [hb] at this; cases this)
  go_wp2_with (go_at_call 66; refine (l16In_any _ _ _ _).mono ?_; rintro e w' ⟨rfl, hw⟩; have hw2 := hw.symm; clear hw; subst hw2)
  go_ret3
  exact ⟨1, 0, 0, rfl, HPL.out, HX.out.lo⟩
 | true =>
  have HLEN : Hid (1 ≤ fns.length ∧ fns.length ≤ 60) := hid (by have := inB_iff.1 hb; omega)
  have h60 := HLEN.out.2
  go_wp2_with (go_at_call 66; refine (l16In_any _ _ _ _).mono ?_; rintro e w' ⟨rfl, hw⟩; have hw2 := hw.symm; clear hw; subst hw2)
  clear hb k0
  go_loopw [5] (fun i wr => ∃ j : Nat, j ≤ fns.length ∧ i = .int .i64 j ∧ PX w (.slice aF fns.length cF) wr ∧ ∀ p, p < j → FnOk fns p) (fun i _ => fns.length - (intOf i).toNat)
  case atStart => exact ⟨0, Nat.zero_le _, rfl, HX.out, fun p hp => absurd hp (Nat.not_lt_zero _)⟩
  case round =>
   obtain ⟨j, hj, rfl, hx, hall⟩ := hrel
   have HX2 := hid hx
   have HALL := hid hall
   have k0 := cx hx.e0
   clear hx hall HX
   by_cases hlt : j < fns.length
   ·have hlti : (j : Int) < (fns.length : Int) := by omega
    by_cases hok : FnOk fns j
    ·have HOK := hid hok
     clear hok
     go_wp2_with (go_at_call 86; refine (fnOk_any (H1.out.next HX2.out.lo) hlt h60 HC.out.names).mono ?_; rintro e w5 ⟨⟨b5, rfl, hb5⟩, hlo5⟩; obtain rfl : b5 = true := hb5.2 HOK.out; have HX5 := hid (HX2.out.next hlo5); clear hb5 hlo5)
     go_roundw
     case rel =>
      refine ⟨j + 1, by omega, by go_num, HX5.out, fun p hp => ?_⟩
      by_cases e : p = j
      ·subst e; exact HOK.out
      ·exact HALL.out p (by omega)
     case measure => simp [intOf]; omega
    ·have HOK := hid hok
     clear hok
     go_wp2_with (go_at_call 86; refine (fnOk_any (H1.out.next HX2.out.lo) hlt h60 HC.out.names).mono ?_; rintro e w5 ⟨⟨b5, rfl, hb5⟩, hlo5⟩; obtain rfl : b5 = false := (Bool.eq_false_iff.2 fun h => HOK.out (hb5.1 h)); have HX5 := hid (HX2.out.next hlo5); clear hb5 hlo5)
     go_ret3
     exact ⟨2, j, 0, rfl, .fn HLEN.out j hlt HALL.out HOK.out, HX5.out.lo⟩
   ·obtain rfl : j = fns.length := by omega
    have hge : ¬ ((fns.length : Int) < (fns.length : Int)) := by omega
    go_wp2_with fail
    go_loopw [6] (fun i wr => ∃ j : Nat, j ≤ fns.length ∧ i = .int .i64 j ∧ PX w (.slice aF fns.length cF) wr ∧ ∀ q, q < j → ∀ p, p < (fns.getD q fn0).ins.length → insB fns (fns.getD q fn0) ((fns.getD q fn0).ins.getD p in0) = true) (fun i _ => fns.length - (intOf i).toNat)
    case atStart => exact ⟨0, Nat.zero_le _, rfl, HX2.out, fun p hp => absurd hp (Nat.not_lt_zero _)⟩
    case round =>
     obtain ⟨j, hj, rfl, hx, hins⟩ := hrel
     have HX3 := hid hx
     have HINS := hid hins
     clear hx hins HX2 k0
     have k0 := cx HX3.out.e0
     by_cases hlt : j < fns.length
     ·have hlti : (j : Int) < (fns.length : Int) := by omega
      have hFO := HALL.out j hlt
      obtain ⟨gF, cF2, e9, hgF, pv, iv, n0, n1, n2, n3, n4, hpv, hiv⟩ := H1.out.at hlt
      injection e9 with ea en ec
      clear en
      subst ea ec
      have HNU := hid (HC.out.nums j hlt)
      have hsl9 := hFO.slots
      have hin9 := hFO.some_
      obtain ⟨f, hf⟩ : ∃ f, fns.getD j fn0 = f := ⟨_, rfl⟩
      rw [hf] at n0 n2 n3 hpv hiv HNU hsl9 hin9
      have HFE := hid hf
      have HSL : Hid (0 ≤ f.slots ∧ f.slots ≤ 200) := hid (by omega)
      have HP := hid hpv
      have HI := hid hiv
      obtain ⟨aP, cP, rfl⟩ := hpv.sl
      obtain ⟨gI, cI, rfl, hgI, hcI⟩ := hiv.at (show 0 < f.ins.length by omega)
      have HCI := hid hcI
      have HN5 := hid (And.intro n0 (And.intro n1 (And.intro n2 (And.intro n3 n4))))
      clear hf hpv hiv hcI n0 n1 n2 n3 n4 hFO hsl9
      obtain ⟨hi1, hi2⟩ := hin9
      go_wp2_with fail
      go_loopw [7] (fun i wr => ∃ z : Nat, z ≤ f.ins.length ∧ i = .int .i64 z ∧ PX w (.slice (some ⟨gF, 0, none⟩) fns.length cF) wr ∧ ∀ p, p < z → insB fns f (f.ins.getD p in0) = true) (fun i _ => f.ins.length - (intOf i).toNat)
      case atStart => exact ⟨0, Nat.zero_le _, rfl, HX3.out, fun p hp => absurd hp (Nat.not_lt_zero _)⟩
      case round =>
       obtain ⟨z, hz, rfl, hx, hsofar⟩ := hrel
       have HX4 := hid hx
       have HSF := hid hsofar
       clear hx hsofar k0
       have k0 := cx HX4.out.e0
       have HCE : Hid (∀ V, Below wr.heap.size wr V → V.cell? ⟨w.heap.size, 0, none⟩ = some (.slice (some ⟨gF, 0, none⟩) fns.length cF) ∧ V.cell? ⟨gF, j * 5, none⟩ = some (.string f.name) ∧ V.cell? ⟨gF, j * 5 + 1, none⟩ = some (.slice aP f.params.length cP) ∧ V.cell? ⟨gF, j * 5 + 2, none⟩ = some (.int .i64 f.result) ∧ V.cell? ⟨gF, j * 5 + 3, none⟩ = some (.int .i64 f.slots) ∧ V.cell? ⟨gF, j * 5 + 4, none⟩ = some (.slice (some ⟨gI, 0, none⟩) f.ins.length cI)) := hid fun V hV => by
        have hb := (HX4.out.next hV).lo
        obtain ⟨n0, n1, n2, n3, n4⟩ := HN5.out
        exact ⟨cx (HX4.out.next hV).e0, (hb.cell (p := ⟨gF, _, none⟩) hgF).trans n0, (hb.cell (p := ⟨gF, _, none⟩) hgF).trans n1, (hb.cell (p := ⟨gF, _, none⟩) hgF).trans n2, (hb.cell (p := ⟨gF, _, none⟩) hgF).trans n3, (hb.cell (p := ⟨gF, _, none⟩) hgF).trans n4⟩
       obtain ⟨_, n0, n1, n2, n3, n4⟩ := HCE.out wr (Below.refl _ _)
       by_cases hzt : z < f.ins.length
       ·have hzi : (z : Int) < (f.ins.length : Int) := by omega
        have HID : Hid (∀ V, Below wr.heap.size wr V → V.cell? ⟨gI, z * 4, none⟩ = some (.int .i64 (f.ins.getD z in0).op) ∧ V.cell? ⟨gI, z * 4 + 1, none⟩ = some (.int .i64 (f.ins.getD z in0).a) ∧ V.cell? ⟨gI, z * 4 + 2, none⟩ = some (.int .i64 (f.ins.getD z in0).n) ∧ V.cell? ⟨gI, z * 4 + 3, none⟩ = some (.string (f.ins.getD z in0).text)) := hid fun V hV => by
         have hb := (HX4.out.next hV).lo
         obtain ⟨d0, d1, d2, d3⟩ := HCI.out z hzt
         exact ⟨(hb.cell (p := ⟨gI, _, none⟩) hgI).trans d0, (hb.cell (p := ⟨gI, _, none⟩) hgI).trans d1, (hb.cell (p := ⟨gI, _, none⟩) hgI).trans d2, (hb.cell (p := ⟨gI, _, none⟩) hgI).trans d3⟩
        have HNZ := hid (HNU.out z hzt)
        obtain ⟨i, hi⟩ : ∃ i, f.ins.getD z in0 = i := ⟨_, rfl⟩
        rw [hi] at HID HNZ
        have HIE := hid hi
        clear hi
        have HCALL : Hid (∀ V, Below wr.heap.size wr V → Calls Tryz.prog 87 #[.agg #[.slice (some ⟨gF, 0, none⟩) fns.length cF], .agg #[.string f.name, .slice aP f.params.length cP, .int .i64 f.result, .int .i64 f.slots, .slice (some ⟨gI, 0, none⟩) f.ins.length cI], .agg #[.int .i64 i.op, .int .i64 i.a, .int .i64 i.n, .string i.text]] V fun e w' => e = .returned (.bool (insB fns f i)) ∧ Below V.heap.size V w') := hid fun V hV => insOk_any (H1.out.next (HX4.out.next hV).lo) (HP.out.next (HX4.out.next hV).lo) (HI.out.next (HX4.out.next hV).lo) HSL.out h60 HNZ.out
        obtain ⟨d0, d1, d2, d3⟩ := HID.out wr (Below.refl _ _)
        cases hv : insB fns f i with
        | false =>
         rw [hv] at HCALL
         have HV := hid hv
         clear hv
         go_wp2_with fail
         go_region_held3 (fun V => (V.cell? ⟨w.heap.size, 0, none⟩ = some (.slice (some ⟨gF, 0, none⟩) fns.length cF) ∧ V.cell? ⟨gF, j * 5, none⟩ = some (.string f.name) ∧ V.cell? ⟨gF, j * 5 + 1, none⟩ = some (.slice aP f.params.length cP) ∧ V.cell? ⟨gF, j * 5 + 2, none⟩ = some (.int .i64 f.result) ∧ V.cell? ⟨gF, j * 5 + 3, none⟩ = some (.int .i64 f.slots) ∧ V.cell? ⟨gF, j * 5 + 4, none⟩ = some (.slice (some ⟨gI, 0, none⟩) f.ins.length cI)) ∧ (V.cell? ⟨gI, z * 4, none⟩ = some (.int .i64 i.op) ∧ V.cell? ⟨gI, z * 4 + 1, none⟩ = some (.int .i64 i.a) ∧ V.cell? ⟨gI, z * 4 + 2, none⟩ = some (.int .i64 i.n) ∧ V.cell? ⟨gI, z * 4 + 3, none⟩ = some (.string i.text))) (first | (exact ⟨HCE.out _ (Below.refl _ _).drew, HID.out _ (Below.refl _ _).drew⟩) | (exact ⟨HCE.out _ HB9.out, HID.out _ HB9.out⟩) | go_keep) (first
          | (go_at_call 87; refine (HCALL.out _ (Below.refl _ _).drew).mono ?_; rintro e w9 ⟨rfl, hb9⟩; have HB9 := hid ((Below.refl wr.heap.size wr).drew.trans hb9); clear hb9) | fail)
         go_wp2_with fail
         go_ret3
         exact ⟨3, j, z, rfl, .ins HLEN.out HALL.out j z hlt (by rw [HFE.out]; exact hzt) HINS.out (by rw [HFE.out]; exact HSF.out) (by rw [HFE.out, HIE.out]; exact HV.out), (HX4.out.next HB9.out).lo⟩
        | true =>
         rw [hv] at HCALL
         have HV := hid hv
         clear hv
         go_wp2_with fail
         go_region_held3 (fun V => (V.cell? ⟨w.heap.size, 0, none⟩ = some (.slice (some ⟨gF, 0, none⟩) fns.length cF) ∧ V.cell? ⟨gF, j * 5, none⟩ = some (.string f.name) ∧ V.cell? ⟨gF, j * 5 + 1, none⟩ = some (.slice aP f.params.length cP) ∧ V.cell? ⟨gF, j * 5 + 2, none⟩ = some (.int .i64 f.result) ∧ V.cell? ⟨gF, j * 5 + 3, none⟩ = some (.int .i64 f.slots) ∧ V.cell? ⟨gF, j * 5 + 4, none⟩ = some (.slice (some ⟨gI, 0, none⟩) f.ins.length cI)) ∧ (V.cell? ⟨gI, z * 4, none⟩ = some (.int .i64 i.op) ∧ V.cell? ⟨gI, z * 4 + 1, none⟩ = some (.int .i64 i.a) ∧ V.cell? ⟨gI, z * 4 + 2, none⟩ = some (.int .i64 i.n) ∧ V.cell? ⟨gI, z * 4 + 3, none⟩ = some (.string i.text))) (first | (exact ⟨HCE.out _ (Below.refl _ _).drew, HID.out _ (Below.refl _ _).drew⟩) | (exact ⟨HCE.out _ HB9.out, HID.out _ HB9.out⟩) | go_keep) (first
          | (go_at_call 87; refine (HCALL.out _ (Below.refl _ _).drew).mono ?_; rintro e w9 ⟨rfl, hb9⟩; have HB9 := hid ((Below.refl wr.heap.size wr).drew.trans hb9); clear hb9) | fail)
         go_wp2_with fail
         go_roundw
         case rel =>
          refine ⟨z + 1, by omega, by go_num, HX4.out.next HB9.out, fun p hp => ?_⟩
          by_cases e : p = z
          ·subst e; rw [HIE.out]; exact HV.out
          ·exact HSF.out p (by omega)
         case measure => simp [intOf]; omega
       ·obtain rfl : z = f.ins.length := by omega
        have hge : ¬ ((f.ins.length : Int) < (f.ins.length : Int)) := by omega
        go_wp2_with fail
        go_roundw
        case rel =>
         refine ⟨j + 1, by omega, by go_num, HX4.out, fun q hq => ?_⟩
         by_cases e : q = j
         ·subst e; rw [HFE.out]; exact HSF.out
         ·exact HINS.out q (by omega)
        case measure => simp [intOf]; omega
     ·obtain rfl : j = fns.length := by omega
      go_wp2_with (go_at_call 88; refine (main_any (H1.out.next HX3.out.lo) h60).mono ?_; rintro e w9 ⟨r, rfl, hcase, hb9⟩; have HB9 := hid ((HX3.out.next hb9).lo); have HCASE := hid hcase; clear hb9 hcase; rcases HCASE.out with ⟨hr, hno⟩ | ⟨jm, hjm, hr, hyes⟩)
      ·go_ret3
       exact ⟨4, 0, 0, rfl, .main HLEN.out HALL.out HINS.out hno, HB9.out⟩
      ·go_ret3
       exact ⟨0, 0, 0, rfl, .ok HLEN.out HALL.out HINS.out jm hjm hyes, HB9.out⟩
def eqLB (k k' : Int) (t t' u u' : ByteArray) : Bool := k == k' && t.toList == t'.toList && u.toList == u'.toList
theorem eqL (k k' : Int) (t t' u u' : ByteArray) (w : World) : (Op.equalIn 10000 187 (.agg #[.int .i64 k, .string t, .string u]) (.agg #[.int .i64 k', .string t', .string u'])).run Tryz.prog w = .ok (eqLB k k' t t' u u') w := by
 have u3 := Tryz.underlying3
 have u9 := Tryz.underlying9
 have hS : Tryz.prog.underlying 187 = some (.struct (Tryz.prog.fieldsOf 187)) := by kernel_rfl
 have hp : Tryz.prog.stoodInHeld 187 = false := by kernel_rfl
 rw [show (10000 : Nat) = 9999 + 1 from rfl, run_equalIn_agg w 9999 187 _ _ hS hp]
 simp only [Program.fieldsOf, Tryz.underlying187]
 go_simp
 unfold eqLB
 by_cases h1 : k = k' <;> by_cases h2 : t.toList = t'.toList <;> by_cases h3 : u.toList = u'.toList <;> simp [h1, h2, h3]
theorem eqLBin (k k' : Int) (t t' u u' : ByteArray) (w : World) : (binOp .eql 187 (.agg #[.int .i64 k, .string t, .string u]) (.agg #[.int .i64 k', .string t', .string u'])).run Tryz.prog w = .ok (.bool (eqLB k k' t t' u u')) w := by
 rw [run_eql_struct, eqL]; rfl
theorem eqLB_sh {S : Nat} {a b : Sh} (ha : OkSh S a) (hb : OkSh S b) : eqLB (a.st : Nat) (b.st : Nat) (kt a.sl) (kt b.sl) (kt a.sk) (kt b.sk) = decide (a = b) := by
 rw [Bool.eq_iff_iff, decide_eq_true_iff, ← lv_inj ha hb]
 unfold eqLB
 rw [Bool.and_eq_true, Bool.and_eq_true, str_eq2, str_eq2, beq_iff_eq]
 constructor
 ·rintro ⟨⟨h1, h2⟩, h3⟩; exact ⟨by omega, h2, h3⟩
 ·rintro ⟨h1, h2, h3⟩; exact ⟨⟨by omega, h2⟩, h3⟩
theorem desc_get {wk : List Nat} (h : wk.Pairwise (· > ·)) {p q : Nat} (hp : p < q) (hq : q < wk.length) : wk.getD q 0 < wk.getD p 0 := by
 have h2 := List.pairwise_iff_getElem.1 h p q (by omega) hq hp
 simpa [List.getD_eq_getElem?_getD, hq, show p < wk.length by omega] using h2
theorem nums_getD (wk : List Nat) {q : Nat} (h : q < wk.length) : (nums wk).getD q 0 = (wk.getD q 0 : Int) := by
 unfold nums
 rw [List.getD_eq_getElem?_getD, List.getElem?_map, List.getElem?_eq_getElem h, List.getD_eq_getElem?_getD, List.getElem?_eq_getElem h]
 rfl
theorem wk_lt {wk : List Nat} {n q : Nat} (h : ∀ x ∈ wk, x < n) (hq : q < wk.length) : wk.getD q 0 < n := by
 rw [List.getD_eq_getElem?_getD, List.getElem?_eq_getElem hq]
 exact h _ (List.getElem_mem hq)
theorem filt_split {wk : List Nat} {i g : Nat} (h1 : ∀ q, q < i → g < wk.getD q 0) (h2 : ∀ q, i ≤ q → q < wk.length → wk.getD q 0 ≤ g) (hi : i ≤ wk.length) : wk.filter (fun q => decide (g < q)) = wk.take i ∧ wk.filter (fun q => decide (q < g)) = (wk.drop i).filter (fun q => decide (q < g)) := by
 have ha : ∀ x ∈ wk.take i, g < x := fun x hx => by
  obtain ⟨q, hq, e⟩ := List.getElem_of_mem hx
  have hq2 : q < i := by rw [List.length_take] at hq; omega
  have := h1 q hq2
  rw [List.getElem_take] at e
  have hql : q < wk.length := by omega
  simpa [List.getD_eq_getElem?_getD, hql, e] using this
 have hb : ∀ x ∈ wk.drop i, x ≤ g := fun x hx => by
  obtain ⟨q, hq, e⟩ := List.getElem_of_mem hx
  rw [List.length_drop] at hq
  rw [List.getElem_drop] at e
  have := h2 (i + q) (by omega) (by omega)
  have hql : i + q < wk.length := by omega
  simpa [List.getD_eq_getElem?_getD, hql, e] using this
 constructor
 ·conv => lhs; rw [← List.take_append_drop i wk]
  rw [List.filter_append, List.filter_eq_self.2 (fun x hx => by simpa using ha x hx), List.filter_eq_nil_iff.2 (fun x hx => by have := hb x hx; simp; omega), List.append_nil]
 ·conv => lhs; rw [← List.take_append_drop i wk]
  rw [List.filter_append, List.filter_eq_nil_iff.2 (fun x hx => by have := ha x hx; simp; omega), List.nil_append]
theorem drop_desc {wk : List Nat} (h : wk.Pairwise (· > ·)) {i g : Nat} (hi : i < wk.length) (hg : wk.getD i 0 = g) : wk.drop i = g :: wk.drop (i + 1) ∧ (wk.drop i).filter (fun q => decide (q < g)) = wk.drop (i + 1) := by
 have e1 : wk.drop i = g :: wk.drop (i + 1) := by
  rw [List.drop_eq_getElem_cons hi]
  congr 1
  simpa [List.getD_eq_getElem?_getD, hi] using hg
 refine ⟨e1, ?_⟩
 rw [e1, List.filter_cons]
 simp only [Nat.lt_irrefl, decide_false, Bool.false_eq_true, if_false]
 refine List.filter_eq_self.2 fun x hx => ?_
 obtain ⟨q, hq, e⟩ := List.getElem_of_mem hx
 rw [List.length_drop] at hq
 rw [List.getElem_drop] at e
 have := desc_get h (p := i) (q := i + 1 + q) (by omega) (by omega)
 rw [hg] at this
 have hql : i + 1 + q < wk.length := by omega
 simpa [List.getD_eq_getElem?_getD, hql, e] using this
theorem ins1_in {wk : List Nat} (h : wk.Pairwise (· > ·)) {i g : Nat} (h1 : ∀ q, q < i → g < wk.getD q 0) (h2 : ∀ q, i ≤ q → q < wk.length → wk.getD q 0 ≤ g) (hi : i < wk.length) (hg : wk.getD i 0 = g) : ins1 wk g = wk := by
 obtain ⟨e1, e2⟩ := filt_split h1 h2 (by omega)
 obtain ⟨d1, d2⟩ := drop_desc h hi hg
 unfold ins1
 rw [e1, e2, d2, ← d1, List.take_append_drop]
theorem ins1_new {wk : List Nat} (h : wk.Pairwise (· > ·)) {i g : Nat} (h1 : ∀ q, q < i → g < wk.getD q 0) (h2 : ∀ q, i ≤ q → q < wk.length → wk.getD q 0 ≤ g) (hi : i ≤ wk.length) (hn : ¬ (i < wk.length ∧ wk.getD i 0 = g)) : nums (ins1 wk g) = insAt (nums wk) i g := by
 obtain ⟨e1, e2⟩ := filt_split h1 h2 hi
 have e3 : (wk.drop i).filter (fun q => decide (q < g)) = wk.drop i := List.filter_eq_self.2 fun x hx => by
  obtain ⟨q, hq, e⟩ := List.getElem_of_mem hx
  rw [List.length_drop] at hq
  rw [List.getElem_drop] at e
  have hql : i + q < wk.length := by omega
  have hx2 : wk.getD (i + q) 0 = x := by simpa [List.getD_eq_getElem?_getD, hql] using e
  have a1 := h2 (i + q) (by omega) hql
  have a2 := h2 i (Nat.le_refl _) (by omega)
  have a3 : ¬ wk.getD i 0 = g := fun e => hn ⟨by omega, e⟩
  by_cases hq0 : q = 0
  ·subst hq0
   rw [Nat.add_zero] at hx2
   rw [decide_eq_true_iff]
   omega
  ·have := desc_get h (p := i) (q := i + q) (by omega) hql
   rw [decide_eq_true_iff]
   omega
 unfold ins1 insAt nums
 rw [e1, e2, e3]
 simp [List.map_take, List.map_drop]
structure SP (fns : List Fn) (f : Fn) (w : World) (b gL : Nat) (cv pv iv : Value) (A : Nat → Sh) (wk : List Nat) (wv : Value) (W : World) : Prop where
 lo : Below w.heap.size w W
 e : W.heap[b]? = some (.cells #[cv, .string f.name, pv, .int .i64 f.result, .int .i64 f.slots, iv, .slice (some ⟨gL, 0, none⟩) f.ins.length f.ins.length, wv] 184)
 ly : LyRow W gL f.ins.length A
 own : W.ownsRow w.heap.size 3 1 wv wk.length ((nums wk).map fun x => Value.int .i64 x)
 nb : w.heap.size ≤ b
 ng : w.heap.size ≤ gL
 ne : ¬ b = gL
theorem SP.next {fns : List Fn} {f : Fn} {w : World} {b gL : Nat} {cv pv iv : Value} {A : Nat → Sh} {wk : List Nat} {wv : Value} {W V : World} (h : SP fns f w b gL cv pv iv A wk wv W) (hb : Below W.heap.size W V) : SP fns f w b gL cv pv iv A wk wv V :=
 ⟨h.lo.trans (hb.mono h.lo.size), hp_next h.e hb, h.ly.next hb, own_next h.own hb, h.nb, h.ng, h.ne⟩
structure SG (fns : List Fn) (f : Fn) (w : World) (cv pv iv : Value) : Prop where
 fr : FnsRow w cv fns
 pr : IntRow w pv f.params
 ir : InsRow w iv f.ins
 en : EnvI w
theorem SP.ms {fns : List Fn} {f : Fn} {w : World} {b gL : Nat} {cv pv iv : Value} {A : Nat → Sh} {wk : List Nat} {wv : Value} {W : World} (h : SP fns f w b gL cv pv iv A wk wv W) (g : SG fns f w cv pv iv) : MS fns f b cv pv iv (.slice (some ⟨gL, 0, none⟩) f.ins.length f.ins.length) wv W := ⟨h.e, g.fr.next h.lo, g.pr.next h.lo, g.ir.next h.lo⟩
theorem SP.put {fns : List Fn} {f : Fn} {w : World} {b gL : Nat} {cv pv iv : Value} {A : Nat → Sh} {wk : List Nat} {wv : Value} {W : World} (h : SP fns f w b gL cv pv iv A wk wv W) {i : Nat} (hi : i < f.ins.length) (s : Sh) : SP fns f w b gL cv pv iv (upd A i s) wk wv (((W.setCell ⟨gL, i * 3, none⟩ (.int .i64 (s.st : Nat))).setCell ⟨gL, i * 3 + 1, none⟩ (.string (kt s.sl))).setCell ⟨gL, i * 3 + 2, none⟩ (.string (kt s.sk))) := by
 have hng := h.ng
 refine ⟨set_lo (set_lo (set_lo h.lo _ _ hng _) _ _ hng _) _ _ hng _, by rw [set3_other h.ne]; exact h.e, h.ly.set hi s, ?_, h.nb, h.ng, h.ne⟩
 obtain ⟨h1, h2 | ⟨k, cap, cur, e, hb, hc, r⟩⟩ := h.own
 ·exact ⟨h1, .inl h2⟩
 ·refine ⟨h1, .inr ⟨k, cap, cur, e, hb, ?_, r⟩⟩
  rw [set3_other (fun ek => by
   obtain ⟨cu, e2, _⟩ := h.ly
   rw [ek, e2] at hc
   simp at hc)]
  exact hc
theorem SP.work {fns : List Fn} {f : Fn} {w : World} {b gL : Nat} {cv pv iv : Value} {A : Nat → Sh} {wk wk' : List Nat} {wv wv' : Value} {W V : World} (h : SP fns f w b gL cv pv iv A wk wv W) (hg : W.grownBy V wv.ownBlock) (ho : V.ownsRow w.heap.size 3 1 wv' wk'.length ((nums wk').map fun x => Value.int .i64 x)) : SP fns f w b gL cv pv iv A wk' wv' (V.setCell ⟨b, 7, none⟩ wv') := by
 have hnb := h.nb
 have kb : V.heap[b]? = W.heap[b]? := hg.block b (lt_hp h.e) (own_neS h.own (by decide) h.e)
 have kg : V.heap[gL]? = W.heap[gL]? := by
  obtain ⟨cu, e2, _⟩ := h.ly
  exact hg.block gL h.ly.lt (own_neS h.own (by decide) e2)
 have hlo : Below w.heap.size w V := ⟨hg.os.trans h.lo.os, hg.tape.trans h.lo.tape, hg.output.trans h.lo.output, Nat.le_trans h.lo.size hg.size, fun i hi => (hg.block i (Nat.lt_of_lt_of_le hi h.lo.size) (own_ne h.own hi)).trans (h.lo.block i hi)⟩
 refine ⟨set_lo hlo _ _ hnb _, ?_, h.ly.keep (by rw [set_other _ _ _ _ _ (fun e => h.ne e.symm)]; exact kg), ?_, h.nb, h.ng, h.ne⟩
 ·have e := kb.trans h.e
  unfold World.setCell
  simp only [Array.getElem?_modify, e]
  simp
 ·obtain ⟨h1, h2 | ⟨k, cap, cur, e, hb, hc, r⟩⟩ := ho
  ·exact ⟨h1, .inl h2⟩
  ·refine ⟨h1, .inr ⟨k, cap, cur, e, hb, ?_, r⟩⟩
   rw [set_other _ _ _ _ _ (fun ek => by
    rw [ek, kb, h.e] at hc
    simp at hc)]
   exact hc
theorem SP.box3 {fns : List Fn} {f : Fn} {w : World} {b gL : Nat} {cv pv iv : Value} {A : Nat → Sh} {wk : List Nat} {wv : Value} {W : World} (h : SP fns f w b gL cv pv iv A wk wv W) {g : Nat} {st : Int} {x y : ByteArray} (e : W.heap[g]? = some (lbox st x y)) (hg : w.heap.size ≤ g) (hne : ¬ gL = g) (p q r : Value) : SP fns f w b gL cv pv iv A wk wv (((W.setCell ⟨g, 0, none⟩ p).setCell ⟨g, 1, none⟩ q).setCell ⟨g, 2, none⟩ r) := by
 have hb : ¬ b = g := fun eb => by
  have h9 := h.e
  rw [eb, e] at h9
  simp [lbox] at h9
 refine ⟨set_lo (set_lo (set_lo h.lo _ _ hg _) _ _ hg _) _ _ hg _, by rw [set3_other hb]; exact h.e, h.ly.keep (set3_other hne _ _ _ _ _ _), ?_, h.nb, h.ng, h.ne⟩
 obtain ⟨h1, h2 | ⟨k, cap, cur, ev, hbb, hc, r9⟩⟩ := h.own
 ·exact ⟨h1, .inl h2⟩
 ·refine ⟨h1, .inr ⟨k, cap, cur, ev, hbb, ?_, r9⟩⟩
  rw [set3_other (fun ek => by
   rw [ek, e] at hc
   simp [lbox] at hc)]
  exact hc
structure CK (b gL : Nat) (ob : Option Nat) (W V : World) : Prop where
 size : W.heap.size ≤ V.heap.size
 block : ∀ k, k < W.heap.size → ¬ k = b → ¬ k = gL → some k ≠ ob → V.heap[k]? = W.heap[k]?
theorem CK.of_below {b gL : Nat} {ob : Option Nat} {W V : World} (h : Below W.heap.size W V) : CK b gL ob W V := ⟨h.size, fun k hk _ _ _ => h.block k hk⟩
theorem CK.trans {b gL : Nat} {ob : Option Nat} {U V W : World} (h : CK b gL ob U V) (k : CK b gL ob V W) : CK b gL ob U W := ⟨Nat.le_trans h.size k.size, fun q hq h1 h2 h3 => (k.block q (Nat.lt_of_lt_of_le hq h.size) h1 h2 h3).trans (h.block q hq h1 h2 h3)⟩
theorem CK.of_grown {b gL : Nat} {ob : Option Nat} {W V : World} (h : W.grownBy V ob) : CK b gL ob W V := ⟨h.size, fun k hk _ _ h3 => h.block k hk h3⟩
theorem CK.set_b {b gL : Nat} {ob : Option Nat} (W : World) (j : Nat) (v : Value) : CK b gL ob W (W.setCell ⟨b, j, none⟩ v) := ⟨by rw [set_size]; exact Nat.le_refl _, fun k _ h1 _ _ => set_other _ _ _ _ _ h1⟩
theorem CK.set_g {b gL : Nat} {ob : Option Nat} (W : World) (j : Nat) (v : Value) : CK b gL ob W (W.setCell ⟨gL, j, none⟩ v) := ⟨by rw [set_size]; exact Nat.le_refl _, fun k _ _ h2 _ => set_other _ _ _ _ _ h2⟩
def OwnLater (W : World) (wv wv' : Value) : Prop := wv'.ownBlock = wv.ownBlock ∨ ∃ k, wv'.ownBlock = some k ∧ W.heap.size ≤ k
end Go.Proofs.YtcjgcipacfcjnaaGreatDoor.C
