import Derived.Test.YtcjgcipacfcjnaaGreatDoorJ26
namespace Go.Proofs.YtcjgcipacfcjnaaGreatDoor.C
open Go.RowKit
set_option maxRecDepth 20000
def Least (fns : List Fn) (f : Fn) (A : Nat → Sh) : Prop := Closed fns f A ∧ Low fns f A
def Unfit (fns : List Fn) (f : Fn) (A : Nat → Sh) (p : Nat) : Prop := (A p).st ≠ 0 ∧ (behind fns f p (A p)).st = 2
def Fit (fns : List Fn) (f : Fn) : Prop := ∃ A, Least fns f A ∧ ∀ p, p < f.ins.length → ¬ Unfit fns f A p
inductive Chk (fns : List Fn) : Nat → Nat → Nat → Prop
 | plain (c k i : Nat) (h : Plain fns c k i) (h0 : ¬ c = 0) : Chk fns c k i
 | unfit (h : Plain fns 0 0 0) (k i : Nat) (hk : k < fns.length) (hi : i < (fns.getD k fn0).ins.length) (h1 : ∀ j, j < k → Fit fns (fns.getD j fn0)) (A : Nat → Sh) (hA : Least fns (fns.getD k fn0) A) (h2 : ∀ p, p < i → ¬ Unfit fns (fns.getD k fn0) A p) (h3 : Unfit fns (fns.getD k fn0) A i) : Chk fns 5 k i
 | ok (h : Plain fns 0 0 0) (h1 : ∀ j, j < fns.length → Fit fns (fns.getD j fn0)) : Chk fns 0 0 0
theorem unfit_same {fns : List Fn} {f : Fn} {A B : Nat → Sh} (a : Least fns f A) (b : Least fns f B) {p : Nat} (hp : p < f.ins.length) (h : Unfit fns f A p) : Unfit fns f B p := by
 have e := least_unique a.1 a.2 b.1 b.2 p hp
 unfold Unfit at h ⊢
 rw [← e]
 exact h
theorem Chk.uniq {fns : List Fn} {c k i c' k' i' : Nat} (h : Chk fns c k i) (h' : Chk fns c' k' i') : c = c' ∧ k = k' ∧ i = i' := by
 have hz : ∀ {c k i : Nat}, Plain fns c k i → ¬ c = 0 → Plain fns 0 0 0 → False := fun p q r => q (p.uniq r).1
 cases h with
 | plain c k i h h0 =>
  cases h' with
  | plain c' k' i' g g0 => exact h.uniq g
  | unfit g => exact (hz h h0 g).elim
  | ok g => exact (hz h h0 g).elim
 | unfit h k i hk hi h1 A hA h2 h3 =>
  cases h' with
  | plain c' k' i' g g0 => exact (hz g g0 h).elim
  | unfit g k' i' hk' hi' g1 B hB g2 g3 =>
   have no : ∀ {k i : Nat} {A : Nat → Sh}, Fit fns (fns.getD k fn0) → i < (fns.getD k fn0).ins.length → Least fns (fns.getD k fn0) A → Unfit fns (fns.getD k fn0) A i → False := fun ⟨C, hC, hc⟩ hi hA hu => hc _ hi (unfit_same hA hC hi hu)
   rcases Nat.lt_trichotomy k k' with x | x | x
   ·exact (no (g1 k x) hi hA h3).elim
   ·subst x
    rcases Nat.lt_trichotomy i i' with x | x | x
    ·exact absurd (unfit_same hA hB hi h3) (g2 i x)
    ·exact ⟨rfl, rfl, x⟩
    ·exact absurd (unfit_same hB hA hi' g3) (h2 i' x)
   ·exact (no (h1 k' x) hi' hB g3).elim
  | ok g g1 =>
   obtain ⟨C, hC, hc⟩ := g1 k hk
   exact absurd (unfit_same hA hC hi h3) (hc i hi)
 | ok h h1 =>
  cases h' with
  | plain c' k' i' g g0 => exact (hz g g0 h).elim
  | unfit g k' i' hk' hi' g1 B hB g2 g3 =>
   obtain ⟨C, hC, hc⟩ := h1 k' hk'
   exact absurd (unfit_same hB hC hi' g3) (hc i' hi')
  | ok _ _ => exact ⟨rfl, rfl, rfl⟩
theorem plain_right {fns : List Fn} (h : Plain fns 0 0 0) : (∀ g ∈ fns, FnR fns g) ∧ 1 ≤ fns.length ∧ fns.length ≤ 60 := by
 cases h with
 | ok h h0 h1 j hj h2 => exact ⟨plain_R h0 h1, h⟩
def ChkEnd (fns : List Fn) (w : World) (e : Ending) (w' : World) : Prop := ∃ c k i : Nat, e = .returned (.tuple #[.int .i64 c, .int .i64 k, .int .i64 i]) ∧ Chk fns c k i ∧ Below w.heap.size w w'
structure QX (w : World) (cv : Value) (g n : Nat) (A : Nat → Sh) (W : World) : Prop where
 px : PX w cv W
 row : ShRow W g n A
theorem QX.next {w : World} {cv : Value} {g n : Nat} {A : Nat → Sh} {W V : World} (h : QX w cv g n A W) (hb : Below W.heap.size W V) : QX w cv g n A V := ⟨h.px.next hb, h.row.next hb⟩
theorem shField (st : Int) (a b : Option Addr) (n c m d : Nat) (w : World) : (Instr.field 125 (.agg #[.int .i64 st, .slice a n c, .slice b m d]) 0).run Tryz.prog w = .ok (.int .i64 st) w := by
 simp [go_sem, Instr.field, asAgg]
set_option maxHeartbeats 8000000 in
theorem check_any {fns : List Fn} {w : World} {cv : Value} (h1 : FnsRow w cv fns) (hC : CodeS fns) :
  Calls Tryz.prog 32 #[.agg #[cv]] w (ChkEnd fns w) := by
 have H1 := hid h1
 have HC := hid hC
 obtain ⟨aF, cF, hcv⟩ := h1.sl
 subst hcv
 clear h1 hC
 go_enter Tryz.func32, Tryz.ntmps32
 go_upto_region 1 with fail
 have HX := hid (PX.start w (.slice aF fns.length cF))
 obtain ⟨W1, hW1⟩ : ∃ W, w.alloc (.cells #[.slice aF fns.length cF] 29) = W := ⟨_, rfl⟩
 rw [hW1] at HX ⊢
 clear hW1
 have k0 := cx HX.out.e0
 go_upto_region 2 with (go_at_call 63; refine (plain_any (H1.out.next HX.out.lo) HC.out).mono ?_; rintro e w2 ⟨c, k, i, rfl, hpl, hb2⟩; have HPL := hid hpl; have HX2 := hid (HX.out.next hb2); clear hpl hb2)
 by_cases hc0 : c = 0
 ·subst hc0
  have HP0 : Hid (Plain fns 0 0 0) := hid (by
   have h9 := HPL.out
   cases h9 with
   | ok h h0 h1 j hj h2 => exact .ok h h0 h1 j hj h2)
  have HRT := hid (plain_right HP0.out)
  have h60 := HRT.out.2.2
  clear HPL k0 HX
  have k0 := cx HX2.out.e0
  go_wp2_with fail
  go_loopw [8] (fun i wr => ∃ j : Nat, j ≤ fns.length ∧ i = .int .i64 j ∧ PX w (.slice aF fns.length cF) wr ∧ ∀ p, p < j → Fit fns (fns.getD p fn0)) (fun i _ => fns.length - (intOf i).toNat)
  case atStart => exact ⟨0, Nat.zero_le _, rfl, HX2.out, fun p hp => absurd hp (Nat.not_lt_zero _)⟩
  case round =>
   obtain ⟨j, hj, rfl, hx, hall⟩ := hrel
   have HX3 := hid hx
   have HALL := hid hall
   clear hx hall HX2 k0
   have k0 := cx HX3.out.e0
   by_cases hlt : j < fns.length
   ·have hlti : (j : Int) < (fns.length : Int) := by omega
    have HFM : Hid (fns.getD j fn0 ∈ fns) := hid (by rw [List.getD_eq_getElem?_getD, List.getElem?_eq_getElem hlt]; exact List.getElem_mem hlt)
    obtain ⟨gF, cF2, e9, hgF, pv, iv, n0, n1, n2, n3, n4, hpv, hiv⟩ := H1.out.at hlt
    injection e9 with ea en ec
    clear en
    subst ea ec
    obtain ⟨f, hf⟩ : ∃ f, fns.getD j fn0 = f := ⟨_, rfl⟩
    have HSH := hid (shapes_any (H1.out.next HX3.out.lo) hlt HRT.out.1)
    rw [hf] at n0 n2 n3 hpv hiv HFM HSH
    have HFE := hid hf
    have HR := hid (HRT.out.1 f HFM.out)
    have HP := hid hpv
    have HI := hid hiv
    have hi2 := HR.out.some_.2
    obtain ⟨aP, cP, rfl⟩ := hpv.sl
    obtain ⟨aI, cI, rfl⟩ := hiv.sl
    have HN5 := hid (And.intro n0 (And.intro n1 (And.intro n2 (And.intro n3 n4))))
    clear hf hpv hiv n0 n1 n2 n3 n4
    go_wp2_with (go_at_call 64; refine HSH.out.mono ?_; rintro e w4 ⟨g, A, rfl, hg, hrow, hcl, hlow, hb4⟩; have HLS : Hid (Least fns f A) := hid ⟨hcl, hlow⟩; have HQX := hid (QX.mk (HX3.out.next hb4) hrow); clear hg hrow hcl hlow hb4)
    clear k0 HSH
    go_loopw [10] (fun i wr => ∃ z : Nat, z ≤ f.ins.length ∧ i = .int .i64 z ∧ QX w (.slice (some ⟨gF, 0, none⟩) fns.length cF) g f.ins.length A wr ∧ ∀ p, p < z → ¬ Unfit fns f A p) (fun i _ => f.ins.length - (intOf i).toNat)
    case atStart => exact ⟨0, Nat.zero_le _, rfl, HQX.out, fun p hp => absurd hp (Nat.not_lt_zero _)⟩
    case round =>
     obtain ⟨z, hz, rfl, hx, hsofar⟩ := hrel
     have HX4 := hid hx
     have HSF := hid hsofar
     clear hx hsofar HQX
     by_cases hzt : z < f.ins.length
     ·have hzi : (z : Int) < (f.ins.length : Int) := by omega
      obtain ⟨a1, c1, a2, c2, u0, u1, u2, rw1, rw2, _, _, _⟩ := HX4.out.row.at hzt
      have hgl := HX4.out.row.lt
      have HROW := hid (And.intro rw1 rw2)
      have k0 := cx HX4.out.px.e0
      clear rw1 rw2
      by_cases hst : (A z).st = 0
      ·rw [hst] at u0
       have HST := hid hst
       clear hst
       go_wp2_with fail
       go_quiet (fail)
       go_wp2
       go_roundw
       case rel =>
        refine ⟨z + 1, by omega, by go_num, HX4.out.next (below_drewN (Below.refl _ _) _), fun p hp => ?_⟩
        by_cases e : p = z
        ·subst e; exact fun h => h.1 HST.out
        ·exact HSF.out p (by omega)
       case measure => simp [intOf]; omega
      ·have HST := hid hst
       have hstb : (((A z).st : Int) == 0) = false := by simpa using hst
       have hstn : (((A z).st : Int) != 0) = true := by simpa using hst
       have hst0 : ¬ (A z).st = 0 := hst
       clear hst
       have HCE : Hid (∀ V, Below wr.heap.size wr V → (V.cell? ⟨w.heap.size, 0, none⟩ = some (.slice (some ⟨gF, 0, none⟩) fns.length cF) ∧ V.cell? ⟨gF, j * 5, none⟩ = some (.string f.name) ∧ V.cell? ⟨gF, j * 5 + 1, none⟩ = some (.slice aP f.params.length cP) ∧ V.cell? ⟨gF, j * 5 + 2, none⟩ = some (.int .i64 f.result) ∧ V.cell? ⟨gF, j * 5 + 3, none⟩ = some (.int .i64 f.slots) ∧ V.cell? ⟨gF, j * 5 + 4, none⟩ = some (.slice aI f.ins.length cI)) ∧ (V.cell? ⟨g, z * 3, none⟩ = some (.int .i64 ((A z).st : Nat)) ∧ V.cell? ⟨g, z * 3 + 1, none⟩ = some (.slice a1 (A z).sl.length c1) ∧ V.cell? ⟨g, z * 3 + 2, none⟩ = some (.slice a2 (A z).sk.length c2))) := hid fun V hV => by
        have hb := (HX4.out.px.next hV).lo
        obtain ⟨n0, n1, n2, n3, n4⟩ := HN5.out
        exact ⟨⟨cx (HX4.out.px.next hV).e0, (hb.cell (p := ⟨gF, _, none⟩) hgF).trans n0, (hb.cell (p := ⟨gF, _, none⟩) hgF).trans n1, (hb.cell (p := ⟨gF, _, none⟩) hgF).trans n2, (hb.cell (p := ⟨gF, _, none⟩) hgF).trans n3, (hb.cell (p := ⟨gF, _, none⟩) hgF).trans n4⟩, (hV.cell (p := ⟨g, _, none⟩) hgl).trans u0, (hV.cell (p := ⟨g, _, none⟩) hgl).trans u1, (hV.cell (p := ⟨g, _, none⟩) hgl).trans u2⟩
       obtain ⟨⟨_, n0, n1, n2, n3, n4⟩, _⟩ := HCE.out wr (Below.refl _ _)
       have HCALL : Hid (∀ V, Below wr.heap.size wr V → Calls Tryz.prog 65 #[.agg #[.slice (some ⟨gF, 0, none⟩) fns.length cF], .agg #[.string f.name, .slice aP f.params.length cP, .int .i64 f.result, .int .i64 f.slots, .slice aI f.ins.length cI], .int .i64 z, .agg #[.int .i64 ((A z).st : Nat), .slice a1 (A z).sl.length c1, .slice a2 (A z).sk.length c2]] V (BehEnd fns f z (A z) V)) := hid fun V hV => beh_any (H1.out.next (HX4.out.px.next hV).lo) ⟨_, _, rfl, HP.out.next (HX4.out.px.next hV).lo, HI.out.next (HX4.out.px.next hV).lo⟩ ⟨_, _, rfl, HROW.out.1.next hV, HROW.out.2.next hV⟩ HRT.out.1 HR.out hzt (HLS.out.2.ok z hzt) HST.out
       by_cases hu : (behind fns f z (A z)).st = 2
       ·have HU := hid hu
        clear hu
        go_wp2_with fail
        go_region_held3 (fun V => (V.cell? ⟨w.heap.size, 0, none⟩ = some (.slice (some ⟨gF, 0, none⟩) fns.length cF) ∧ V.cell? ⟨gF, j * 5, none⟩ = some (.string f.name) ∧ V.cell? ⟨gF, j * 5 + 1, none⟩ = some (.slice aP f.params.length cP) ∧ V.cell? ⟨gF, j * 5 + 2, none⟩ = some (.int .i64 f.result) ∧ V.cell? ⟨gF, j * 5 + 3, none⟩ = some (.int .i64 f.slots) ∧ V.cell? ⟨gF, j * 5 + 4, none⟩ = some (.slice aI f.ins.length cI)) ∧ (V.cell? ⟨g, z * 3, none⟩ = some (.int .i64 ((A z).st : Nat)) ∧ V.cell? ⟨g, z * 3 + 1, none⟩ = some (.slice a1 (A z).sl.length c1) ∧ V.cell? ⟨g, z * 3 + 2, none⟩ = some (.slice a2 (A z).sk.length c2))) (first | (exact HCE.out _ (Below.refl _ _).drew) | (exact HCE.out _ HB9.out) | go_keep) (first
         | (go_at_call 65; refine (HCALL.out _ (Below.refl _ _).drew).mono ?_; rintro e w9 ⟨bv, rfl, hsv, hb9⟩; obtain ⟨x, y, rfl, hx, hy⟩ := hsv; obtain ⟨px, qx, rfl⟩ := hx.sl; obtain ⟨py, qy, rfl⟩ := hy.sl; have HB9 := hid ((Below.refl wr.heap.size wr).drew.trans hb9); clear hb9 hx hy; rw [HU.out]; have hfd := shField 2 px py (behind fns f z (A z)).sl.length qx (behind fns f z (A z)).sk.length qy) | fail)
        go_wp2_with fail
        go_ret3
        exact ⟨5, j, z, rfl, .unfit HP0.out j z hlt (by rw [HFE.out]; exact hzt) HALL.out A (by rw [HFE.out]; exact HLS.out) (by rw [HFE.out]; exact HSF.out) (by rw [HFE.out]; exact ⟨HST.out, HU.out⟩), (HX4.out.px.next HB9.out).lo⟩
       ·have HU := hid hu
        have hub : (((behind fns f z (A z)).st : Int) == 2) = false := by simp; omega
        clear hu
        go_wp2_with fail
        go_region_held3 (fun V => (V.cell? ⟨w.heap.size, 0, none⟩ = some (.slice (some ⟨gF, 0, none⟩) fns.length cF) ∧ V.cell? ⟨gF, j * 5, none⟩ = some (.string f.name) ∧ V.cell? ⟨gF, j * 5 + 1, none⟩ = some (.slice aP f.params.length cP) ∧ V.cell? ⟨gF, j * 5 + 2, none⟩ = some (.int .i64 f.result) ∧ V.cell? ⟨gF, j * 5 + 3, none⟩ = some (.int .i64 f.slots) ∧ V.cell? ⟨gF, j * 5 + 4, none⟩ = some (.slice aI f.ins.length cI)) ∧ (V.cell? ⟨g, z * 3, none⟩ = some (.int .i64 ((A z).st : Nat)) ∧ V.cell? ⟨g, z * 3 + 1, none⟩ = some (.slice a1 (A z).sl.length c1) ∧ V.cell? ⟨g, z * 3 + 2, none⟩ = some (.slice a2 (A z).sk.length c2))) (first | (exact HCE.out _ (Below.refl _ _).drew) | (exact HCE.out _ HB9.out) | go_keep) (first
         | (go_at_call 65; refine (HCALL.out _ (Below.refl _ _).drew).mono ?_; rintro e w9 ⟨bv, rfl, hsv, hb9⟩; obtain ⟨x, y, rfl, hx, hy⟩ := hsv; obtain ⟨px, qx, rfl⟩ := hx.sl; obtain ⟨py, qy, rfl⟩ := hy.sl; have HB9 := hid ((Below.refl wr.heap.size wr).drew.trans hb9); clear hb9 hx hy; have hfd := shField (behind fns f z (A z)).st px py (behind fns f z (A z)).sl.length qx (behind fns f z (A z)).sk.length qy) | fail)
        go_wp2_with fail
        go_roundw
        case rel =>
         refine ⟨z + 1, by omega, by go_num, HX4.out.next HB9.out, fun p hp => ?_⟩
         by_cases e : p = z
         ·subst e; exact fun h => HU.out h.2
         ·exact HSF.out p (by omega)
        case measure => simp [intOf]; omega
     ·obtain rfl : z = f.ins.length := by omega
      have hge : ¬ ((f.ins.length : Int) < (f.ins.length : Int)) := by omega
      go_wp2_with fail
      refine ⟨⟨_, _, _, .int .i64 ((j + 1 : Nat) : Int), ⟨j + 1, by omega, rfl, HX4.out.px, fun q hq => ?_⟩, rfl, rfl, rfl, by go_num⟩, by simp [intOf]; omega⟩
      by_cases e : q = j
      ·subst e
       have h9 : Fit fns (fns.getD q fn0) := by rw [HFE.out]; exact ⟨A, HLS.out, HSF.out⟩
       exact h9
      ·exact HALL.out q (by omega)
   ·obtain rfl : j = fns.length := by omega
    have hge : ¬ ((fns.length : Int) < (fns.length : Int)) := by omega
    go_wp2_with fail
    go_ret3
    exact ⟨0, 0, 0, rfl, .ok HP0.out HALL.out, HX3.out.lo⟩
 ·have HC0 := hid hc0
  have hcb : (((c : Nat) : Int) != 0) = true := by simpa using hc0
  clear hc0
  go_wp2_with fail
  go_ret3
  exact ⟨c, k, i, rfl, .plain c k i HPL.out HC0.out, HX2.out.lo⟩
end Go.Proofs.YtcjgcipacfcjnaaGreatDoor.C
