import Derived.Test.YtfndbnbnimhnaaaGreatDoorJ39
/-! What is wrong with a code, in the model. -/
namespace Go.Proofs.YtfndbnbnimhnaaaGreatDoor.C
open Go.RowKit
set_option maxRecDepth 20000
def Least (fns : List Fn) (f : Fn) (A : Nat → Sh) : Prop := Closed fns f A ∧ Low fns f A
/-- A place is unfit. -/
def Unfit (fns : List Fn) (f : Fn) (A : Nat → Sh) (p : Nat) : Prop := (A p).st ≠ 0 ∧ (behind fns f p (A p)).st = 2
def Fit (fns : List Fn) (f : Fn) : Prop := ∃ A, Least fns f A ∧ ∀ p, p < f.ins.length → ¬ Unfit fns f A p
inductive Chk (fns : List Fn) : Nat → Nat → Nat → Prop
  | plain (c k i : Nat) (h : Plain fns c k i) (h0 : ¬ c = 0) : Chk fns c k i
  | unfit (h : Plain fns 0 0 0) (k i : Nat) (hk : k < fns.length) (hi : i < (fns.getD k fn0).ins.length) (h1 : ∀ j, j < k → Fit fns (fns.getD j fn0)) (A : Nat → Sh) (hA : Least fns (fns.getD k fn0) A) (h2 : ∀ p, p < i → ¬ Unfit fns (fns.getD k fn0) A p) (h3 : Unfit fns (fns.getD k fn0) A i) : Chk fns 5 k i
  | ok (h : Plain fns 0 0 0) (h1 : ∀ j, j < fns.length → Fit fns (fns.getD j fn0)) : Chk fns 0 0 0
theorem unfit_same {fns : List Fn} {f : Fn} {A B : Nat → Sh} (a : Least fns f A) (b : Least fns f B) {p : Nat} (hp : p < f.ins.length) (h : Unfit fns f A p) : Unfit fns f B p := by
  have e := least_unique a.1 a.2 b.1 b.2 p hp
  unfold Unfit at h ⊢
  rw [← e]
  exact h
theorem Chk.uniq {fns : List Fn} {c k i c' k' i' : Nat} (h : Chk fns c k i) (h' : Chk fns c' k' i') : c = c' ∧ k = k' ∧ i = i' := by
  have hz : ∀ {c k i : Nat}, Plain fns c k i → ¬ c = 0 → Plain fns 0 0 0 → False := fun p q r => q (p.uniq r).1
  cases h with
  | plain c k i h h0 =>
    cases h' with
    | plain c' k' i' g g0 => exact h.uniq g
    | unfit g => exact (hz h h0 g).elim
    | ok g => exact (hz h h0 g).elim
  | unfit h k i hk hi h1 A hA h2 h3 =>
    cases h' with
    | plain c' k' i' g g0 => exact (hz g g0 h).elim
    | unfit g k' i' hk' hi' g1 B hB g2 g3 =>
      have no : ∀ {k i : Nat} {A : Nat → Sh}, Fit fns (fns.getD k fn0) → i < (fns.getD k fn0).ins.length → Least fns (fns.getD k fn0) A → Unfit fns (fns.getD k fn0) A i → False := fun ⟨C, hC, hc⟩ hi hA hu => hc _ hi (unfit_same hA hC hi hu)
      rcases Nat.lt_trichotomy k k' with x | x | x
      · exact (no (g1 k x) hi hA h3).elim
      · subst x
        rcases Nat.lt_trichotomy i i' with x | x | x
        · exact absurd (unfit_same hA hB hi h3) (g2 i x)
        · exact ⟨rfl, rfl, x⟩
        · exact absurd (unfit_same hB hA hi' g3) (h2 i' x)
      · exact (no (h1 k' x) hi' hB g3).elim
    | ok g g1 =>
      obtain ⟨C, hC, hc⟩ := g1 k hk
      exact absurd (unfit_same hA hC hi h3) (hc i hi)
  | ok h h1 =>
    cases h' with
    | plain c' k' i' g g0 => exact (hz g g0 h).elim
    | unfit g k' i' hk' hi' g1 B hB g2 g3 =>
      obtain ⟨C, hC, hc⟩ := h1 k' hk'
      exact absurd (unfit_same hB hC hi' g3) (hc i' hi')
    | ok _ _ => exact ⟨rfl, rfl, rfl⟩
theorem plain_right {fns : List Fn} (h : Plain fns 0 0 0) : (∀ g ∈ fns, FnR fns g) ∧ 1 ≤ fns.length ∧ fns.length ≤ 60 := by
  cases h with
  | ok h h0 h1 j hj h2 => exact ⟨plain_R h0 h1, h⟩
def ChkEnd (fns : List Fn) (w : World) (e : Ending) (w' : World) : Prop := ∃ c k i : Nat, e = .returned (.tuple #[.int .i64 c, .int .i64 k, .int .i64 i]) ∧ Chk fns c k i ∧ Below w.heap.size w w'
structure QX (w : World) (cv : Value) (g n : Nat) (A : Nat → Sh) (W : World) : Prop where
  px : PX w cv W
  row : ShRow W g n A
theorem QX.next {w : World} {cv : Value} {g n : Nat} {A : Nat → Sh} {W V : World} (h : QX w cv g n A W) (hb : Below W.heap.size W V) : QX w cv g n A V := ⟨h.px.next hb, h.row.next hb⟩
theorem shField (st : Int) (a b : Option Addr) (n c m d : Nat) (w : World) : (Instr.field 125 (.agg #[.int .i64 st, .slice a n c, .slice b m d]) 0).run Tryz.prog w = .ok (.int .i64 st) w := by
  simp [go_sem, Instr.field, asAgg]
set_option maxHeartbeats 8000000 in
theorem check_any {fns : List Fn} {w : World} {cv : Value} (h1 : FnsRow w cv fns) (hC : CodeS fns) :
    Calls Tryz.prog 32 #[.agg #[cv]] w (ChkEnd fns w) := by
  have H1 := hid h1
  have HC := hid hC
  obtain ⟨aF, cF, hcv⟩ := h1.sl
  subst hcv
  clear h1 hC
  go_enter Tryz.func32, Tryz.ntmps32
  go_upto_region 1 with fail
  have HX := hid (PX.start w (.slice aF fns.length cF))
  obtain ⟨W1, hW1⟩ : ∃ W, w.alloc (.cells #[.slice aF fns.length cF] 29) = W := ⟨_, rfl⟩
  rw [hW1] at HX ⊢
  clear hW1
  have k0 := cx HX.out.e0
  go_upto_region 2 with (go_at_call 63; refine (plain_any (H1.out.next HX.out.lo) HC.out).mono ?_; rintro e w2 ⟨c, k, i, rfl, hpl, hb2⟩; have HPL := hid hpl; have HX2 := hid (HX.out.next hb2); clear hpl hb2)
  by_cases hc0 : c = 0
  · subst hc0
    have HP0 : Hid (Plain fns 0 0 0) := hid (by
      have h9 := HPL.out
      cases h9 with
      | ok h h0 h1 j hj h2 => exact .ok h h0 h1 j hj h2)
    have HRT := hid (plain_right HP0.out)
    have h60 := HRT.out.2.2
    clear HPL k0 HX
    have k0 := cx HX2.out.e0
    go_wp2_with fail
    go_loopw [8] (fun i wr => ∃ j : Nat, j ≤ fns.length ∧ i = .int .i64 j ∧ PX w (.slice aF fns.length cF) wr ∧ ∀ p, p < j → Fit fns (fns.getD p fn0)) (fun i _ => fns.length - (intOf i).toNat)
    case atStart => exact ⟨0, Nat.zero_le _, rfl, HX2.out, fun p hp => absurd hp (Nat.not_lt_zero _)⟩
    case round =>
      obtain ⟨j, hj, rfl, hx, hall⟩ := hrel
      have HX3 := hid hx
      have HALL := hid hall
      clear hx hall HX2 k0
      have k0 := cx HX3.out.e0
      by_cases hlt : j < fns.length
      · have hlti : (j : Int) < (fns.length : Int) := by omega
        have HFM : Hid (fns.getD j fn0 ∈ fns) := hid (by rw [List.getD_eq_getElem?_getD, List.getElem?_eq_getElem hlt]; exact List.getElem_mem hlt)
        obtain ⟨gF, cF2, e9, hgF, pv, iv, n0, n1, n2, n3, n4, hpv, hiv⟩ := H1.out.at hlt
        injection e9 with ea en ec
        clear en
        subst ea ec
        obtain ⟨f, hf⟩ : ∃ f, fns.getD j fn0 = f := ⟨_, rfl⟩
        have HSH := hid (shapes_any (H1.out.next HX3.out.lo) hlt HRT.out.1)
        rw [hf] at n0 n2 n3 hpv hiv HFM HSH
        have HFE := hid hf
        have HR := hid (HRT.out.1 f HFM.out)
        have HP := hid hpv
        have HI := hid hiv
        have hi2 := HR.out.some_.2
        obtain ⟨aP, cP, rfl⟩ := hpv.sl
        obtain ⟨aI, cI, rfl⟩ := hiv.sl
        have HN5 := hid (And.intro n0 (And.intro n1 (And.intro n2 (And.intro n3 n4))))
        clear hf hpv hiv n0 n1 n2 n3 n4
        go_wp2_with (go_at_call 64; refine HSH.out.mono ?_; rintro e w4 ⟨g, A, rfl, hg, hrow, hcl, hlow, hb4⟩; have HLS : Hid (Least fns f A) := hid ⟨hcl, hlow⟩; have HQX := hid (QX.mk (HX3.out.next hb4) hrow); clear hg hrow hcl hlow hb4)
        clear k0 HSH
        go_loopw [10] (fun i wr => ∃ z : Nat, z ≤ f.ins.length ∧ i = .int .i64 z ∧ QX w (.slice (some ⟨gF, 0, none⟩) fns.length cF) g f.ins.length A wr ∧ ∀ p, p < z → ¬ Unfit fns f A p) (fun i _ => f.ins.length - (intOf i).toNat)
        case atStart => exact ⟨0, Nat.zero_le _, rfl, HQX.out, fun p hp => absurd hp (Nat.not_lt_zero _)⟩
        case round =>
          obtain ⟨z, hz, rfl, hx, hsofar⟩ := hrel
          have HX4 := hid hx
          have HSF := hid hsofar
          clear hx hsofar HQX
          by_cases hzt : z < f.ins.length
          · have hzi : (z : Int) < (f.ins.length : Int) := by omega
            obtain ⟨a1, c1, a2, c2, u0, u1, u2, rw1, rw2, _, _, _⟩ := HX4.out.row.at hzt
            have hgl := HX4.out.row.lt
            have HROW := hid (And.intro rw1 rw2)
            have k0 := cx HX4.out.px.e0
            clear rw1 rw2
            by_cases hst : (A z).st = 0
            · rw [hst] at u0
              have HST := hid hst
              clear hst
              go_wp2_with fail
              go_quiet (fail)
              go_wp2
              go_roundw
              case rel =>
                refine ⟨z + 1, by omega, by go_num, HX4.out.next (below_drewN (Below.refl _ _) _), fun p hp => ?_⟩
                by_cases e : p = z
                · subst e; exact fun h => h.1 HST.out
                · exact HSF.out p (by omega)
              case measure => simp [intOf]; omega
            · have HST := hid hst
              have hstb : (((A z).st : Int) == 0) = false := by simpa using hst
              have hstn : (((A z).st : Int) != 0) = true := by simpa using hst
              have hst0 : ¬ (A z).st = 0 := hst
              clear hst
              have HCE : Hid (∀ V, Below wr.heap.size wr V → (V.cell? ⟨w.heap.size, 0, none⟩ = some (.slice (some ⟨gF, 0, none⟩) fns.length cF) ∧ V.cell? ⟨gF, j * 5, none⟩ = some (.string f.name) ∧ V.cell? ⟨gF, j * 5 + 1, none⟩ = some (.slice aP f.params.length cP) ∧ V.cell? ⟨gF, j * 5 + 2, none⟩ = some (.int .i64 f.result) ∧ V.cell? ⟨gF, j * 5 + 3, none⟩ = some (.int .i64 f.slots) ∧ V.cell? ⟨gF, j * 5 + 4, none⟩ = some (.slice aI f.ins.length cI)) ∧ (V.cell? ⟨g, z * 3, none⟩ = some (.int .i64 ((A z).st : Nat)) ∧ V.cell? ⟨g, z * 3 + 1, none⟩ = some (.slice a1 (A z).sl.length c1) ∧ V.cell? ⟨g, z * 3 + 2, none⟩ = some (.slice a2 (A z).sk.length c2))) := hid fun V hV => by
                have hb := (HX4.out.px.next hV).lo
                obtain ⟨n0, n1, n2, n3, n4⟩ := HN5.out
                exact ⟨⟨cx (HX4.out.px.next hV).e0, (hb.cell (p := ⟨gF, _, none⟩) hgF).trans n0, (hb.cell (p := ⟨gF, _, none⟩) hgF).trans n1, (hb.cell (p := ⟨gF, _, none⟩) hgF).trans n2, (hb.cell (p := ⟨gF, _, none⟩) hgF).trans n3, (hb.cell (p := ⟨gF, _, none⟩) hgF).trans n4⟩, (hV.cell (p := ⟨g, _, none⟩) hgl).trans u0, (hV.cell (p := ⟨g, _, none⟩) hgl).trans u1, (hV.cell (p := ⟨g, _, none⟩) hgl).trans u2⟩
              obtain ⟨⟨_, n0, n1, n2, n3, n4⟩, _⟩ := HCE.out wr (Below.refl _ _)
              have HCALL : Hid (∀ V, Below wr.heap.size wr V → Calls Tryz.prog 65 #[.agg #[.slice (some ⟨gF, 0, none⟩) fns.length cF], .agg #[.string f.name, .slice aP f.params.length cP, .int .i64 f.result, .int .i64 f.slots, .slice aI f.ins.length cI], .int .i64 z, .agg #[.int .i64 ((A z).st : Nat), .slice a1 (A z).sl.length c1, .slice a2 (A z).sk.length c2]] V (BehEnd fns f z (A z) V)) := hid fun V hV => beh_any (H1.out.next (HX4.out.px.next hV).lo) ⟨_, _, rfl, HP.out.next (HX4.out.px.next hV).lo, HI.out.next (HX4.out.px.next hV).lo⟩ ⟨_, _, rfl, HROW.out.1.next hV, HROW.out.2.next hV⟩ HRT.out.1 HR.out hzt (HLS.out.2.ok z hzt) HST.out
              by_cases hu : (behind fns f z (A z)).st = 2
              · have HU := hid hu
                clear hu
                go_wp2_with fail
                go_region_held3 (fun V => (V.cell? ⟨w.heap.size, 0, none⟩ = some (.slice (some ⟨gF, 0, none⟩) fns.length cF) ∧ V.cell? ⟨gF, j * 5, none⟩ = some (.string f.name) ∧ V.cell? ⟨gF, j * 5 + 1, none⟩ = some (.slice aP f.params.length cP) ∧ V.cell? ⟨gF, j * 5 + 2, none⟩ = some (.int .i64 f.result) ∧ V.cell? ⟨gF, j * 5 + 3, none⟩ = some (.int .i64 f.slots) ∧ V.cell? ⟨gF, j * 5 + 4, none⟩ = some (.slice aI f.ins.length cI)) ∧ (V.cell? ⟨g, z * 3, none⟩ = some (.int .i64 ((A z).st : Nat)) ∧ V.cell? ⟨g, z * 3 + 1, none⟩ = some (.slice a1 (A z).sl.length c1) ∧ V.cell? ⟨g, z * 3 + 2, none⟩ = some (.slice a2 (A z).sk.length c2))) (first | (exact HCE.out _ (Below.refl _ _).drew) | (exact HCE.out _ HB9.out) | go_keep) (first
                  | (go_at_call 65; refine (HCALL.out _ (Below.refl _ _).drew).mono ?_; rintro e w9 ⟨bv, rfl, hsv, hb9⟩; obtain ⟨x, y, rfl, hx, hy⟩ := hsv; obtain ⟨px, qx, rfl⟩ := hx.sl; obtain ⟨py, qy, rfl⟩ := hy.sl; have HB9 := hid ((Below.refl wr.heap.size wr).drew.trans hb9); clear hb9 hx hy; rw [HU.out]; have hfd := shField 2 px py (behind fns f z (A z)).sl.length qx (behind fns f z (A z)).sk.length qy) | fail)
                go_wp2_with fail
                go_ret3
                exact ⟨5, j, z, rfl, .unfit HP0.out j z hlt (by rw [HFE.out]; exact hzt) HALL.out A (by rw [HFE.out]; exact HLS.out) (by rw [HFE.out]; exact HSF.out) (by rw [HFE.out]; exact ⟨HST.out, HU.out⟩), (HX4.out.px.next HB9.out).lo⟩
              · have HU := hid hu
                have hub : (((behind fns f z (A z)).st : Int) == 2) = false := by simp; omega
                clear hu
                go_wp2_with fail
                go_region_held3 (fun V => (V.cell? ⟨w.heap.size, 0, none⟩ = some (.slice (some ⟨gF, 0, none⟩) fns.length cF) ∧ V.cell? ⟨gF, j * 5, none⟩ = some (.string f.name) ∧ V.cell? ⟨gF, j * 5 + 1, none⟩ = some (.slice aP f.params.length cP) ∧ V.cell? ⟨gF, j * 5 + 2, none⟩ = some (.int .i64 f.result) ∧ V.cell? ⟨gF, j * 5 + 3, none⟩ = some (.int .i64 f.slots) ∧ V.cell? ⟨gF, j * 5 + 4, none⟩ = some (.slice aI f.ins.length cI)) ∧ (V.cell? ⟨g, z * 3, none⟩ = some (.int .i64 ((A z).st : Nat)) ∧ V.cell? ⟨g, z * 3 + 1, none⟩ = some (.slice a1 (A z).sl.length c1) ∧ V.cell? ⟨g, z * 3 + 2, none⟩ = some (.slice a2 (A z).sk.length c2))) (first | (exact HCE.out _ (Below.refl _ _).drew) | (exact HCE.out _ HB9.out) | go_keep) (first
                  | (go_at_call 65; refine (HCALL.out _ (Below.refl _ _).drew).mono ?_; rintro e w9 ⟨bv, rfl, hsv, hb9⟩; obtain ⟨x, y, rfl, hx, hy⟩ := hsv; obtain ⟨px, qx, rfl⟩ := hx.sl; obtain ⟨py, qy, rfl⟩ := hy.sl; have HB9 := hid ((Below.refl wr.heap.size wr).drew.trans hb9); clear hb9 hx hy; have hfd := shField (behind fns f z (A z)).st px py (behind fns f z (A z)).sl.length qx (behind fns f z (A z)).sk.length qy) | fail)
                go_wp2_with fail
                go_roundw
                case rel =>
                  refine ⟨z + 1, by omega, by go_num, HX4.out.next HB9.out, fun p hp => ?_⟩
                  by_cases e : p = z
                  · subst e; exact fun h => HU.out h.2
                  · exact HSF.out p (by omega)
                case measure => simp [intOf]; omega
          · obtain rfl : z = f.ins.length := by omega
            have hge : ¬ ((f.ins.length : Int) < (f.ins.length : Int)) := by omega
            go_wp2_with fail
            refine ⟨⟨_, _, _, .int .i64 ((j + 1 : Nat) : Int), ⟨j + 1, by omega, rfl, HX4.out.px, fun q hq => ?_⟩, rfl, rfl, rfl, by go_num⟩, by simp [intOf]; omega⟩
            by_cases e : q = j
            · subst e
              have h9 : Fit fns (fns.getD q fn0) := by rw [HFE.out]; exact ⟨A, HLS.out, HSF.out⟩
              exact h9
            · exact HALL.out q (by omega)
      · obtain rfl : j = fns.length := by omega
        have hge : ¬ ((fns.length : Int) < (fns.length : Int)) := by omega
        go_wp2_with fail
        go_ret3
        exact ⟨0, 0, 0, rfl, .ok HP0.out HALL.out, HX3.out.lo⟩
  · have HC0 := hid hc0
    have hcb : (((c : Nat) : Int) != 0) = true := by simpa using hc0
    clear hc0
    go_wp2_with fail
    go_ret3
    exact ⟨c, k, i, rfl, .plain c k i HPL.out HC0.out, HX2.out.lo⟩
end Go.Proofs.YtfndbnbnimhnaaaGreatDoor.C
/-! The program's shaper: made, and at work until nothing waits. -/
namespace Go.Proofs.YtfndbnbnimhnaaaGreatDoor.C
open Go.RowKit
set_option maxRecDepth 20000
def NewEnd (fns : List Fn) (f : Fn) (w : World) (e : Ending) (w' : World) : Prop := ∃ (W2 : World) (b gL : Nat) (cv pv iv : Value) (A : Nat → Sh) (wv : Value), e = .returned (.pointer (some ⟨b, 0, none⟩)) ∧ Below w.heap.size w W2 ∧ SG fns f W2 cv pv iv ∧ SP fns f W2 b gL cv pv iv A [] wv w' ∧ Closed fns f A ∧ Low fns f A
theorem lying_info : (Tryz.prog.info? 187).map (fun i => (i.zero, i.size, i.bytes)) = some (some (.agg #[.int .i64 0, .string ⟨#[]⟩, .string ⟨#[]⟩]), 3, 40) := by kernel_rfl
theorem u8_info : (Tryz.prog.info? 5).map (fun i => (i.zero, i.size, i.bytes)) = some (some (.int .u8 0), 1, 1) := by kernel_rfl
/-- Made anew: nothing is known of any place. -/
theorem LyRow.made {W : World} {B g n : Nat} (h : W.ownsRow B 187 3 (.slice (some ⟨g, 0, none⟩) n n) n (madeCells #[.int .i64 0, .string ⟨#[]⟩, .string ⟨#[]⟩] (n * 3)).toList) : LyRow W g n fun _ => bot := by
  obtain ⟨h1, ⟨h2, _⟩ | ⟨k, c, cur, e, hb, h4, h5, h6, h7, h8⟩⟩ := h
  · cases h2
  · injection e with e1 _ e3
    injection e1 with e1
    injection e1 with e1
    subst e1 e3
    have hcur : cur.size = n * 3 := by rw [h7]
    have hcells : cur.toList = (madeCells #[.int .i64 0, .string ⟨#[]⟩, .string ⟨#[]⟩] (n * 3)).toList := by
      rw [← h8, List.take_of_length_le (by simp [hcur])]
    have hcc : cur = madeCells #[.int .i64 0, .string ⟨#[]⟩, .string ⟨#[]⟩] (n * 3) := Array.ext' hcells
    refine ⟨cur, h4, hcur, fun i hi => ?_⟩
    obtain ⟨m0, m1, m2⟩ := made3 (.int .i64 0) (.string ⟨#[]⟩) (.string ⟨#[]⟩) n i hi
    rw [hcc]
    exact ⟨m0, m1, m2⟩
/-- The last of the work list, and what is left without it. -/
theorem SP.last {fns : List Fn} {f : Fn} {w : World} {b gL : Nat} {cv pv iv : Value} {A : Nat → Sh} {l : List Nat} {x : Nat} {wv : Value} {W : World} (h : SP fns f w b gL cv pv iv A (l ++ [x]) wv W) : ∃ g c, wv = .slice (some ⟨g, 0, none⟩) (l.length + 1) c ∧ W.cell? ⟨g, l.length, none⟩ = some (.int .i64 (x : Nat)) ∧ l.length + 1 ≤ c ∧ c ≤ maxLen ∧ ∀ V, Below W.heap.size W V → SP fns f w b gL cv pv iv A l (.slice (some ⟨g, 0, none⟩) l.length c) (V.setCell ⟨b, 7, none⟩ (.slice (some ⟨g, 0, none⟩) l.length c)) := by
  have hl : (l ++ [x]).length = l.length + 1 := by simp
  obtain ⟨h1, ⟨_, h2⟩ | ⟨k, cap, cur, e, hb, hc, h4, h5, h6, h7⟩⟩ := h.own
  · simp at h2
  · rw [Nat.mul_one] at h6 h7
    rw [hl] at e h4 h7
    refine ⟨k, cap, e, ?_, h4, h5, fun V hV => (h.next hV).work ⟨rfl, rfl, rfl, Nat.le_refl _, fun _ _ _ => rfl⟩ ⟨by simp [nums], .inr ⟨k, cap, cur, rfl, hb, hp_next hc hV, by omega, h5, by rw [Nat.mul_one]; exact h6, ?_⟩⟩⟩
    · refine (cell_hp hc l.length).trans ?_
      have e2 : (cur.toList.take (l.length + 1))[l.length]? = ((nums (l ++ [x])).map fun x => Value.int .i64 x)[l.length]? := by rw [h7]
      rw [List.getElem?_take_of_lt (by omega)] at e2
      rw [← Array.getElem?_toList, e2]
      simp [nums]
    · have e3 := congrArg (List.take l.length) h7
      rw [List.take_take, Nat.min_eq_left (by omega)] at e3
      rw [Nat.mul_one, e3]
      simp [nums]
def bRow (l : List Int) (i j : Nat) : Value := .int .u8 (if j < i then l.getD j 0 else 0)
/-- The bytes of the first types. -/
structure NI (l : List Int) (S : Nat) (w : World) (j : Nat) (W : World) : Prop where
  lo : Below w.heap.size w W
  row : W.rowIs w.heap.size 5 S (bRow l j)
theorem NI.more {l : List Int} {S : Nat} {w : World} {j : Nat} {W : World} (h : NI l S w j W) : NI l S w (j + 1) (W.setCell ⟨w.heap.size, j, none⟩ (.int .u8 (l.getD j 0))) := by
  refine ⟨set_lo h.lo _ _ (Nat.le_refl _) _, (h.row.set j _).congr fun q hq => ?_⟩
  unfold bRow
  by_cases e : q = j
  · subst e; rw [if_pos rfl, if_pos (by omega)]
  · rw [if_neg e]
    by_cases h9 : q < j
    · rw [if_pos h9, if_pos (by omega)]
    · rw [if_neg h9, if_neg (by omega)]
theorem NI.made {l : List Int} {S : Nat} {w W : World} (h : W.ownsRow w.heap.size 5 1 (.slice (some ⟨w.heap.size, 0, none⟩) S S) S (madeCells (Value.int .u8 0).cells (S * 1)).toList) (hg : w.grownBy W none) : NI l S w 0 W := by
  refine ⟨(Below.refl w.heap.size w).grown hg (Nat.le_refl _) (fun q e => by cases e), ?_⟩
  obtain ⟨_, ⟨h2, _⟩ | ⟨k, c, cur, e, _, h4, _, _, h7, h8⟩⟩ := h
  · cases h2
  · injection e with e1 _ e3
    injection e1 with e1
    injection e1 with e1
    subst e1 e3
    rw [Nat.mul_one] at h7 h8
    refine ⟨cur, h4, h7, fun i hi => ?_⟩
    have e2 : (cur.toList.take S)[i]? = (madeCells (Value.int .u8 0).cells S).toList[i]? := by rw [h8]
    rw [List.getElem?_take_of_lt hi] at e2
    rw [← Array.getElem?_toList, e2]
    have e5 : (Value.int .u8 0).cells = #[Value.int .u8 0] := rfl
    rw [e5, made1 _ _ _ hi]
    unfold bRow
    rw [if_neg (Nat.not_lt_zero _)]
theorem NI.text {fns : List Fn} {f : Fn} {S : Nat} {w W : World} (hf : FnR fns f) (hS : f.S = S) (hl : f.params.length ≤ S) (h : NI f.params S w f.params.length W) : (convert 39 9 (.slice (some ⟨w.heap.size, 0, none⟩) S S)).run Tryz.prog W = .ok (.string (kt (first f).sl)) W := by
  have hlen : ((first f).sl.map kb).length = S := by simp [first, hS]; omega
  have := run_convert_bytes_back (P := Tryz.prog) W 39 9 5 ⟨w.heap.size, 0, none⟩ S ((first f).sl.map kb) Tryz.underlying39 Tryz.underlying5 Tryz.underlying9 (fun j hj => by
    have hjS : j < S := by omega
    have ea : (⟨w.heap.size, 0, none⟩ : Addr).add j = ⟨w.heap.size, j, none⟩ := by simp [Addr.add]; exact fun h => h.symm
    rw [ea, h.row.cell hjS]
    unfold bRow
    have hj2 : j < (first f).sl.length := by simpa using hj
    have ok : Ok10 (first f).sl := (ok_sl (first_ok hf)).1
    rw [List.getElem_map, kb_nat (ok _ (List.getElem_mem hj2))]
    congr 2
    by_cases hp : j < f.params.length
    · rw [if_pos hp]
      simp [first, hp, List.getElem_append_left, List.getD_eq_getElem?_getD]
    · rw [if_neg hp]
      have e : ∀ (a c : List Int) (h : j < (a ++ c).length), a.length ≤ j → (∀ x ∈ c, x = 0) → (a ++ c)[j] = 0 := fun a c h ha hc => by
        rw [List.getElem_append_right ha]
        exact hc _ (List.getElem_mem _)
      exact (e f.params (List.replicate (f.S - f.params.length) 0) hj2 (by omega) (fun x hx => (List.mem_replicate.1 hx).2)).symm)
  rw [hlen] at this
  exact this
theorem come_first {fns : List Fn} {f : Fn} {w : World} {b gL : Nat} {cv pv iv wv : Value} {W : World} (h : (join ((fun _ => bot) 0) (first f) = (fun _ => bot) 0 ∧ SP fns f w b gL cv pv iv (fun _ => bot) [] wv W) ∨ (¬ join ((fun _ => bot) 0) (first f) = (fun _ => bot) 0 ∧ SP fns f w b gL cv pv iv (upd (fun _ => bot) 0 (join ((fun _ => bot) 0) (first f))) (ins1 [] 0) wv W)) : SP fns f w b gL cv pv iv (upd (fun _ => bot) 0 (first f)) [0] wv W := by
  rcases h with ⟨h, _⟩ | ⟨_, h⟩
  · rw [join_bot rfl] at h
    have := congrArg Sh.st h
    simp [first, bot] at this
  · rw [join_bot rfl] at h
    exact h
end Go.Proofs.YtfndbnbnimhnaaaGreatDoor.C
