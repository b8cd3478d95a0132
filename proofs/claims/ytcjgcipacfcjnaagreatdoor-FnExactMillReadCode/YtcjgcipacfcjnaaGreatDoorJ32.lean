import Derived.Test.YtcjgcipacfcjnaaGreatDoorJ31
namespace Go.Proofs.YtcjgcipacfcjnaaGreatDoor.C
open Go.RowKit
set_option maxRecDepth 20000
set_option maxHeartbeats 8000000 in
theorem new_any {fns : List Fn} {q : Nat} {w : World} {cv : Value} (h1 : FnsRow w cv fns) (hE : EnvI w) (hq : q < fns.length) (hF : ∀ g ∈ fns, FnR fns g) :
  Calls Tryz.prog 70 #[.agg #[cv], .int .i64 q] w (NewEnd fns (fns.getD q fn0) w) := by
 have hf : FnR fns (fns.getD q fn0) := hF _ (by rw [List.getD_eq_getElem?_getD, List.getElem?_eq_getElem hq]; exact List.getElem_mem hq)
 have H1 := hid h1
 have HEN := hid hE
 have HF := hid hF
 obtain ⟨gF, cF, rfl, hgF, pv, iv, v0, v1, v2, v3, v4, hpv, hiv⟩ := h1.at hq
 obtain ⟨f, hfe⟩ : ∃ f, fns.getD q fn0 = f := ⟨_, rfl⟩
 rw [hfe] at hf v0 v2 v3 hpv hiv ⊢
 have HR := hid hf
 have HPV := hid hpv
 have HIV := hid hiv
 have hIL : f.ins.length ≤ 50000 := hf.some_.2
 have hI1 : 1 ≤ f.ins.length := hf.some_.1
 obtain ⟨S, hS⟩ : ∃ S : Nat, f.slots = S := ⟨f.slots.toNat, by have := hf.slots; omega⟩
 have HS : Hid (f.S = S) := hid (by unfold Fn.S; omega)
 have hSL : f.params.length ≤ S := by have := hf.slots; omega
 have hS2 : S ≤ 200 := by have := hf.slots; omega
 have HSL := hid hS
 obtain ⟨aP, cP, rfl⟩ := hpv.sl
 obtain ⟨aI, cI, rfl⟩ := hiv.sl
 obtain ⟨i3, hi3, hy0, hy1, hy2⟩ := info_parts lying_info
 have HH3 := hid (And.intro hi3 (And.intro hy0 (And.intro hy1 hy2)))
 have hqi : (q : Int) < (fns.length : Int) := by omega
 clear hi3 hy0 hy1 hF hf hfe hpv hiv h1 hS hE
 go_enter Tryz.func70, Tryz.ntmps70
 go_upto_region 2 with fail
 obtain ⟨t0, t1, hlo, hz⟩ := two w (.cells #[.slice (some ⟨gF, 0, none⟩) fns.length cF] 29) (fbox f (.slice aP f.params.length cP) (.slice aI f.ins.length cI))
 obtain ⟨W2, hW2⟩ : ∃ W, ((w.alloc (.cells #[.slice (some ⟨gF, 0, none⟩) fns.length cF] 29)).alloc (fbox f (.slice aP f.params.length cP) (.slice aI f.ins.length cI))) = W := ⟨_, rfl⟩
 rw [hW2] at t0 t1 hlo hz
 unfold fbox at hW2
 rw [hW2]
 clear hW2
 have T0 := hid t0
 have T1 := hid t1
 have HLO := hid hlo
 have HSG : Hid (SG fns f W2 (.slice (some ⟨gF, 0, none⟩) fns.length cF) (.slice aP f.params.length cP) (.slice aI f.ins.length cI)) := hid ⟨H1.out.next hlo, HPV.out.next hlo, HIV.out.next hlo, HEN.out.next hlo⟩
 obtain ⟨W3, hmk, own3, grw3⟩ := run_make_full (P := Tryz.prog) W2.drew W2.heap.size 182 187 i3 (.agg #[.int .i64 0, .string ⟨#[]⟩, .string ⟨#[]⟩]) 3 Tryz.underlying182 HH3.out.1 HH3.out.2.1 HH3.out.2.2.1 .i64 .i64 f.ins.length (by rw [hy2]; omega) (by unfold maxLen; omega) (Nat.le_refl _)
 have b3 : Below W2.heap.size W2 W3 := (Below.refl W2.heap.size W2).drew.grown grw3 (Nat.le_refl _) (fun q e => by cases e)
 have HB3 := hid b3
 have HLY := hid (LyRow.made own3)
 have HC : Hid (∀ V, Below W2.heap.size W2 V → V.cell? ⟨w.heap.size, 0, none⟩ = some (.slice (some ⟨gF, 0, none⟩) fns.length cF) ∧ V.cell? ⟨w.heap.size + 1, 0, none⟩ = some (.string f.name) ∧ V.cell? ⟨w.heap.size + 1, 1, none⟩ = some (.slice aP f.params.length cP) ∧ V.cell? ⟨w.heap.size + 1, 2, none⟩ = some (.int .i64 f.result) ∧ V.cell? ⟨w.heap.size + 1, 3, none⟩ = some (.int .i64 f.slots) ∧ V.cell? ⟨w.heap.size + 1, 4, none⟩ = some (.slice aI f.ins.length cI)) := hid fun V hV => by
  obtain ⟨a0, a1, a2, a3, a4⟩ := fx (hp_next T1.out hV)
  exact ⟨cx (hp_next T0.out hV), a0, a1, a2, a3, a4⟩
 clear t0 t1 hlo own3 grw3 b3 v0 v1 v2 v3 v4
 go_region_held3 (fun V => V.cell? ⟨w.heap.size, 0, none⟩ = some (.slice (some ⟨gF, 0, none⟩) fns.length cF) ∧ V.cell? ⟨w.heap.size + 1, 0, none⟩ = some (.string f.name) ∧ V.cell? ⟨w.heap.size + 1, 1, none⟩ = some (.slice aP f.params.length cP) ∧ V.cell? ⟨w.heap.size + 1, 2, none⟩ = some (.int .i64 f.result) ∧ V.cell? ⟨w.heap.size + 1, 3, none⟩ = some (.int .i64 f.slots) ∧ V.cell? ⟨w.heap.size + 1, 4, none⟩ = some (.slice aI f.ins.length cI)) (first | (exact HC.out _ (Below.refl _ _).drew) | (exact HC.out _ HB3.out) | (exact HC.out _ (HB3.out.alloc HB3.out.size _)) | go_keep) (first | fail)
 rename_i hHeld
 clear hHeld hmk
 have HLY2 : Hid (LyRow W3 (w.heap.size + 1 + 1) f.ins.length fun _ => bot) := hid (by rw [← hz]; exact HLY.out)
 obtain ⟨ob, hob⟩ : ∃ o, (Obj.cells #[.slice (some ⟨gF, 0, none⟩) fns.length cF, .string f.name, .slice aP f.params.length cP, .int .i64 f.result, .int .i64 f.slots, .slice aI f.ins.length cI, .slice (some ⟨w.heap.size + 1 + 1, 0, none⟩) f.ins.length f.ins.length, .slice none 0 0] 184) = o := ⟨_, rfl⟩
 have HP4 : Hid (SP fns f W2 W3.heap.size (w.heap.size + 1 + 1) (.slice (some ⟨gF, 0, none⟩) fns.length cF) (.slice aP f.params.length cP) (.slice aI f.ins.length cI) (fun _ => bot) [] (.slice none 0 0) (W3.alloc ob)) := hid ⟨HB3.out.alloc HB3.out.size _, by rw [heap_alloc_new, ← hob], HLY2.out.next ((Below.refl _ _).alloc (Nat.le_refl _) _), ⟨rfl, .inl ⟨rfl, rfl⟩⟩, HB3.out.size, by omega, by have := HLY2.out.lt; omega⟩
 have c3 := (HC.out (W3.alloc ob) (HB3.out.alloc HB3.out.size _)).2.2.2.2.1
 rw [HSL.out] at c3
 rw [hob]
 obtain ⟨W4, hW4⟩ : ∃ W, W3.alloc ob = W := ⟨_, rfl⟩
 obtain ⟨b, hb⟩ : ∃ b, W3.heap.size = b := ⟨_, rfl⟩
 rw [hW4, hb] at HP4
 rw [hW4] at c3
 rw [hW4, hb]
 clear hob hW4 hb HLY HLY2 HB3 T0 T1 HH3 hy2
 obtain ⟨i5, hi5, hu0, hu1, hu2⟩ := info_parts u8_info
 have HH5 := hid (And.intro hi5 (And.intro hu0 (And.intro hu1 hu2)))
 have hb5 : i5.bytes = 1 := hu2
 clear hi5 hu0 hu1 hu2
 go_upto_region 4 with (at_make; refine wpList_make_full _ rfl _ _ 39 rfl W4.heap.size 5 i5 (.int .u8 0) 1 Tryz.underlying39 HH5.out.1 HH5.out.2.1 HH5.out.2.2.1 _ _ _ _ S rfl rfl rfl rfl (by rw [hb5]; omega) (by unfold maxLen; omega) (Nat.le_refl _) ?_; intro W5 o5 g5)
 have HN0 := hid (NI.made (l := f.params) o5 g5)
 have c1 := (HC.out W5 (HP4.out.next HN0.out.lo).lo).2.2.1
 clear o5 g5 c3 HH5 hb5
 go_wp2_with fail
 clear c1
 go_loopw [31] (fun ix wr => ∃ j : Nat, j ≤ f.params.length ∧ ix = .int .i64 j ∧ NI f.params S W4 j wr) (fun ix _ => f.params.length - (intOf ix).toNat)
 case atStart => exact ⟨0, Nat.zero_le _, rfl, HN0.out⟩
 case round =>
  clear HN0
  obtain ⟨j, hj, rfl, hni⟩ := hrel
  have HN := hid hni
  clear hni
  by_cases hlt : j < f.params.length
  ·have hlti : (j : Int) < (f.params.length : Int) := by omega
   have hltS : (j : Int) < (S : Int) := by omega
   obtain ⟨gg, gc2, e9, _, _, hggl, hgc⟩ := (HSG.out.pr.next (HP4.out.next HN.out.lo).lo).at (i := j) hlt
   injection e9 with e9 en ec
   clear en
   subst e9 ec
   have n0 := hgc j hlt
   clear hgc
   have kA := HN.out.row.cell (show j < S by omega)
   have kF := HN.out.row.frozen j
   have HM := hid HN.out.more
   have hr := HR.out.params (f.params.getD j 0) (by rw [List.getD_eq_getElem?_getD, List.getElem?_eq_getElem hlt]; exact List.getElem_mem hlt)
   obtain ⟨y, hy⟩ : ∃ y, f.params.getD j 0 = y := ⟨_, rfl⟩
   rw [hy] at n0 HM hr
   have hwy : IntKind.u8.wrap y = y := by rw [IntKind.wrap_u8]; omega
   unfold bRow at kA
   rw [if_neg (Nat.lt_irrefl j)] at kA
   clear hy hr
   go_wp2_with fail
   go_roundw
   case rel => exact ⟨j + 1, by omega, by go_num, HM.out⟩
   case measure => simp [intOf]; omega
  ·obtain rfl : j = f.params.length := by omega
   have hge : ¬ ((f.params.length : Int) < (f.params.length : Int)) := by omega
   have hcv := HN.out.text HR.out HS.out hSL
   have HP5 := hid (HP4.out.next HN.out.lo)
   have HCM : Hid (Calls Tryz.prog 100 #[.pointer (some ⟨b, 0, none⟩), .int .i64 0, .agg #[.int .i64 1, .string (kt (first f).sl), .string ⟨#[]⟩]] wr (ComeEnd fns f W2 b (w.heap.size + 1 + 1) (.slice (some ⟨gF, 0, none⟩) fns.length cF) (.slice aP f.params.length cP) (.slice aI f.ins.length cI) (fun _ => bot) [] (.slice none 0 0) wr 0 (first f))) := hid (come_any HP5.out (p := 0) (by omega) hIL (.inl rfl) (first_ok HR.out) (by simp [first]) (by rw [HS.out]; exact hS2) List.Pairwise.nil (fun q hq => (nomatch hq)) (Nat.zero_le _))
   obtain ⟨tx, htx⟩ : ∃ t, kt (first f).sl = t := ⟨_, rfl⟩
   rw [htx] at hcv HCM
   clear htx
   go_wp2_with (go_at_call 100; refine HCM.out.mono ?_; rintro e W6 ⟨rfl, _, wv6, _, hcase⟩; have HP6 := hid (come_first hcase); clear hcase)
   clear HCM hcv HP5 HN HP4
   obtain ⟨A1, hA1⟩ : ∃ A, upd (fun _ => bot) 0 (first f) = A := ⟨_, rfl⟩
   have HW1 : Hid (WInv fns f A1 [0]) := hid (by rw [← hA1]; exact WInv.start HR.out)
   rw [hA1] at HP6
   clear hA1
   obtain ⟨T, hT⟩ : ∃ T, tot f.S A1 f.ins.length * (f.ins.length + 1) + 1 = T := ⟨_, rfl⟩
   go_loopg [] T (fun k wr => ∃ (A : Nat → Sh) (wk : List Nat) (wv : Value), SP fns f W2 b (w.heap.size + 1 + 1) (.slice (some ⟨gF, 0, none⟩) fns.length cF) (.slice aP f.params.length cP) (.slice aI f.ins.length cI) A wk wv wr ∧ WInv fns f A wk ∧ tot f.S A f.ins.length * (f.ins.length + 1) + wk.length ≤ k)
   case atStart => exact ⟨A1, [0], wv6, HP6.out, HW1.out, by rw [← hT]; simp⟩
   case round =>
    clear HP6 HW1 hT
    obtain ⟨A, wk, wv, hsp, hwi, hk⟩ := hrel
    have HP := hid hsp
    have HW := hid hwi
    clear hsp hwi
    rcases List.eq_nil_or_concat wk with rfl | ⟨l, x, rfl⟩
    ·obtain ⟨adw, cw, hwv⟩ := own_form HP.out.own
     subst hwv
     have m7 : wr.cell? ⟨b, 7, none⟩ = some (.slice adw 0 cw) := (cell_hp HP.out.e 7).trans rfl
     go_wp2_with fail
     go_ret
     exact ⟨W2, b, _, _, _, _, A, _, rfl, HLO.out, HSG.out, HP.out, HW.out.closed, HW.out.low⟩
    ·rw [List.concat_eq_append] at HP HW hk
     obtain ⟨g, c, hwv, hx, hc1, hc2, hnx⟩ := HP.out.last
     subst hwv
     have HNX := hid hnx
     obtain ⟨hgi, hxn, hx0⟩ := HW.out.pop HR.out HF.out
     have HGI := hid hgi
     have HX0 := hid hx0
     clear hnx hgi hx0
     have m7 : wr.cell? ⟨b, 7, none⟩ = some (.slice (some ⟨g, 0, none⟩) (l.length + 1) c) := (cell_hp HP.out.e 7).trans rfl
     have f7 := frozen_hp HP.out.e 7
     have hll := desc_len HGI.out.desc (fun q hq => (HGI.out.good q hq).1)
     obtain ⟨m, hm⟩ : ∃ m, l.length = m := ⟨_, rfl⟩
     rw [hm] at hx hc1 m7 hll HNX
     have hpos : (0 : Int) < ((m + 1 : Nat) : Int) := by omega
     have hsub : IntKind.i64.wrap (((m + 1 : Nat) : Int) - 1) = (m : Int) := by rw [IntKind.wrap_i64]; omega
     have hml : (m : Int) < ((m + 1 : Nat) : Int) := by omega
     go_upto_region 11 with fail
     go_quiet (fail)
     go_wp2_with fail
     go_region
     have HP8 := hid (HNX.out (wr.drewN (nq + 1)) (below_drewN (Below.refl _ _) _))
     obtain ⟨W8, hW8⟩ : ∃ W', (wr.drewN (nq + 1)).setCell ⟨b, 7, none⟩ (.slice (some ⟨g, 0, none⟩) m c) = W' := ⟨_, rfl⟩
     rw [hW8] at HP8 ⊢
     have HGO : Hid (Calls Tryz.prog 101 #[.pointer (some ⟨b, 0, none⟩), .int .i64 x] W8 (GoEnd fns f W2 b (w.heap.size + 1 + 1) (.slice (some ⟨gF, 0, none⟩) fns.length cF) (.slice aP f.params.length cP) (.slice aI f.ins.length cI) A l)) := hid (goOn_any HP8.out HSG.out hxn HF.out HR.out HX0.out HGI.out)
     clear hW8 m7 f7 hx hsub hml hpos HNX HP8 HP
     go_wp2_with (go_at_call 101; refine HGO.out.mono ?_; rintro e W9 ⟨rfl, A9, wk9, wv9, hsp9, hwi9, hor9⟩; have HP9 := hid hsp9; have HW9 := hid hwi9; have HOR := hid hor9; clear hsp9 hwi9 hor9)
     go_roundg (tot f.S A9 f.ins.length * (f.ins.length + 1) + wk9.length)
     case measure =>
      have hl9 := desc_len HW9.out.desc (fun q hq => (HW9.out.good q hq).1)
      rw [List.length_append, List.length_singleton] at hk
      rcases HOR.out with ⟨h1, h2⟩ | h1
      ·rw [h1, h2]; omega
      ·have h3 := Nat.mul_le_mul_right (f.ins.length + 1) (show tot f.S A9 f.ins.length + 1 ≤ tot f.S A f.ins.length from h1)
       rw [Nat.add_mul] at h3
       omega
     case rel => exact ⟨A9, wk9, wv9, HP9.out, HW9.out, Nat.le_refl _⟩
end Go.Proofs.YtcjgcipacfcjnaaGreatDoor.C
