import Derived.Deep.QuietTactic
import Derived.BigQuiet
import Derived.Test.YtkngjbpbjjoneaaGreatDoorJ35
import Derived.Test.YtkngjbpbjjoneaaGreatDoorJ36
import Derived.Test.YtkngjbpbjjoneaaGreatDoorJ37
import Derived.Test.YtkngjbpbjjoneaaGreatDoorJ38
/-! The model's statements, blocks and functions at every node. -/
namespace Go.Proofs.YtkngjbpbjjoneaaGreatDoor.Q
open Go.RowKit Go.Shelf
set_option maxRecDepth 20000
theorem stm_all {nd : Nat → Nd} {O : List (List Nat)} {N b cap g co P : Nat} (hg : Good nd O N) : ∀ j, j < N → (mS (nd j).kind → StmtOk nd O N b cap g co P j) ∧ ((nd j).kind = 21 → BlockOk nd O N b cap g co P j) := by
  intro j
  induction j using Nat.strongRecOn with
  | _ j ih =>
    intro hj
    have hf := hg.fit j hj
    obtain ⟨ks, hks⟩ : ∃ ks, O.getD j [] = ks := ⟨_, rfl⟩
    obtain ⟨x, hx⟩ : ∃ x, nd j = x := ⟨_, rfl⟩
    have hp := hf.1
    have hk := hf.2
    rw [hks] at hk
    rw [hx] at hp hk ⊢
    have hlt : ∀ c ∈ ks, c < j := fun c hc => hg.down j c (by rw [hks]; exact hc)
    have C : SCtx nd O N b cap g co P j x ks := ⟨hg, hj, hx, hks, hp, hk, fun c hc h => (ih c (hlt c hc) (by have := hlt c hc; omega)).2 h, fun c hc h => (ih c (hlt c hc) (by have := hlt c hc; omega)).1 (by rw [h]; unfold mS; omega)⟩
    refine ⟨fun hS => ?_, fun h21 => ?_⟩
    · obtain ⟨kd, op, ty, n, t, kids⟩ := x
      have h1 : 10 ≤ kd ∧ kd ≤ 20 := hS
      obtain rfl | rfl | rfl | rfl | rfl | rfl | rfl | rfl | rfl | rfl | rfl : kd = 10 ∨ kd = 11 ∨ kd = 12 ∨ kd = 13 ∨ kd = 14 ∨ kd = 15 ∨ kd = 16 ∨ kd = 17 ∨ kd = 18 ∨ kd = 19 ∨ kd = 20 := by omega
      · exact stm_10 C
      · exact stm_11 C
      · exact stm_12 C
      · exact stm_13 C
      · exact stm_14 C
      · exact stm_15 C
      · exact stm_16 C
      · exact stm_17 C
      · exact stm_18 C
      · exact stm_19 C
      · exact stm_20 C
    · refine block_any hg hj fun k hkm => ?_
      obtain ⟨kd, op, ty, n, t, kids⟩ := x
      obtain rfl : kd = 21 := h21
      rw [hks] at hkm
      have hm := (ko_21 _ _ _ _ _ _ _).1 hk
      obtain ⟨i, hi, rfl⟩ := mem_getD hkm
      have hl := hlt _ hkm
      exact (ih _ hl (by omega)).1 (hm i hi)
theorem joinOf_par {nd : Nat → Nd} {ks : List Nat} (h : ∀ k ∈ ks, (parOf nd k).length ≤ 38) : (joinOf (parOf nd) ks).length ≤ 40 * ks.length := by
  cases ks with
  | nil => simp [joinOf]
  | cons a r =>
    have : ∀ r : List Nat, (∀ k ∈ r, (parOf nd k).length ≤ 38) → (r.flatMap fun j => [44, 32] ++ parOf nd j).length ≤ 40 * r.length := fun r hr => by
      induction r with
      | nil => simp
      | cons b r ih =>
        have h1 := hr b (by simp)
        have h2 := ih (fun k hk => hr k (by simp [hk]))
        simp only [List.flatMap_cons, List.length_append, List.length_cons, List.length_nil] at h2 ⊢
        omega
    have h1 := h a (by simp)
    have h2 := this r fun k hk => h k (by simp [hk])
    simp only [joinOf, List.length_append, List.length_cons]
    omega
set_option maxHeartbeats 4000000 in
theorem fn_any {nd : Nat → Nd} {O : List (List Nat)} {N b cap g co P j : Nat} (hg : Good nd O N) (hj : j < N) (h23 : (nd j).kind = 23) (W : World) (hp : PenAt nd O N b cap g co P W) :
    Calls Tryz.prog 12 #[.pointer (some ⟨P, 0, none⟩), .int .i64 j] W fun e w' => (∃ y : ByteArray, e = .returned (.string y) ∧ Hid (y.data.toList = fnT nd O j ++ [10]) ∧ y.size ≤ 800001000) ∧ Below W.heap.size W w' := by
  have hf := hg.fit j hj
  have HT := hid (show fnT nd O j = _ from rfl)
  unfold fnT at HT
  have hp1 := hf.1
  have hk1 := hf.2
  have hdn := hg.down j
  have hN := hg.hN
  obtain ⟨gk, ck, hc, hgk, hnode, HR⟩ := hp.at hj
  obtain ⟨ks, hks⟩ : ∃ ks, O.getD j [] = ks := ⟨_, rfl⟩
  obtain ⟨x, hx⟩ : ∃ x, nd j = x := ⟨_, rfl⟩
  rw [hks] at hk1 hdn hc HR HT
  rw [hx] at h23 hp1 hk1 hnode HT
  obtain ⟨kd, op, ty, n, t, kids⟩ := x
  obtain rfl : kd = 23 := h23
  obtain ⟨rfl, rfl, hnm, ht0, ht1⟩ := (plain_23 _ _ _ _ _).1 hp1
  obtain ⟨hm1, hm9, hpar, hlast⟩ := (ko_23 _ _ _ _ _ _ _).1 hk1
  have hts : t.size ≤ 30 := by obtain ⟨_, h2, _⟩ := hnm; exact h2
  obtain ⟨n0, n1, n2, n3, n4, n5⟩ := hnode
  dsimp only at n0 n1 n2 n3 n4 n5 HT
  have HP := hid hp
  have p0 := hp.c0
  have p1 := hp.c1
  have hpl0 := hp.pl
  have hgl0 := hp.gl
  -- the parameters
  have HPAR : Hid (∀ i, i + 1 < ks.length → (nd (ks.getD i 0)).text.size ≤ 30 ∧ 1 ≤ (nd (ks.getD i 0)).ty ∧ (nd (ks.getD i 0)).ty ≤ 10 ∧ ks.getD i 0 < N) := fun i hi => by
    have hlt := hdn _ (getD_mem (ks := ks) (i := i) (by omega))
    have hpl := (hg.fit (ks.getD i 0) (by omega)).1
    have hk := hpar i hi
    revert hpl
    revert hk
    generalize nd (ks.getD i 0) = z
    obtain ⟨zk, zo, zt, zn, ztx, zki⟩ := z
    rintro rfl hpl
    obtain ⟨_, _, ⟨_, h2, _⟩, h3, h4⟩ := (plain_22 _ _ _ _ _).1 hpl
    exact ⟨h2, h3, h4, by omega⟩
  obtain ⟨m, hm⟩ : ∃ m, ks.length = m + 1 := ⟨ks.length - 1, by omega⟩
  have hm8 : m ≤ 8 := by omega
  have hcl : ks.getD m 0 ∈ ks := getD_mem (by omega)
  have hcj := hdn _ hcl
  have hk21 : (nd (ks.getD m 0)).kind = 21 := by rw [hm, Nat.add_sub_cancel] at hlast; exact hlast
  have HBL : Hid (∀ V, PenAt nd O N b cap g co P V → Calls Tryz.prog 24 #[.pointer (some ⟨P, 0, none⟩), .int .i64 (ks.getD m 0 : Nat), .string ⟨#[32, 32]⟩] V fun e w' => (∃ y : ByteArray, e = .returned (.string y) ∧ Hid (y.data.toList = blkT nd O 1 (O.getD (ks.getD m 0) [])) ∧ y.size ≤ 800000000) ∧ Below V.heap.size V w') := fun V hV => (stm_all hg (ks.getD m 0) (by omega)).2 hk21 V 1 _ hV rfl (by omega)
  have HPL : Hid (∀ q, q ≤ m → (joinOf (parOf nd) (ks.take q)).length ≤ 320) := fun q hq => by
    have := joinOf_par (nd := nd) (ks := ks.take q) fun k hk => by
      obtain ⟨i, hi, rfl⟩ := mem_getD hk
      rw [List.length_take] at hi
      have e : (ks.take q).getD i 0 = ks.getD i 0 := by
        rw [List.getD_eq_getElem?_getD, List.getD_eq_getElem?_getD, List.getElem?_take_of_lt (by omega)]
      rw [e]
      have h1 := (HPAR.out i (by omega)).1
      have h2 := twB_len (nd (ks.getD i 0)).ty
      unfold parOf
      simp only [List.length_append, List.length_cons, List.length_nil, len_size]
      omega
    rw [List.length_take] at this
    omega
  have HTT : Hid (fnT nd O j = [102, 110, 32] ++ t.data.toList ++ [40] ++ joinOf (parOf nd) (ks.take m) ++ [41] ++ (if ty = 0 then [] else [32, 45, 62, 32] ++ twB ty) ++ [32] ++ ([123, 10] ++ blkT nd O 1 (O.getD (ks.getD m 0) []) ++ [125])) := by
    have e1 : ks.drop (ks.length - 1) = [ks.getD m 0] := by
      rw [hm, Nat.add_sub_cancel, List.drop_eq_getElem_cons (by omega), List.drop_of_length_le (by omega), List.getD_eq_getElem?_getD, List.getElem?_eq_getElem (by omega)]; rfl
    show fnT nd O j = _
    have e0 : fnT nd O j = _ := rfl
    unfold fnT
    rw [hks, hx, e1, hm, Nat.add_sub_cancel]
    simp [body_blk, gapB]
  clear HT hpar hlast hk1 hp1 hdn hk21 hnm hp hf hx hks hm1 hm9 hcl hg
  rw [hm] at hc
  have HM := hid hm
  clear hm
  obtain ⟨c, hce⟩ : ∃ c, ks.getD m 0 = c := ⟨_, rfl⟩
  have HCE := hid hce
  rw [hce] at HBL HTT hcj
  clear hce
  have hl1 : ((m + 1 : Nat) : Int) - 1 = (m : Int) := by omega
  have HTY := hid (And.intro ht0 ht1)
  have HM8 := hid hm8
  clear ht0 ht1 hm8 hcj
  have HB0 := hid (Below.refl (W.heap.size + 1) (W.alloc (.cells #[.int .i64 23, .int .i64 0, .int .i64 ty, .int .i64 0, .string t, .int .i64 kids] 63)))
  have HST : Hid (∀ V V', Below (W.heap.size + 1) (W.alloc (.cells #[.int .i64 23, .int .i64 0, .int .i64 ty, .int .i64 0, .string t, .int .i64 kids] 63)) V → Below V.heap.size V V' → Below (W.heap.size + 1) (W.alloc (.cells #[.int .i64 23, .int .i64 0, .int .i64 ty, .int .i64 0, .string t, .int .i64 kids] 63)) V') := fun V V' h h2 => h.trans (h2.mono (by have := h.size; simpa using this))
  have H6 : Hid (∀ V, Below (W.heap.size + 1) (W.alloc (.cells #[.int .i64 23, .int .i64 0, .int .i64 ty, .int .i64 0, .string t, .int .i64 kids] 63)) V → _) := fun V h => six_new (by simpa using h)
  have HPN : Hid (∀ V, Below (W.heap.size + 1) (W.alloc (.cells #[.int .i64 23, .int .i64 0, .int .i64 ty, .int .i64 0, .string t, .int .i64 kids] 63)) V → PenAt nd O N b cap g co P V) := fun V h => HP.out.next (btree h)
  have HRN : Hid (∀ V, Below (W.heap.size + 1) (W.alloc (.cells #[.int .i64 23, .int .i64 0, .int .i64 ty, .int .i64 0, .string t, .int .i64 kids] 63)) V → RowAt V 3 gk ck ks.length (intRow ks)) := fun V h => HR.out.below (btree h) hgk
  go_enter Tryz.func12, Tryz.ntmps12
  go_wp2
  have hwm : wrap64 (m : Int) = (m : Int) := by have := HM8.out; unfold wrap64; omega
  try rw [hwm]
  clear hwm
  go_loopw [8, 9] (fun v a wr => ∃ (q : Nat) (S : ByteArray), q ≤ m ∧ a = .int .i64 q ∧ v = .string S ∧ S.data.toList = [102, 110, 32] ++ t.data.toList ++ [40] ++ joinOf (parOf nd) (ks.take q) ∧ Below (W.heap.size + 1) (W.alloc (.cells #[.int .i64 23, .int .i64 0, .int .i64 ty, .int .i64 0, .string t, .int .i64 kids] 63)) wr) (fun _ a _ => m - (intOf a).toNat)
  case atStart => exact ⟨0, _, Nat.zero_le _, rfl, rfl, by simp [joinOf], HB0.out⟩
  case round =>
    obtain ⟨q, S, hq, rfl, rfl, hS, hbw⟩ := hrel
    have HS := hid hS
    have HBW := hid hbw
    have hSs : S.size ≤ 400 := by
      have := HPL.out q hq
      rw [← len_size, hS]
      simp only [List.length_append, List.length_cons, List.length_nil, len_size]
      omega
    clear hS hbw
    by_cases hlt : q < m
    · have hlt1 : q + 1 < ks.length := by have := HM.out; omega
      obtain ⟨hz1, hz2, hz3, hz4⟩ := HPAR.out q hlt1
      have c0 := (HPN.out _ HBW.out).c0
      have c1 := row_int (HRN.out _ HBW.out) q (by omega)
      have c2 := ((HPN.out _ HBW.out).nodes _ hz4)
      have HJ : Hid (joinOf (parOf nd) (ks.take (q + 1)) = if q = 0 then parOf nd (ks.getD q 0) else joinOf (parOf nd) (ks.take q) ++ [44, 32] ++ parOf nd (ks.getD q 0)) := by
        have := joinOf_snoc (parOf nd) (ks.take q) ks[q]
        rw [← List.take_succ_eq_append_getElem (by omega)] at this
        have e : ks[q] = ks.getD q 0 := by rw [List.getD_eq_getElem?_getD, List.getElem?_eq_getElem (by omega)]; rfl
        rw [e] at this
        show _ = _
        rw [this]
        by_cases h0 : q = 0
        · subst h0; simp
        · have hne : ¬ ks.take q = [] := fun e => by
            have := congrArg List.length e
            rw [List.length_take, List.length_nil] at this
            omega
          rw [if_neg h0, if_neg hne]
      generalize ks.getD q 0 = k at *
      obtain ⟨x, hx⟩ : ∃ x, nd k = x := ⟨_, rfl⟩
      have HPO : Hid (parOf nd k = x.text.data.toList ++ [32] ++ twB x.ty) := by show parOf nd k = _; unfold parOf; rw [hx]
      rw [HPO.out] at HJ
      rw [hx] at c2 hz1 hz2 hz3
      clear hx
      obtain ⟨_, _, e2, _, e4, _⟩ := c2
      obtain ⟨Y, hY⟩ : ∃ Y : ByteArray, (⟨(twB x.ty).toArray⟩ : ByteArray) = Y := ⟨_, rfl⟩
      have HYY : Hid (Y.data.toList = twB x.ty) := by show _ = _; rw [← hY]
      have hYs : Y.size ≤ 4 := by have := twB_len x.ty; rw [← len_size, HYY.out]; omega
      have HTW : Hid (∀ V, Calls Tryz.prog 23 #[.int .i64 x.ty] V fun e w' => e = .returned (.string Y) ∧ w' = V) := fun V => by rw [← hY]; exact typeWord_any x.ty hz2 hz3 V
      have hq1 : (q : Int) < ((m + 1 : Nat) : Int) := by omega
      have hm8 := HM8.out
      have hkN : (k : Int) < (N : Int) := by omega
      clear hY
      by_cases h0 : q = 0
      · subst h0
        rw [if_pos rfl] at HJ
        have HS : Hid (S.data.toList = [102, 110, 32] ++ t.data.toList ++ [40]) := by
          show _ = _
          have := HS.out
          simpa [joinOf] using this
        have k1 : ¬ (9223372036854775807 < S.size + x.text.size) := by omega
        have k2 : ¬ (9223372036854775807 < S.size + x.text.size + 1) := by omega
        have k3 : ¬ (9223372036854775807 < S.size + x.text.size + 1 + Y.size) := by omega
        go_wp2_with fail
        go_quiet (first | (go_at_call 23; exact Calls.quiet_of_same (HTW.out _)))
        go_wp2
        go_roundw
        case rel =>
          refine ⟨0 + 1, _, by omega, by go_num, rfl, ?_, below_drewN HBW.out _⟩
          rw [HJ.out]
          simp [HS.out, HYY.out]
        case measure => simp [intOf]; omega
      · rw [if_neg h0] at HJ
        have hpos : (0 : Int) < q := by omega
        clear h0
        go_wp2_with fail
        obtain ⟨S2, hS2⟩ : ∃ S2 : ByteArray, S ++ ⟨#[44, 32]⟩ = S2 := ⟨_, rfl⟩
        have HS2 : Hid (S2.data.toList = S.data.toList ++ [44, 32]) := by show _ = _; rw [← hS2]; simp
        have hS2s : S2.size ≤ 402 := by rw [← hS2]; simp only [ByteArray.size_append]; show S.size + 2 ≤ _; omega
        rw [hS2]
        clear hS2
        have k1 : ¬ (9223372036854775807 < S2.size + x.text.size) := by omega
        have k2 : ¬ (9223372036854775807 < S2.size + x.text.size + 1) := by omega
        have k3 : ¬ (9223372036854775807 < S2.size + x.text.size + 1 + Y.size) := by omega
        go_quiet (first | (go_at_call 23; exact Calls.quiet_of_same (HTW.out _)))
        go_wp2
        go_roundw
        case rel =>
          refine ⟨q + 1, _, by omega, by go_num, rfl, ?_, below_drewN HBW.out _⟩
          rw [HJ.out]
          simp [HS.out, HYY.out, HS2.out]
        case measure => simp [intOf]; omega
    · obtain rfl : q = m := by omega
      have HS0 := HS
      obtain ⟨_, _, e2, _, _, _⟩ := H6.out _ HBW.out
      have e3 := row_int (HRN.out _ HBW.out) q (by have := HM.out; omega)
      rw [HCE.out] at e3
      by_cases hty : ty = 0
      · subst hty
        rw [if_pos rfl] at HTT
        go_wp2_with fail
        refine (HBL.out _ (HPN.out _ HBW.out)).mono ?_
        rintro e w2 ⟨⟨y1, rfl, HY1, hy1⟩, hb1⟩
        have HB1 := hid (HST.out _ _ HBW.out hb1)
        clear hb1
        go_wp2
        go_ret
        refine ⟨⟨_, rfl, ?_, ?_⟩, btree HB1.out⟩
        · show _ = _
          rw [HTT.out]
          simp [HS.out, HY1.out]
        · simp only [ByteArray.size_append]
          show S.size + 2 + 2 + y1.size + 2 ≤ _
          omega
      · rw [if_neg hty] at HTT
        have hty1 : 1 ≤ ty := by have := HTY.out; omega
        have hty2 : ty ≤ 10 := HTY.out.2
        have e0 : (ty == 0) = false := by simpa using hty
        clear hty
        go_wp2_with fail
        refine (typeW_q ty hty1 hty2 _).mono ?_
        rintro e w1 ⟨⟨y0, rfl, HY0, hy0⟩, hw1⟩
        have e1 := hw1.symm
        subst e1
        go_wp2_with fail
        refine (HBL.out _ (HPN.out _ HBW.out)).mono ?_
        rintro e w2 ⟨⟨y1, rfl, HY1, hy1⟩, hb1⟩
        have HB1 := hid (HST.out _ _ HBW.out hb1)
        clear hb1
        go_wp2
        go_ret
        refine ⟨⟨_, rfl, ?_, ?_⟩, btree HB1.out⟩
        · show _ = _
          rw [HTT.out]
          simp [HS.out, HY1.out, HY0.out]
        · simp only [ByteArray.size_append]
          show S.size + 2 + 3 + y0.size + 1 + 2 + y1.size + 2 ≤ _
          omega
end Go.Proofs.YtkngjbpbjjoneaaGreatDoor.Q
