import Derived.Test.YtkngjbpbjjoneaaGreatDoorJ35
/-! Printed by gen_rstm.py. -/
namespace Go.Proofs.YtkngjbpbjjoneaaGreatDoor.Q
open Go.RowKit Go.Shelf
set_option maxRecDepth 20000
set_option maxHeartbeats 4000000 in
theorem stm_12 {nd : Nat → Nd} {O : List (List Nat)} {N b cap g co P j : Nat} {op ty n kids : Int} {t : ByteArray} {ks : List Nat} (h : SCtx nd O N b cap g co P j ⟨12, op, ty, n, t, kids⟩ ks) : StmtOk nd O N b cap g co P j := by
  intro W d G hp hG hd
  have H := hid h
  have HP := hid hp
  have HG := hid hG
  have HD := hid hd
  have hN := h.good.hN
  have hj := h.hj
  have HJ := hid hj
  have p0 := hp.c0
  have p1 := hp.c1
  have hpl0 := hp.pl
  have hgl0 := hp.gl
  have hGs : G.size ≤ 24002 := by rw [← len_size, hG, gapB_len]; omega
  have HGN : Hid ((G ++ ⟨#[32, 32]⟩ : ByteArray).data.toList = gapB (d + 1)) := by show _ = _; rw [ba_list, hG, gapB_succ]
  obtain ⟨gk, ck, hc, hgk, ⟨n0, n1, n2, n3, n4, n5⟩, HR⟩ := h.at hp
  dsimp only at n0 n1 n2 n3 n4 n5
  have hpl := (plain_12 _ _ _ _ _).1 h.plain
  have hko := (ko_12 _ _ _ _ _ _ _).1 h.kidsOk
  have HT := hid (h.sv d)
  have HLN := hid (h.good.slen d j hj hd).2
  have hx := h.hx
  have hks := h.hks
  obtain ⟨rfl, rfl, rfl, _⟩ := hpl
  have hm : ks.length = 2 ∨ ks.length = 3 := hko.1
  rcases hm with hm | hm
  · obtain ⟨a, c, rfl⟩ : ∃ a c, ks = [a, c] := by
      match ks, hm with
      | [a, c], _ => exact ⟨a, c, rfl⟩
    clear hm
    have HE0 := hid (h.ex (a := a) (by simp) (by have := hko.2.1; exact this))
    have HBL : Hid (∀ V, PenAt nd O N b cap g co P V → Calls Tryz.prog 24 #[.pointer (some ⟨P, 0, none⟩), .int .i64 c, .string (G ++ ⟨#[32, 32]⟩)] V fun e w' => (∃ y : ByteArray, e = .returned (.string y) ∧ Hid (y.data.toList = blkT nd O (d + 1) (O.getD c [])) ∧ y.size ≤ 800000000) ∧ Below V.heap.size V w') := fun V hV => h.bl c (by simp) (by have := hko.2.2.1; exact this) V (d + 1) _ hV HGN.out (by have := h.lt (a := c) (by simp); omega)
    have hl1 : [a, c].length = 2 := rfl
    rw [hl1] at hc
    clear hl1 h hp hko hG hd
    have HB0 := hid (Below.refl (W.heap.size + 1) (W.alloc (.cells #[.int .i64 12, .int .i64 0, .int .i64 0, .int .i64 0, .string t, .int .i64 kids] 63)))
    have HST : Hid (∀ V V', Below (W.heap.size + 1) (W.alloc (.cells #[.int .i64 12, .int .i64 0, .int .i64 0, .int .i64 0, .string t, .int .i64 kids] 63)) V → Below V.heap.size V V' → Below (W.heap.size + 1) (W.alloc (.cells #[.int .i64 12, .int .i64 0, .int .i64 0, .int .i64 0, .string t, .int .i64 kids] 63)) V') := fun V V' h h2 => h.trans (h2.mono (by have := h.size; simpa using this))
    have H6 : Hid (∀ V, Below (W.heap.size + 1) (W.alloc (.cells #[.int .i64 12, .int .i64 0, .int .i64 0, .int .i64 0, .string t, .int .i64 kids] 63)) V → _) := fun V h => six_new (by simpa using h)
    have HPN : Hid (∀ V, Below (W.heap.size + 1) (W.alloc (.cells #[.int .i64 12, .int .i64 0, .int .i64 0, .int .i64 0, .string t, .int .i64 kids] 63)) V → PenAt nd O N b cap g co P V) := fun V h => HP.out.next (btree h)
    have HRN : Hid (∀ V, Below (W.heap.size + 1) (W.alloc (.cells #[.int .i64 12, .int .i64 0, .int .i64 0, .int .i64 0, .string t, .int .i64 kids] 63)) V → RowAt V 3 gk ck [a, c].length (intRow [a, c])) := fun V h => HR.out.below (btree h) hgk
    have HS : Hid (∀ V, Below (W.heap.size + 1) (W.alloc (.cells #[.int .i64 12, .int .i64 0, .int .i64 0, .int .i64 0, .string t, .int .i64 kids] 63)) V → V.cell? ⟨gk, 0, none⟩ = some (.int .i64 (a : Nat)) ∧ V.cell? ⟨gk, 1, none⟩ = some (.int .i64 (c : Nat))) := fun V h => ⟨row_int (HRN.out V h) 0 (by simp), row_int (HRN.out V h) 1 (by simp)⟩
    have k0 : ¬ (9223372036854775807 < G.size + 2) := by omega
    have HT1 : Hid (svS nd O d j = [105, 102, 32] ++ tvE nd O a ++ [32] ++ ([123, 10] ++ blkT nd O (d + 1) (O.getD c []) ++ gapB d ++ [125])) := HT.out.trans (by unfold sOf; rw [hks]; simp [hx, body_blk])
    clear HT hx hks
    go_enter Tryz.func46, Tryz.ntmps46
    go_wp2_with fail
    go_region_held3 (fun V => V.cell? ⟨gk, 0, none⟩ = some (.int .i64 (a : Nat)) ∧ V.cell? ⟨gk, 1, none⟩ = some (.int .i64 (c : Nat))) (first | (exact HS.out _ HB2.out) | (exact HS.out _ HB1.out) | (exact HS.out _ HB0.out.drew) | go_keep) (first
      | (have hgate := HB1.out; clear hgate; go_at_call 24; refine (HBL.out _ (HPN.out _ HB1.out)).mono ?_; rintro e w3 ⟨⟨y2, rfl, HY2, hy2⟩, hb2⟩; have HB2 := hid (HST.out _ _ HB1.out hb2); have k3 : ¬ (9223372036854775807 < 3 + y1.size + 3 + y2.size) := (by omega); have k4 : ¬ (9223372036854775807 < 3 + y1.size + 3 + y2.size + G.size) := (by omega); have k5 : ¬ (9223372036854775807 < 3 + y1.size + 3 + y2.size + G.size + 1) := (by omega); clear hb2)
      | (go_at_call 65; refine (HE0.out _ (HPN.out _ HB0.out.drew)).mono ?_; rintro e w2 ⟨⟨y1, rfl, HY1, hy1⟩, hb1⟩; have HB1 := hid (HST.out _ _ HB0.out.drew hb1); have k1 : ¬ (9223372036854775807 < 3 + y1.size) := (by omega); have k2 : ¬ (9223372036854775807 < 3 + y1.size + 3) := (by omega); clear hb1))
    have k6 : ¬ (9223372036854775807 < 3 + y1.size + 3 + y2.size + G.size + 1 + 1) := by omega
    go_wp2
    go_ret
    have hz := HLN.out
    refine ⟨⟨_, rfl, ?_, ?_⟩, btree HB2.out⟩
    · show _ = _
      rw [HT1.out]; simp [HY1.out, HY2.out, HG.out]
    · rw [HT1.out] at hz
      rw [← len_size]
      (simp [HY1.out, HY2.out, HG.out] at hz ⊢) <;> omega
  · obtain ⟨a, c, e0, rfl⟩ : ∃ a c e0, ks = [a, c, e0] := by
      match ks, hm with
      | [a, c, e0], _ => exact ⟨a, c, e0, rfl⟩
    clear hm
    have HE0 := hid (h.ex (a := a) (by simp) (by have := hko.2.1; exact this))
    have HBL : Hid (∀ V, PenAt nd O N b cap g co P V → Calls Tryz.prog 24 #[.pointer (some ⟨P, 0, none⟩), .int .i64 c, .string (G ++ ⟨#[32, 32]⟩)] V fun e w' => (∃ y : ByteArray, e = .returned (.string y) ∧ Hid (y.data.toList = blkT nd O (d + 1) (O.getD c [])) ∧ y.size ≤ 800000000) ∧ Below V.heap.size V w') := fun V hV => h.bl c (by simp) (by have := hko.2.2.1; exact this) V (d + 1) _ hV HGN.out (by have := h.lt (a := c) (by simp); omega)
    have hl1 : [a, c, e0].length = 3 := rfl
    rw [hl1] at hc
    clear hl1
    have he0 : e0 < N := by have := h.lt (a := e0) (by simp); omega
    have hke : (nd e0).kind = 21 ∨ (nd e0).kind = 12 := hko.2.2.2 rfl
    have HBE : Hid ((nd e0).kind = 21 → ∀ V, PenAt nd O N b cap g co P V → Calls Tryz.prog 24 #[.pointer (some ⟨P, 0, none⟩), .int .i64 e0, .string (G ++ ⟨#[32, 32]⟩)] V fun e w' => (∃ y : ByteArray, e = .returned (.string y) ∧ Hid (y.data.toList = blkT nd O (d + 1) (O.getD e0 [])) ∧ y.size ≤ 800000000) ∧ Below V.heap.size V w') := fun hk V hV => h.bl e0 (by simp) hk V (d + 1) _ hV HGN.out (by have := h.lt (a := e0) (by simp); omega)
    have HSE : Hid ((nd e0).kind = 12 → ∀ V, PenAt nd O N b cap g co P V → Calls Tryz.prog 46 #[.pointer (some ⟨P, 0, none⟩), .int .i64 e0, .string G] V fun e w' => (∃ y : ByteArray, e = .returned (.string y) ∧ Hid (y.data.toList = svS nd O d e0 ++ [10]) ∧ y.size ≤ 800000000) ∧ Below V.heap.size V w') := fun hk V hV => h.st e0 (by simp) hk V d _ hV HG.out (by have := h.lt (a := e0) (by simp); omega)
    clear h hp hko hG hd
    have HB0 := hid (Below.refl (W.heap.size + 1) (W.alloc (.cells #[.int .i64 12, .int .i64 0, .int .i64 0, .int .i64 0, .string t, .int .i64 kids] 63)))
    have HST : Hid (∀ V V', Below (W.heap.size + 1) (W.alloc (.cells #[.int .i64 12, .int .i64 0, .int .i64 0, .int .i64 0, .string t, .int .i64 kids] 63)) V → Below V.heap.size V V' → Below (W.heap.size + 1) (W.alloc (.cells #[.int .i64 12, .int .i64 0, .int .i64 0, .int .i64 0, .string t, .int .i64 kids] 63)) V') := fun V V' h h2 => h.trans (h2.mono (by have := h.size; simpa using this))
    have H6 : Hid (∀ V, Below (W.heap.size + 1) (W.alloc (.cells #[.int .i64 12, .int .i64 0, .int .i64 0, .int .i64 0, .string t, .int .i64 kids] 63)) V → _) := fun V h => six_new (by simpa using h)
    have HPN : Hid (∀ V, Below (W.heap.size + 1) (W.alloc (.cells #[.int .i64 12, .int .i64 0, .int .i64 0, .int .i64 0, .string t, .int .i64 kids] 63)) V → PenAt nd O N b cap g co P V) := fun V h => HP.out.next (btree h)
    have HRN : Hid (∀ V, Below (W.heap.size + 1) (W.alloc (.cells #[.int .i64 12, .int .i64 0, .int .i64 0, .int .i64 0, .string t, .int .i64 kids] 63)) V → RowAt V 3 gk ck [a, c, e0].length (intRow [a, c, e0])) := fun V h => HR.out.below (btree h) hgk
    have HS : Hid (∀ V, Below (W.heap.size + 1) (W.alloc (.cells #[.int .i64 12, .int .i64 0, .int .i64 0, .int .i64 0, .string t, .int .i64 kids] 63)) V → V.cell? ⟨gk, 0, none⟩ = some (.int .i64 (a : Nat)) ∧ V.cell? ⟨gk, 1, none⟩ = some (.int .i64 (c : Nat))) := fun V h => ⟨row_int (HRN.out V h) 0 (by simp), row_int (HRN.out V h) 1 (by simp)⟩
    have k0 : ¬ (9223372036854775807 < G.size + 2) := by omega
    have HT1 : Hid (svS nd O d j = [105, 102, 32] ++ tvE nd O a ++ [32] ++ ([123, 10] ++ blkT nd O (d + 1) (O.getD c []) ++ gapB d ++ [125]) ++ ([32, 101, 108, 115, 101, 32] ++ if (nd e0).kind = 12 then svS nd O d e0 else [123, 10] ++ blkT nd O (d + 1) (O.getD e0 []) ++ gapB d ++ [125])) := HT.out.trans (by unfold sOf; rw [hks]; simp [hx, body_blk])
    clear HT hx hks
    go_enter Tryz.func46, Tryz.ntmps46
    go_wp2_with fail
    go_region_held3 (fun V => V.cell? ⟨gk, 0, none⟩ = some (.int .i64 (a : Nat)) ∧ V.cell? ⟨gk, 1, none⟩ = some (.int .i64 (c : Nat))) (first | (exact HS.out _ HB2.out) | (exact HS.out _ HB1.out) | (exact HS.out _ HB0.out.drew) | go_keep) (first
      | (have hgate := HB1.out; clear hgate; go_at_call 24; refine (HBL.out _ (HPN.out _ HB1.out)).mono ?_; rintro e w3 ⟨⟨y2, rfl, HY2, hy2⟩, hb2⟩; have HB2 := hid (HST.out _ _ HB1.out hb2); have k3 : ¬ (9223372036854775807 < 3 + y1.size + 3 + y2.size) := (by omega); have k4 : ¬ (9223372036854775807 < 3 + y1.size + 3 + y2.size + G.size) := (by omega); have k5 : ¬ (9223372036854775807 < 3 + y1.size + 3 + y2.size + G.size + 1) := (by omega); clear hb2)
      | (go_at_call 65; refine (HE0.out _ (HPN.out _ HB0.out.drew)).mono ?_; rintro e w2 ⟨⟨y1, rfl, HY1, hy1⟩, hb1⟩; have HB1 := hid (HST.out _ _ HB0.out.drew hb1); have k1 : ¬ (9223372036854775807 < 3 + y1.size) := (by omega); have k2 : ¬ (9223372036854775807 < 3 + y1.size + 3) := (by omega); clear hb1))
    have q0 := (HPN.out _ HB2.out).c0
    have q1 := row_int (HRN.out _ HB2.out) 2 (by simp)
    rw [show [a, c, e0].getD 2 0 = e0 from rfl] at q1
    have q2 := ((HPN.out _ HB2.out).nodes e0 he0).1
    have k6 : ¬ (9223372036854775807 < 3 + y1.size + 3 + y2.size + G.size + 1 + 6) := by omega
    have k7 : ¬ (9223372036854775807 < 3 + y1.size + 3 + y2.size + G.size + 1 + 8) := by omega
    rcases hke with hke | hke
    · have HB4 := hid (HBE.out hke)
      have ek : ((nd e0).kind == 12) = false := by rw [hke]; rfl
      rw [if_neg (by rw [hke]; decide)] at HT1
      clear hke HBE HSE
      go_wp2_with fail
      go_quiet (fail)
      go_wp2_with (first | (go_at_call 24; refine (HB4.out _ (HPN.out _ (below_drewN HB2.out _))).mono ?_; rintro e w4 ⟨⟨y3, rfl, HY3, hy3⟩, hb3⟩; have HB3 := hid (HST.out _ _ (below_drewN HB2.out _) hb3); clear hb3))
      go_ret
      have hz := HLN.out
      refine ⟨⟨_, rfl, ?_, ?_⟩, btree HB3.out⟩
      · show _ = _
        rw [HT1.out]; simp [HY1.out, HY2.out, HY3.out, HG.out]
      · rw [HT1.out] at hz
        rw [← len_size]
        (simp [HY1.out, HY2.out, HY3.out, HG.out] at hz ⊢) <;> omega
    · have HB4 := hid (HSE.out hke)
      have ek : ((nd e0).kind == 12) = true := by rw [hke]; rfl
      rw [if_pos hke] at HT1
      clear hke HBE HSE
      go_wp2_with fail
      go_quiet (fail)
      go_wp2_with (first | (go_at_call 46; refine (HB4.out _ (HPN.out _ (below_drewN HB2.out _))).mono ?_; rintro e w4 ⟨⟨y3, rfl, HY3, hy3⟩, hb3⟩; have HB3 := hid (HST.out _ _ (below_drewN HB2.out _) hb3); clear hb3))
      go_ret
      have hz := HLN.out
      refine ⟨⟨_, rfl, ?_, ?_⟩, btree HB3.out⟩
      · show _ = _
        rw [HT1.out]; simp [HY1.out, HY2.out, HY3.out, HG.out]
      · rw [HT1.out] at hz
        rw [← len_size]
        (simp [HY1.out, HY2.out, HY3.out, HG.out] at hz ⊢) <;> omega
end Go.Proofs.YtkngjbpbjjoneaaGreatDoor.Q
