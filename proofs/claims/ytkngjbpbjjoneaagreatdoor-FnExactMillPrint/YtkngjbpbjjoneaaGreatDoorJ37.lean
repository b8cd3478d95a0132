import Derived.Test.YtkngjbpbjjoneaaGreatDoorJ35
/-! Printed by gen_rstm.py. -/
namespace Go.Proofs.YtkngjbpbjjoneaaGreatDoor.Q
open Go.RowKit Go.Shelf
set_option maxRecDepth 20000
set_option maxHeartbeats 4000000 in
theorem stm_13 {nd : Nat → Nd} {O : List (List Nat)} {N b cap g co P j : Nat} {op ty n kids : Int} {t : ByteArray} {ks : List Nat} (h : SCtx nd O N b cap g co P j ⟨13, op, ty, n, t, kids⟩ ks) : StmtOk nd O N b cap g co P j := by
  intro W d G hp hG hd
  have H := hid h
  have HP := hid hp
  have HG := hid hG
  have HD := hid hd
  have hN := h.good.hN
  have hj := h.hj
  have HJ := hid hj
  have p0 := hp.c0
  have p1 := hp.c1
  have hpl0 := hp.pl
  have hgl0 := hp.gl
  have hGs : G.size ≤ 24002 := by rw [← len_size, hG, gapB_len]; omega
  have HGN : Hid ((G ++ ⟨#[32, 32]⟩ : ByteArray).data.toList = gapB (d + 1)) := by show _ = _; rw [ba_list, hG, gapB_succ]
  obtain ⟨gk, ck, hc, hgk, ⟨n0, n1, n2, n3, n4, n5⟩, HR⟩ := h.at hp
  dsimp only at n0 n1 n2 n3 n4 n5
  have hpl := (plain_13 _ _ _ _ _).1 h.plain
  have hko := (ko_13 _ _ _ _ _ _ _).1 h.kidsOk
  have HT := hid (h.sv d)
  have HLN := hid (h.good.slen d j hj hd).2
  have hx := h.hx
  have hks := h.hks
  obtain ⟨rfl, rfl, rfl, _⟩ := hpl
  obtain ⟨a, c, rfl⟩ : ∃ a c, ks = [a, c] := by
    match ks, hko.1 with
    | [a, c], _ => exact ⟨a, c, rfl⟩
  have HE0 := hid (h.ex (a := a) (by simp) (by have := hko.2.1; exact this))
  have HBL : Hid (∀ V, PenAt nd O N b cap g co P V → Calls Tryz.prog 24 #[.pointer (some ⟨P, 0, none⟩), .int .i64 c, .string (G ++ ⟨#[32, 32]⟩)] V fun e w' => (∃ y : ByteArray, e = .returned (.string y) ∧ Hid (y.data.toList = blkT nd O (d + 1) (O.getD c [])) ∧ y.size ≤ 800000000) ∧ Below V.heap.size V w') := fun V hV => h.bl c (by simp) (by have := hko.2.2; exact this) V (d + 1) _ hV HGN.out (by have := h.lt (a := c) (by simp); omega)
  have hl1 : [a, c].length = 2 := rfl
  rw [hl1] at hc
  clear hl1 h hp hko hG hd
  have HB0 := hid (Below.refl (W.heap.size + 1) (W.alloc (.cells #[.int .i64 13, .int .i64 0, .int .i64 0, .int .i64 0, .string t, .int .i64 kids] 63)))
  have HST : Hid (∀ V V', Below (W.heap.size + 1) (W.alloc (.cells #[.int .i64 13, .int .i64 0, .int .i64 0, .int .i64 0, .string t, .int .i64 kids] 63)) V → Below V.heap.size V V' → Below (W.heap.size + 1) (W.alloc (.cells #[.int .i64 13, .int .i64 0, .int .i64 0, .int .i64 0, .string t, .int .i64 kids] 63)) V') := fun V V' h h2 => h.trans (h2.mono (by have := h.size; simpa using this))
  have H6 : Hid (∀ V, Below (W.heap.size + 1) (W.alloc (.cells #[.int .i64 13, .int .i64 0, .int .i64 0, .int .i64 0, .string t, .int .i64 kids] 63)) V → _) := fun V h => six_new (by simpa using h)
  have HPN : Hid (∀ V, Below (W.heap.size + 1) (W.alloc (.cells #[.int .i64 13, .int .i64 0, .int .i64 0, .int .i64 0, .string t, .int .i64 kids] 63)) V → PenAt nd O N b cap g co P V) := fun V h => HP.out.next (btree h)
  have HRN : Hid (∀ V, Below (W.heap.size + 1) (W.alloc (.cells #[.int .i64 13, .int .i64 0, .int .i64 0, .int .i64 0, .string t, .int .i64 kids] 63)) V → RowAt V 3 gk ck [a, c].length (intRow [a, c])) := fun V h => HR.out.below (btree h) hgk
  have HS : Hid (∀ V, Below (W.heap.size + 1) (W.alloc (.cells #[.int .i64 13, .int .i64 0, .int .i64 0, .int .i64 0, .string t, .int .i64 kids] 63)) V → V.cell? ⟨gk, 0, none⟩ = some (.int .i64 (a : Nat)) ∧ V.cell? ⟨gk, 1, none⟩ = some (.int .i64 (c : Nat))) := fun V h => ⟨row_int (HRN.out V h) 0 (by simp), row_int (HRN.out V h) 1 (by simp)⟩
  have k0 : ¬ (9223372036854775807 < G.size + 2) := by omega
  have HT1 : Hid (svS nd O d j = [119, 104, 105, 108, 101, 32] ++ tvE nd O a ++ [32] ++ ([123, 10] ++ blkT nd O (d + 1) (O.getD c []) ++ gapB d ++ [125])) := HT.out.trans (by unfold sOf; rw [hks]; simp [hx, body_blk])
  clear HT hx hks
  go_enter Tryz.func46, Tryz.ntmps46
  go_wp2_with fail
  go_region_held3 (fun V => V.cell? ⟨gk, 0, none⟩ = some (.int .i64 (a : Nat)) ∧ V.cell? ⟨gk, 1, none⟩ = some (.int .i64 (c : Nat))) (first | (exact HS.out _ HB2.out) | (exact HS.out _ HB1.out) | (exact HS.out _ HB0.out.drew) | go_keep) (first
    | (have hgate := HB1.out; clear hgate; go_at_call 24; refine (HBL.out _ (HPN.out _ HB1.out)).mono ?_; rintro e w3 ⟨⟨y2, rfl, HY2, hy2⟩, hb2⟩; have HB2 := hid (HST.out _ _ HB1.out hb2); have k3 : ¬ (9223372036854775807 < 6 + y1.size + 3 + y2.size) := (by omega); have k4 : ¬ (9223372036854775807 < 6 + y1.size + 3 + y2.size + G.size) := (by omega); have k5 : ¬ (9223372036854775807 < 6 + y1.size + 3 + y2.size + G.size + 2) := (by omega); clear hb2)
    | (go_at_call 65; refine (HE0.out _ (HPN.out _ HB0.out.drew)).mono ?_; rintro e w2 ⟨⟨y1, rfl, HY1, hy1⟩, hb1⟩; have HB1 := hid (HST.out _ _ HB0.out.drew hb1); have k1 : ¬ (9223372036854775807 < 6 + y1.size) := (by omega); have k2 : ¬ (9223372036854775807 < 6 + y1.size + 3) := (by omega); clear hb1))
  go_wp2
  go_ret
  have hz := HLN.out
  refine ⟨⟨_, rfl, ?_, ?_⟩, btree HB2.out⟩
  · show _ = _
    rw [HT1.out]; simp [HY1.out, HY2.out, HG.out]
  · rw [HT1.out] at hz
    rw [← len_size]
    (simp [HY1.out, HY2.out, HG.out] at hz ⊢) <;> omega
end Go.Proofs.YtkngjbpbjjoneaaGreatDoor.Q
/-! Printed by gen_rstm.py. -/
namespace Go.Proofs.YtkngjbpbjjoneaaGreatDoor.Q
open Go.RowKit Go.Shelf
set_option maxRecDepth 20000
set_option maxHeartbeats 4000000 in
theorem stm_14 {nd : Nat → Nd} {O : List (List Nat)} {N b cap g co P j : Nat} {op ty n kids : Int} {t : ByteArray} {ks : List Nat} (h : SCtx nd O N b cap g co P j ⟨14, op, ty, n, t, kids⟩ ks) : StmtOk nd O N b cap g co P j := by
  intro W d G hp hG hd
  have H := hid h
  have HP := hid hp
  have HG := hid hG
  have HD := hid hd
  have hN := h.good.hN
  have hj := h.hj
  have HJ := hid hj
  have p0 := hp.c0
  have p1 := hp.c1
  have hpl0 := hp.pl
  have hgl0 := hp.gl
  have hGs : G.size ≤ 24002 := by rw [← len_size, hG, gapB_len]; omega
  have HGN : Hid ((G ++ ⟨#[32, 32]⟩ : ByteArray).data.toList = gapB (d + 1)) := by show _ = _; rw [ba_list, hG, gapB_succ]
  obtain ⟨gk, ck, hc, hgk, ⟨n0, n1, n2, n3, n4, n5⟩, HR⟩ := h.at hp
  dsimp only at n0 n1 n2 n3 n4 n5
  have hpl := (plain_14 _ _ _ _ _).1 h.plain
  have hko := (ko_14 _ _ _ _ _ _ _).1 h.kidsOk
  have HT := hid (h.sv d)
  have HLN := hid (h.good.slen d j hj hd).2
  have hx := h.hx
  have hks := h.hks
  obtain ⟨rfl, rfl, rfl, _⟩ := hpl
  have HT1 : Hid (svS nd O d j = [98, 114, 101, 97, 107, 59]) := HT.out.trans (by unfold sOf; simp [hx])
  clear HT hx hks h hp hko hG hd
  go_enter Tryz.func46, Tryz.ntmps46
  go_wp2
  go_ret
  have hz := HLN.out
  refine ⟨⟨_, rfl, ?_, ?_⟩, (Below.refl _ _).alloc (Nat.le_refl _) _⟩
  · show _ = _
    rw [HT1.out]; simp
  · rw [HT1.out] at hz
    rw [← len_size]
    (simp at hz ⊢) <;> omega
end Go.Proofs.YtkngjbpbjjoneaaGreatDoor.Q
/-! Printed by gen_rstm.py. -/
namespace Go.Proofs.YtkngjbpbjjoneaaGreatDoor.Q
open Go.RowKit Go.Shelf
set_option maxRecDepth 20000
set_option maxHeartbeats 4000000 in
theorem stm_15 {nd : Nat → Nd} {O : List (List Nat)} {N b cap g co P j : Nat} {op ty n kids : Int} {t : ByteArray} {ks : List Nat} (h : SCtx nd O N b cap g co P j ⟨15, op, ty, n, t, kids⟩ ks) : StmtOk nd O N b cap g co P j := by
  intro W d G hp hG hd
  have H := hid h
  have HP := hid hp
  have HG := hid hG
  have HD := hid hd
  have hN := h.good.hN
  have hj := h.hj
  have HJ := hid hj
  have p0 := hp.c0
  have p1 := hp.c1
  have hpl0 := hp.pl
  have hgl0 := hp.gl
  have hGs : G.size ≤ 24002 := by rw [← len_size, hG, gapB_len]; omega
  have HGN : Hid ((G ++ ⟨#[32, 32]⟩ : ByteArray).data.toList = gapB (d + 1)) := by show _ = _; rw [ba_list, hG, gapB_succ]
  obtain ⟨gk, ck, hc, hgk, ⟨n0, n1, n2, n3, n4, n5⟩, HR⟩ := h.at hp
  dsimp only at n0 n1 n2 n3 n4 n5
  have hpl := (plain_15 _ _ _ _ _).1 h.plain
  have hko := (ko_15 _ _ _ _ _ _ _).1 h.kidsOk
  have HT := hid (h.sv d)
  have HLN := hid (h.good.slen d j hj hd).2
  have hx := h.hx
  have hks := h.hks
  obtain ⟨rfl, rfl, rfl, _⟩ := hpl
  have HT1 : Hid (svS nd O d j = [99, 111, 110, 116, 105, 110, 117, 101, 59]) := HT.out.trans (by unfold sOf; simp [hx])
  clear HT hx hks h hp hko hG hd
  go_enter Tryz.func46, Tryz.ntmps46
  go_wp2
  go_ret
  have hz := HLN.out
  refine ⟨⟨_, rfl, ?_, ?_⟩, (Below.refl _ _).alloc (Nat.le_refl _) _⟩
  · show _ = _
    rw [HT1.out]; simp
  · rw [HT1.out] at hz
    rw [← len_size]
    (simp at hz ⊢) <;> omega
end Go.Proofs.YtkngjbpbjjoneaaGreatDoor.Q
/-! Printed by gen_rstm.py. -/
namespace Go.Proofs.YtkngjbpbjjoneaaGreatDoor.Q
open Go.RowKit Go.Shelf
set_option maxRecDepth 20000
set_option maxHeartbeats 4000000 in
theorem stm_16 {nd : Nat → Nd} {O : List (List Nat)} {N b cap g co P j : Nat} {op ty n kids : Int} {t : ByteArray} {ks : List Nat} (h : SCtx nd O N b cap g co P j ⟨16, op, ty, n, t, kids⟩ ks) : StmtOk nd O N b cap g co P j := by
  intro W d G hp hG hd
  have H := hid h
  have HP := hid hp
  have HG := hid hG
  have HD := hid hd
  have hN := h.good.hN
  have hj := h.hj
  have HJ := hid hj
  have p0 := hp.c0
  have p1 := hp.c1
  have hpl0 := hp.pl
  have hgl0 := hp.gl
  have hGs : G.size ≤ 24002 := by rw [← len_size, hG, gapB_len]; omega
  have HGN : Hid ((G ++ ⟨#[32, 32]⟩ : ByteArray).data.toList = gapB (d + 1)) := by show _ = _; rw [ba_list, hG, gapB_succ]
  obtain ⟨gk, ck, hc, hgk, ⟨n0, n1, n2, n3, n4, n5⟩, HR⟩ := h.at hp
  dsimp only at n0 n1 n2 n3 n4 n5
  have hpl := (plain_16 _ _ _ _ _).1 h.plain
  have hko := (ko_16 _ _ _ _ _ _ _).1 h.kidsOk
  have HT := hid (h.sv d)
  have HLN := hid (h.good.slen d j hj hd).2
  have hx := h.hx
  have hks := h.hks
  obtain ⟨rfl, rfl, rfl, _⟩ := hpl
  have hm : ks.length = 0 ∨ ks.length = 1 := by omega
  rcases hm with hm | hm
  · obtain rfl := List.eq_nil_of_length_eq_zero hm
    have HT1 : Hid (svS nd O d j = [114, 101, 116, 117, 114, 110] ++ [59]) := HT.out.trans (by unfold sOf; rw [hks]; simp [hx])
    rw [hm] at hc
    clear HT hx hks h hp hko hG hd hm
    go_enter Tryz.func46, Tryz.ntmps46
    go_wp2
    go_ret
    have hz := HLN.out
    refine ⟨⟨_, rfl, ?_, ?_⟩, (Below.refl _ _).alloc (Nat.le_refl _) _⟩
    · show _ = _
      rw [HT1.out]; simp
    · rw [HT1.out] at hz
      rw [← len_size]
      (simp at hz ⊢) <;> omega
  · obtain ⟨a, rfl⟩ := List.length_eq_one_iff.1 hm
    have HE0 := hid (h.ex (a := a) (by simp) (by have := hko.2 0 (by simp); exact this))
    clear hm
    have hl1 : [a].length = 1 := rfl
    rw [hl1] at hc
    clear hl1 h hp hko hG hd
    have HB0 := hid (Below.refl (W.heap.size + 1) (W.alloc (.cells #[.int .i64 16, .int .i64 0, .int .i64 0, .int .i64 0, .string t, .int .i64 kids] 63)))
    have HST : Hid (∀ V V', Below (W.heap.size + 1) (W.alloc (.cells #[.int .i64 16, .int .i64 0, .int .i64 0, .int .i64 0, .string t, .int .i64 kids] 63)) V → Below V.heap.size V V' → Below (W.heap.size + 1) (W.alloc (.cells #[.int .i64 16, .int .i64 0, .int .i64 0, .int .i64 0, .string t, .int .i64 kids] 63)) V') := fun V V' h h2 => h.trans (h2.mono (by have := h.size; simpa using this))
    have H6 : Hid (∀ V, Below (W.heap.size + 1) (W.alloc (.cells #[.int .i64 16, .int .i64 0, .int .i64 0, .int .i64 0, .string t, .int .i64 kids] 63)) V → _) := fun V h => six_new (by simpa using h)
    have HPN : Hid (∀ V, Below (W.heap.size + 1) (W.alloc (.cells #[.int .i64 16, .int .i64 0, .int .i64 0, .int .i64 0, .string t, .int .i64 kids] 63)) V → PenAt nd O N b cap g co P V) := fun V h => HP.out.next (btree h)
    have HRN : Hid (∀ V, Below (W.heap.size + 1) (W.alloc (.cells #[.int .i64 16, .int .i64 0, .int .i64 0, .int .i64 0, .string t, .int .i64 kids] 63)) V → RowAt V 3 gk ck [a].length (intRow [a])) := fun V h => HR.out.below (btree h) hgk
    have r0 := row_int HR.out 0 (by simp)
    have HT1 : Hid (svS nd O d j = [114, 101, 116, 117, 114, 110] ++ [32] ++ tvE nd O a ++ [59]) := HT.out.trans (by unfold sOf; rw [hks]; simp [hx])
    clear HT hx hks
    rw [show [a].getD 0 0 = a from rfl] at r0
    go_enter Tryz.func46, Tryz.ntmps46
    go_wp2_with fail
    refine (HE0.out _ (HPN.out _ HB0.out)).mono ?_
    rintro e w2 ⟨⟨y1, rfl, HY1, hy1⟩, hb1⟩
    have HB1 := hid (HST.out _ _ HB0.out hb1)
    clear hb1
    go_wp2
    go_ret
    have hz := HLN.out
    refine ⟨⟨_, rfl, ?_, ?_⟩, btree HB1.out⟩
    · show _ = _
      rw [HT1.out]; simp [HY1.out]
    · rw [HT1.out] at hz
      rw [← len_size]
      (simp [HY1.out] at hz ⊢) <;> omega
end Go.Proofs.YtkngjbpbjjoneaaGreatDoor.Q
/-! Printed by gen_rstm.py. -/
namespace Go.Proofs.YtkngjbpbjjoneaaGreatDoor.Q
open Go.RowKit Go.Shelf
set_option maxRecDepth 20000
set_option maxHeartbeats 4000000 in
theorem stm_17 {nd : Nat → Nd} {O : List (List Nat)} {N b cap g co P j : Nat} {op ty n kids : Int} {t : ByteArray} {ks : List Nat} (h : SCtx nd O N b cap g co P j ⟨17, op, ty, n, t, kids⟩ ks) : StmtOk nd O N b cap g co P j := by
  intro W d G hp hG hd
  have H := hid h
  have HP := hid hp
  have HG := hid hG
  have HD := hid hd
  have hN := h.good.hN
  have hj := h.hj
  have HJ := hid hj
  have p0 := hp.c0
  have p1 := hp.c1
  have hpl0 := hp.pl
  have hgl0 := hp.gl
  have hGs : G.size ≤ 24002 := by rw [← len_size, hG, gapB_len]; omega
  have HGN : Hid ((G ++ ⟨#[32, 32]⟩ : ByteArray).data.toList = gapB (d + 1)) := by show _ = _; rw [ba_list, hG, gapB_succ]
  obtain ⟨gk, ck, hc, hgk, ⟨n0, n1, n2, n3, n4, n5⟩, HR⟩ := h.at hp
  dsimp only at n0 n1 n2 n3 n4 n5
  have hpl := (plain_17 _ _ _ _ _).1 h.plain
  have hko := (ko_17 _ _ _ _ _ _ _).1 h.kidsOk
  have HT := hid (h.sv d)
  have HLN := hid (h.good.slen d j hj hd).2
  have hx := h.hx
  have hks := h.hks
  obtain ⟨rfl, rfl, rfl, _⟩ := hpl
  obtain ⟨a, rfl⟩ := List.length_eq_one_iff.1 hko.1
  have HE0 := hid (h.ex (a := a) (by simp) (by have := hko.2 0 (by simp); exact this))
  have hl1 : [a].length = 1 := rfl
  rw [hl1] at hc
  clear hl1 h hp hko hG hd
  have HB0 := hid (Below.refl (W.heap.size + 1) (W.alloc (.cells #[.int .i64 17, .int .i64 0, .int .i64 0, .int .i64 0, .string t, .int .i64 kids] 63)))
  have HST : Hid (∀ V V', Below (W.heap.size + 1) (W.alloc (.cells #[.int .i64 17, .int .i64 0, .int .i64 0, .int .i64 0, .string t, .int .i64 kids] 63)) V → Below V.heap.size V V' → Below (W.heap.size + 1) (W.alloc (.cells #[.int .i64 17, .int .i64 0, .int .i64 0, .int .i64 0, .string t, .int .i64 kids] 63)) V') := fun V V' h h2 => h.trans (h2.mono (by have := h.size; simpa using this))
  have H6 : Hid (∀ V, Below (W.heap.size + 1) (W.alloc (.cells #[.int .i64 17, .int .i64 0, .int .i64 0, .int .i64 0, .string t, .int .i64 kids] 63)) V → _) := fun V h => six_new (by simpa using h)
  have HPN : Hid (∀ V, Below (W.heap.size + 1) (W.alloc (.cells #[.int .i64 17, .int .i64 0, .int .i64 0, .int .i64 0, .string t, .int .i64 kids] 63)) V → PenAt nd O N b cap g co P V) := fun V h => HP.out.next (btree h)
  have HRN : Hid (∀ V, Below (W.heap.size + 1) (W.alloc (.cells #[.int .i64 17, .int .i64 0, .int .i64 0, .int .i64 0, .string t, .int .i64 kids] 63)) V → RowAt V 3 gk ck [a].length (intRow [a])) := fun V h => HR.out.below (btree h) hgk
  have r0 := row_int HR.out 0 (by simp)
  have HT1 : Hid (svS nd O d j = [102, 97, 105, 108, 32] ++ tvE nd O a ++ [59]) := HT.out.trans (by unfold sOf; rw [hks]; simp [hx])
  clear HT hx hks
  rw [show [a].getD 0 0 = a from rfl] at r0
  go_enter Tryz.func46, Tryz.ntmps46
  go_wp2_with fail
  refine (HE0.out _ (HPN.out _ HB0.out)).mono ?_
  rintro e w2 ⟨⟨y1, rfl, HY1, hy1⟩, hb1⟩
  have HB1 := hid (HST.out _ _ HB0.out hb1)
  clear hb1
  go_wp2
  go_ret
  have hz := HLN.out
  refine ⟨⟨_, rfl, ?_, ?_⟩, btree HB1.out⟩
  · show _ = _
    rw [HT1.out]; simp [HY1.out]
  · rw [HT1.out] at hz
    rw [← len_size]
    (simp [HY1.out] at hz ⊢) <;> omega
end Go.Proofs.YtkngjbpbjjoneaaGreatDoor.Q
/-! Printed by gen_rstm.py. -/
namespace Go.Proofs.YtkngjbpbjjoneaaGreatDoor.Q
open Go.RowKit Go.Shelf
set_option maxRecDepth 20000
set_option maxHeartbeats 4000000 in
theorem stm_18 {nd : Nat → Nd} {O : List (List Nat)} {N b cap g co P j : Nat} {op ty n kids : Int} {t : ByteArray} {ks : List Nat} (h : SCtx nd O N b cap g co P j ⟨18, op, ty, n, t, kids⟩ ks) : StmtOk nd O N b cap g co P j := by
  intro W d G hp hG hd
  have H := hid h
  have HP := hid hp
  have HG := hid hG
  have HD := hid hd
  have hN := h.good.hN
  have hj := h.hj
  have HJ := hid hj
  have p0 := hp.c0
  have p1 := hp.c1
  have hpl0 := hp.pl
  have hgl0 := hp.gl
  have hGs : G.size ≤ 24002 := by rw [← len_size, hG, gapB_len]; omega
  have HGN : Hid ((G ++ ⟨#[32, 32]⟩ : ByteArray).data.toList = gapB (d + 1)) := by show _ = _; rw [ba_list, hG, gapB_succ]
  obtain ⟨gk, ck, hc, hgk, ⟨n0, n1, n2, n3, n4, n5⟩, HR⟩ := h.at hp
  dsimp only at n0 n1 n2 n3 n4 n5
  have hpl := (plain_18 _ _ _ _ _).1 h.plain
  have hko := (ko_18 _ _ _ _ _ _ _).1 h.kidsOk
  have HT := hid (h.sv d)
  have HLN := hid (h.good.slen d j hj hd).2
  have hx := h.hx
  have hks := h.hks
  obtain ⟨rfl, rfl, rfl, _⟩ := hpl
  have HLI := hid (h.list (fun a ha => by
    obtain ⟨i, hi, rfl⟩ := mem_getD ha
    exact hko.2 i (by omega)))
  clear h hp hko hG hd
  have HB0 := hid (Below.refl (W.heap.size + 1) (W.alloc (.cells #[.int .i64 18, .int .i64 0, .int .i64 0, .int .i64 0, .string t, .int .i64 kids] 63)))
  have HST : Hid (∀ V V', Below (W.heap.size + 1) (W.alloc (.cells #[.int .i64 18, .int .i64 0, .int .i64 0, .int .i64 0, .string t, .int .i64 kids] 63)) V → Below V.heap.size V V' → Below (W.heap.size + 1) (W.alloc (.cells #[.int .i64 18, .int .i64 0, .int .i64 0, .int .i64 0, .string t, .int .i64 kids] 63)) V') := fun V V' h h2 => h.trans (h2.mono (by have := h.size; simpa using this))
  have H6 : Hid (∀ V, Below (W.heap.size + 1) (W.alloc (.cells #[.int .i64 18, .int .i64 0, .int .i64 0, .int .i64 0, .string t, .int .i64 kids] 63)) V → _) := fun V h => six_new (by simpa using h)
  have HPN : Hid (∀ V, Below (W.heap.size + 1) (W.alloc (.cells #[.int .i64 18, .int .i64 0, .int .i64 0, .int .i64 0, .string t, .int .i64 kids] 63)) V → PenAt nd O N b cap g co P V) := fun V h => HP.out.next (btree h)
  have HRN : Hid (∀ V, Below (W.heap.size + 1) (W.alloc (.cells #[.int .i64 18, .int .i64 0, .int .i64 0, .int .i64 0, .string t, .int .i64 kids] 63)) V → RowAt V 3 gk ck ks.length (intRow ks)) := fun V h => HR.out.below (btree h) hgk
  have HT1 : Hid (svS nd O d j = [119, 114, 105, 116, 101, 32] ++ joinOf (tvE nd O) ks ++ [59]) := HT.out.trans (by unfold sOf; rw [hks]; simp [hx])
  clear HT hx hks
  go_enter Tryz.func46, Tryz.ntmps46
  go_wp2_with fail
  refine (HLI.out gk ck _ (HPN.out _ HB0.out) (HRN.out _ HB0.out)).mono ?_
  rintro e w2 ⟨⟨y1, rfl, HY1, hy1⟩, hb1⟩
  have HB1 := hid (HST.out _ _ HB0.out hb1)
  clear hb1
  go_wp2
  go_ret
  have hz := HLN.out
  refine ⟨⟨_, rfl, ?_, ?_⟩, btree HB1.out⟩
  · show _ = _
    rw [HT1.out]; simp [HY1.out]
  · rw [HT1.out] at hz
    rw [← len_size]
    (simp [HY1.out] at hz ⊢) <;> omega
end Go.Proofs.YtkngjbpbjjoneaaGreatDoor.Q
/-! Printed by gen_rstm.py. -/
namespace Go.Proofs.YtkngjbpbjjoneaaGreatDoor.Q
open Go.RowKit Go.Shelf
set_option maxRecDepth 20000
set_option maxHeartbeats 4000000 in
theorem stm_19 {nd : Nat → Nd} {O : List (List Nat)} {N b cap g co P j : Nat} {op ty n kids : Int} {t : ByteArray} {ks : List Nat} (h : SCtx nd O N b cap g co P j ⟨19, op, ty, n, t, kids⟩ ks) : StmtOk nd O N b cap g co P j := by
  intro W d G hp hG hd
  have H := hid h
  have HP := hid hp
  have HG := hid hG
  have HD := hid hd
  have hN := h.good.hN
  have hj := h.hj
  have HJ := hid hj
  have p0 := hp.c0
  have p1 := hp.c1
  have hpl0 := hp.pl
  have hgl0 := hp.gl
  have hGs : G.size ≤ 24002 := by rw [← len_size, hG, gapB_len]; omega
  have HGN : Hid ((G ++ ⟨#[32, 32]⟩ : ByteArray).data.toList = gapB (d + 1)) := by show _ = _; rw [ba_list, hG, gapB_succ]
  obtain ⟨gk, ck, hc, hgk, ⟨n0, n1, n2, n3, n4, n5⟩, HR⟩ := h.at hp
  dsimp only at n0 n1 n2 n3 n4 n5
  have hpl := (plain_19 _ _ _ _ _).1 h.plain
  have hko := (ko_19 _ _ _ _ _ _ _).1 h.kidsOk
  have HT := hid (h.sv d)
  have HLN := hid (h.good.slen d j hj hd).2
  have hx := h.hx
  have hks := h.hks
  obtain ⟨rfl, rfl, rfl, _⟩ := hpl
  obtain ⟨a, rfl⟩ := List.length_eq_one_iff.1 hko.1
  have HE0 := hid (h.ex (a := a) (by simp) (by have := hko.2 0 (by simp); exact this))
  have hl1 : [a].length = 1 := rfl
  rw [hl1] at hc
  clear hl1 h hp hko hG hd
  have HB0 := hid (Below.refl (W.heap.size + 1) (W.alloc (.cells #[.int .i64 19, .int .i64 0, .int .i64 0, .int .i64 0, .string t, .int .i64 kids] 63)))
  have HST : Hid (∀ V V', Below (W.heap.size + 1) (W.alloc (.cells #[.int .i64 19, .int .i64 0, .int .i64 0, .int .i64 0, .string t, .int .i64 kids] 63)) V → Below V.heap.size V V' → Below (W.heap.size + 1) (W.alloc (.cells #[.int .i64 19, .int .i64 0, .int .i64 0, .int .i64 0, .string t, .int .i64 kids] 63)) V') := fun V V' h h2 => h.trans (h2.mono (by have := h.size; simpa using this))
  have H6 : Hid (∀ V, Below (W.heap.size + 1) (W.alloc (.cells #[.int .i64 19, .int .i64 0, .int .i64 0, .int .i64 0, .string t, .int .i64 kids] 63)) V → _) := fun V h => six_new (by simpa using h)
  have HPN : Hid (∀ V, Below (W.heap.size + 1) (W.alloc (.cells #[.int .i64 19, .int .i64 0, .int .i64 0, .int .i64 0, .string t, .int .i64 kids] 63)) V → PenAt nd O N b cap g co P V) := fun V h => HP.out.next (btree h)
  have HRN : Hid (∀ V, Below (W.heap.size + 1) (W.alloc (.cells #[.int .i64 19, .int .i64 0, .int .i64 0, .int .i64 0, .string t, .int .i64 kids] 63)) V → RowAt V 3 gk ck [a].length (intRow [a])) := fun V h => HR.out.below (btree h) hgk
  have r0 := row_int HR.out 0 (by simp)
  have HT1 : Hid (svS nd O d j = [115, 97, 121, 32] ++ tvE nd O a ++ [59]) := HT.out.trans (by unfold sOf; rw [hks]; simp [hx])
  clear HT hx hks
  rw [show [a].getD 0 0 = a from rfl] at r0
  go_enter Tryz.func46, Tryz.ntmps46
  go_wp2_with fail
  refine (HE0.out _ (HPN.out _ HB0.out)).mono ?_
  rintro e w2 ⟨⟨y1, rfl, HY1, hy1⟩, hb1⟩
  have HB1 := hid (HST.out _ _ HB0.out hb1)
  clear hb1
  go_wp2
  go_ret
  have hz := HLN.out
  refine ⟨⟨_, rfl, ?_, ?_⟩, btree HB1.out⟩
  · show _ = _
    rw [HT1.out]; simp [HY1.out]
  · rw [HT1.out] at hz
    rw [← len_size]
    (simp [HY1.out] at hz ⊢) <;> omega
end Go.Proofs.YtkngjbpbjjoneaaGreatDoor.Q
