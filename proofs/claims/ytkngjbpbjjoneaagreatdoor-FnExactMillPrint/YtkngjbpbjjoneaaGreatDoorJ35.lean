import Derived.Deep.RegionHeld3
import Derived.Test.YtkngjbpbjjoneaaGreatDoorJ33
/-! What a statement's walk starts from. Printed by gen_rstm.py. -/
namespace Go.Proofs.YtkngjbpbjjoneaaGreatDoor.Q
open Go.RowKit Go.Shelf
set_option maxRecDepth 20000
structure SCtx (nd : Nat → Nd) (O : List (List Nat)) (N b cap g co P j : Nat) (x : Nd) (ks : List Nat) : Prop where
  good : Good nd O N
  hj : j < N
  hx : nd j = x
  hks : O.getD j [] = ks
  plain : PlainNd x
  kidsOk : KidsOk x ks.length (fun i => (nd (ks.getD i 0)).kind)
  bl : ∀ c ∈ ks, (nd c).kind = 21 → BlockOk nd O N b cap g co P c
  st : ∀ c ∈ ks, (nd c).kind = 12 → StmtOk nd O N b cap g co P c
theorem SCtx.at {nd : Nat → Nd} {O : List (List Nat)} {N b cap g co P j : Nat} {x : Nd} {ks : List Nat} (h : SCtx nd O N b cap g co P j x ks) {W : World} (hp : PenAt nd O N b cap g co P W) :
    ∃ gk ck, W.cell? ⟨g, j, none⟩ = some (.slice (some ⟨gk, 0, none⟩) ks.length ck) ∧ gk < W.heap.size ∧ NodeAt W b j x ∧ Hid (RowAt W 3 gk ck ks.length (intRow ks)) := by
  have := hp.at h.hj
  rw [h.hks, h.hx] at this
  exact this
theorem SCtx.lt {nd : Nat → Nd} {O : List (List Nat)} {N b cap g co P j : Nat} {x : Nd} {ks : List Nat} (h : SCtx nd O N b cap g co P j x ks) {a : Nat} (ha : a ∈ ks) : a < j := h.good.down j a (by rw [h.hks]; exact ha)
theorem SCtx.ex {nd : Nat → Nd} {O : List (List Nat)} {N b cap g co P j : Nat} {x : Nd} {ks : List Nat} (h : SCtx nd O N b cap g co P j x ks) {a : Nat} (ha : a ∈ ks) (hE : mE (nd a).kind) (W : World) (hp : PenAt nd O N b cap g co P W) :
    Calls Tryz.prog 65 #[.pointer (some ⟨P, 0, none⟩), .int .i64 a] W fun e w' => (∃ y : ByteArray, e = .returned (.string y) ∧ Hid (y.data.toList = tvE nd O a) ∧ y.size ≤ 200000000) ∧ Below W.heap.size W w' := by
  have hlt := h.lt ha
  have hj := h.hj
  refine (expr_all h.good a (by omega) hE W hp).mono fun e w' ⟨hs, hb⟩ => ?_
  obtain ⟨y, h1, h2, h3⟩ := hs.get
  have := h.good.elen a (by omega)
  exact ⟨⟨y, h1, h2, by omega⟩, hb⟩
theorem SCtx.list {nd : Nat → Nd} {O : List (List Nat)} {N b cap g co P j : Nat} {x : Nd} {ks : List Nat} (h : SCtx nd O N b cap g co P j x ks) (hE : ∀ a ∈ ks, mE (nd a).kind) (gk ck : Nat) (W : World) (hp : PenAt nd O N b cap g co P W) (hr : RowAt W 3 gk ck ks.length (intRow ks)) :
    Calls Tryz.prog 66 #[.pointer (some ⟨P, 0, none⟩), .slice (some ⟨gk, 0, none⟩) ks.length ck] W fun e w' => (∃ y : ByteArray, e = .returned (.string y) ∧ Hid (y.data.toList = joinOf (tvE nd O) ks) ∧ y.size ≤ 1000000000) ∧ Below W.heap.size W w' := by
  have hj := h.hj
  have hjn : ∀ q, (joinOf (tvE nd O) (ks.take q)).length ≤ 1000000000 := by have := h.good.join j hj; rw [h.hks] at this; exact this
  have hkl : ks.length ≤ 12001 := by have := h.good.kl j hj; rw [h.hks] at this; exact this
  refine (list_any (.pointer (some ⟨P, 0, none⟩)) (tvE nd O) ks gk ck W (PenAt nd O N b cap g co P) (fun W W' h hb => h.next hb) hp hr hkl (fun k hk W hW => (expr_all h.good k (by have := h.lt hk; omega) (hE k hk) W hW).mono fun e w' ⟨h1, h2⟩ => ⟨str_eq'.1 h1, h2⟩) hjn).mono fun e w' ⟨h1, h2⟩ => ?_
  have hq := hjn ks.length
  rw [List.take_of_length_le (Nat.le_refl _)] at hq
  exact ⟨⟨_, h1, hid (by simp), by simpa [ByteArray.size] using hq⟩, h2⟩
theorem SCtx.sv {nd : Nat → Nd} {O : List (List Nat)} {N b cap g co P j : Nat} {x : Nd} {ks : List Nat} (h : SCtx nd O N b cap g co P j x ks) (d : Nat) : svS nd O d j = sOf nd O (tvE nd O) (svS nd O) d j := svS_eq h.good.down d j
end Go.Proofs.YtkngjbpbjjoneaaGreatDoor.Q
/-! Printed by gen_rstm.py. -/
namespace Go.Proofs.YtkngjbpbjjoneaaGreatDoor.Q
open Go.RowKit Go.Shelf
set_option maxRecDepth 20000
set_option maxHeartbeats 4000000 in
theorem stm_10 {nd : Nat → Nd} {O : List (List Nat)} {N b cap g co P j : Nat} {op ty n kids : Int} {t : ByteArray} {ks : List Nat} (h : SCtx nd O N b cap g co P j ⟨10, op, ty, n, t, kids⟩ ks) : StmtOk nd O N b cap g co P j := by
  intro W d G hp hG hd
  have H := hid h
  have HP := hid hp
  have HG := hid hG
  have HD := hid hd
  have hN := h.good.hN
  have hj := h.hj
  have HJ := hid hj
  have p0 := hp.c0
  have p1 := hp.c1
  have hpl0 := hp.pl
  have hgl0 := hp.gl
  have hGs : G.size ≤ 24002 := by rw [← len_size, hG, gapB_len]; omega
  have HGN : Hid ((G ++ ⟨#[32, 32]⟩ : ByteArray).data.toList = gapB (d + 1)) := by show _ = _; rw [ba_list, hG, gapB_succ]
  obtain ⟨gk, ck, hc, hgk, ⟨n0, n1, n2, n3, n4, n5⟩, HR⟩ := h.at hp
  dsimp only at n0 n1 n2 n3 n4 n5
  have hpl := (plain_10 _ _ _ _ _).1 h.plain
  have hko := (ko_10 _ _ _ _ _ _ _).1 h.kidsOk
  have HT := hid (h.sv d)
  have HLN := hid (h.good.slen d j hj hd).2
  have hx := h.hx
  have hks := h.hks
  obtain ⟨rfl, rfl, rfl, hnm⟩ := hpl
  have hts : t.size ≤ 30 := by obtain ⟨_, h2, _⟩ := hnm; exact h2
  clear hnm
  obtain ⟨a, rfl⟩ := List.length_eq_one_iff.1 hko.1
  have HE0 := hid (h.ex (a := a) (by simp) (by have := hko.2 0 (by simp); exact this))
  have hl1 : [a].length = 1 := rfl
  rw [hl1] at hc
  clear hl1 h hp hko hG hd
  have HB0 := hid (Below.refl (W.heap.size + 1) (W.alloc (.cells #[.int .i64 10, .int .i64 0, .int .i64 0, .int .i64 0, .string t, .int .i64 kids] 63)))
  have HST : Hid (∀ V V', Below (W.heap.size + 1) (W.alloc (.cells #[.int .i64 10, .int .i64 0, .int .i64 0, .int .i64 0, .string t, .int .i64 kids] 63)) V → Below V.heap.size V V' → Below (W.heap.size + 1) (W.alloc (.cells #[.int .i64 10, .int .i64 0, .int .i64 0, .int .i64 0, .string t, .int .i64 kids] 63)) V') := fun V V' h h2 => h.trans (h2.mono (by have := h.size; simpa using this))
  have H6 : Hid (∀ V, Below (W.heap.size + 1) (W.alloc (.cells #[.int .i64 10, .int .i64 0, .int .i64 0, .int .i64 0, .string t, .int .i64 kids] 63)) V → _) := fun V h => six_new (by simpa using h)
  have HPN : Hid (∀ V, Below (W.heap.size + 1) (W.alloc (.cells #[.int .i64 10, .int .i64 0, .int .i64 0, .int .i64 0, .string t, .int .i64 kids] 63)) V → PenAt nd O N b cap g co P V) := fun V h => HP.out.next (btree h)
  have HRN : Hid (∀ V, Below (W.heap.size + 1) (W.alloc (.cells #[.int .i64 10, .int .i64 0, .int .i64 0, .int .i64 0, .string t, .int .i64 kids] 63)) V → RowAt V 3 gk ck [a].length (intRow [a])) := fun V h => HR.out.below (btree h) hgk
  have HS : Hid (∀ V, Below (W.heap.size + 1) (W.alloc (.cells #[.int .i64 10, .int .i64 0, .int .i64 0, .int .i64 0, .string t, .int .i64 kids] 63)) V → V.cell? ⟨W.heap.size, 4, none⟩ = some (.string t) ∧ V.cell? ⟨gk, 0, none⟩ = some (.int .i64 (a : Nat))) := fun V h => ⟨(H6.out V h).2.2.2.2.1, row_int (HRN.out V h) 0 (by simp)⟩
  have HT1 : Hid (svS nd O d j = [108, 101, 116, 32] ++ t.data.toList ++ [32, 61, 32] ++ tvE nd O a ++ [59]) := HT.out.trans (by unfold sOf; rw [hks]; simp [hx])
  clear HT hx hks
  have k0 : ¬ (9223372036854775807 < 4 + t.size) := by omega
  have k1 : ¬ (9223372036854775807 < 4 + t.size + 3) := by omega
  go_enter Tryz.func46, Tryz.ntmps46
  go_wp2_with fail
  go_region_held3 (fun V => V.cell? ⟨W.heap.size, 4, none⟩ = some (.string t) ∧ V.cell? ⟨gk, 0, none⟩ = some (.int .i64 (a : Nat))) (first | (exact HS.out _ HB1.out) | (exact HS.out _ HB0.out.drew) | go_keep) (first
    | (go_at_call 65; refine (HE0.out _ (HPN.out _ HB0.out.drew)).mono ?_; rintro e w2 ⟨⟨y1, rfl, HY1, hy1⟩, hb1⟩; have HB1 := hid (HST.out _ _ HB0.out.drew hb1); have k2 : ¬ (9223372036854775807 < 4 + t.size + 3 + y1.size) := (by omega); have k3 : ¬ (9223372036854775807 < 4 + t.size + 3 + y1.size + 2) := (by omega); clear hb1))
  go_wp2
  go_ret
  have hz := HLN.out
  refine ⟨⟨_, rfl, ?_, ?_⟩, btree HB1.out⟩
  · show _ = _
    rw [HT1.out]; simp [HY1.out]
  · rw [HT1.out] at hz
    rw [← len_size]
    (simp [HY1.out] at hz ⊢) <;> omega
end Go.Proofs.YtkngjbpbjjoneaaGreatDoor.Q
/-! Printed by gen_rstm.py. -/
namespace Go.Proofs.YtkngjbpbjjoneaaGreatDoor.Q
open Go.RowKit Go.Shelf
set_option maxRecDepth 20000
set_option maxHeartbeats 4000000 in
theorem stm_11 {nd : Nat → Nd} {O : List (List Nat)} {N b cap g co P j : Nat} {op ty n kids : Int} {t : ByteArray} {ks : List Nat} (h : SCtx nd O N b cap g co P j ⟨11, op, ty, n, t, kids⟩ ks) : StmtOk nd O N b cap g co P j := by
  intro W d G hp hG hd
  have H := hid h
  have HP := hid hp
  have HG := hid hG
  have HD := hid hd
  have hN := h.good.hN
  have hj := h.hj
  have HJ := hid hj
  have p0 := hp.c0
  have p1 := hp.c1
  have hpl0 := hp.pl
  have hgl0 := hp.gl
  have hGs : G.size ≤ 24002 := by rw [← len_size, hG, gapB_len]; omega
  have HGN : Hid ((G ++ ⟨#[32, 32]⟩ : ByteArray).data.toList = gapB (d + 1)) := by show _ = _; rw [ba_list, hG, gapB_succ]
  obtain ⟨gk, ck, hc, hgk, ⟨n0, n1, n2, n3, n4, n5⟩, HR⟩ := h.at hp
  dsimp only at n0 n1 n2 n3 n4 n5
  have hpl := (plain_11 _ _ _ _ _).1 h.plain
  have hko := (ko_11 _ _ _ _ _ _ _).1 h.kidsOk
  have HT := hid (h.sv d)
  have HLN := hid (h.good.slen d j hj hd).2
  have hx := h.hx
  have hks := h.hks
  obtain ⟨rfl, rfl, rfl, hnm⟩ := hpl
  have hts : t.size ≤ 30 := by obtain ⟨_, h2, _⟩ := hnm; exact h2
  clear hnm
  obtain ⟨a, rfl⟩ := List.length_eq_one_iff.1 hko.1
  have HE0 := hid (h.ex (a := a) (by simp) (by have := hko.2 0 (by simp); exact this))
  have hl1 : [a].length = 1 := rfl
  rw [hl1] at hc
  clear hl1 h hp hko hG hd
  have HB0 := hid (Below.refl (W.heap.size + 1) (W.alloc (.cells #[.int .i64 11, .int .i64 0, .int .i64 0, .int .i64 0, .string t, .int .i64 kids] 63)))
  have HST : Hid (∀ V V', Below (W.heap.size + 1) (W.alloc (.cells #[.int .i64 11, .int .i64 0, .int .i64 0, .int .i64 0, .string t, .int .i64 kids] 63)) V → Below V.heap.size V V' → Below (W.heap.size + 1) (W.alloc (.cells #[.int .i64 11, .int .i64 0, .int .i64 0, .int .i64 0, .string t, .int .i64 kids] 63)) V') := fun V V' h h2 => h.trans (h2.mono (by have := h.size; simpa using this))
  have H6 : Hid (∀ V, Below (W.heap.size + 1) (W.alloc (.cells #[.int .i64 11, .int .i64 0, .int .i64 0, .int .i64 0, .string t, .int .i64 kids] 63)) V → _) := fun V h => six_new (by simpa using h)
  have HPN : Hid (∀ V, Below (W.heap.size + 1) (W.alloc (.cells #[.int .i64 11, .int .i64 0, .int .i64 0, .int .i64 0, .string t, .int .i64 kids] 63)) V → PenAt nd O N b cap g co P V) := fun V h => HP.out.next (btree h)
  have HRN : Hid (∀ V, Below (W.heap.size + 1) (W.alloc (.cells #[.int .i64 11, .int .i64 0, .int .i64 0, .int .i64 0, .string t, .int .i64 kids] 63)) V → RowAt V 3 gk ck [a].length (intRow [a])) := fun V h => HR.out.below (btree h) hgk
  have HS : Hid (∀ V, Below (W.heap.size + 1) (W.alloc (.cells #[.int .i64 11, .int .i64 0, .int .i64 0, .int .i64 0, .string t, .int .i64 kids] 63)) V → V.cell? ⟨W.heap.size, 4, none⟩ = some (.string t) ∧ V.cell? ⟨gk, 0, none⟩ = some (.int .i64 (a : Nat))) := fun V h => ⟨(H6.out V h).2.2.2.2.1, row_int (HRN.out V h) 0 (by simp)⟩
  have HT1 : Hid (svS nd O d j = t.data.toList ++ [32, 61, 32] ++ tvE nd O a ++ [59]) := HT.out.trans (by unfold sOf; rw [hks]; simp [hx])
  clear HT hx hks
  have k1 : ¬ (9223372036854775807 < t.size + 3) := by omega
  go_enter Tryz.func46, Tryz.ntmps46
  go_wp2_with fail
  go_region_held3 (fun V => V.cell? ⟨W.heap.size, 4, none⟩ = some (.string t) ∧ V.cell? ⟨gk, 0, none⟩ = some (.int .i64 (a : Nat))) (first | (exact HS.out _ HB1.out) | (exact HS.out _ HB0.out.drew) | go_keep) (first
    | (go_at_call 65; refine (HE0.out _ (HPN.out _ HB0.out.drew)).mono ?_; rintro e w2 ⟨⟨y1, rfl, HY1, hy1⟩, hb1⟩; have HB1 := hid (HST.out _ _ HB0.out.drew hb1); have k2 : ¬ (9223372036854775807 < t.size + 3 + y1.size) := (by omega); have k3 : ¬ (9223372036854775807 < t.size + 3 + y1.size + 2) := (by omega); clear hb1))
  go_wp2
  go_ret
  have hz := HLN.out
  refine ⟨⟨_, rfl, ?_, ?_⟩, btree HB1.out⟩
  · show _ = _
    rw [HT1.out]; simp [HY1.out]
  · rw [HT1.out] at hz
    rw [← len_size]
    (simp [HY1.out] at hz ⊢) <;> omega
end Go.Proofs.YtkngjbpbjjoneaaGreatDoor.Q
