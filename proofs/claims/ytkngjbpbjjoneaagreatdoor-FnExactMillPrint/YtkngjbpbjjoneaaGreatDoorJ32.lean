import Derived.Deep.RegionHeld3
import Derived.Test.YtkngjbpbjjoneaaGreatDoorJ29
import Derived.Test.YtkngjbpbjjoneaaGreatDoorJ20
/-! The model's expr, kind by kind. Printed by gen_rexpr.py. -/
namespace Go.Proofs.YtkngjbpbjjoneaaGreatDoor.Q
open Go.RowKit Go.Shelf
set_option maxRecDepth 20000
/-- What every case starts from. -/
structure Ctx (nd : Nat → Nd) (O : List (List Nat)) (N b cap g co P j : Nat) (x : Nd) (ks : List Nat) : Prop where
  down : Down O
  hN : N ≤ 12001
  hj : j < N
  hx : nd j = x
  hks : O.getD j [] = ks
  plain : PlainNd x
  kidsOk : KidsOk x ks.length (fun i => (nd (ks.getD i 0)).kind)
  len : ∀ k, k < N → (tvE nd O k).length ≤ 200000000
  kl : ks.length ≤ 12001
  join : ∀ q, (joinOf (tvE nd O) (ks.take q)).length ≤ 1000000000
  kid : ∀ k ∈ ks, k < N ∧ ExprOk nd O N b cap g co P k
theorem Ctx.tv {nd : Nat → Nd} {O : List (List Nat)} {N b cap g co P j : Nat} {x : Nd} {ks : List Nat} (h : Ctx nd O N b cap g co P j x ks) : tvE nd O j = eOf nd x ks (tvE nd O) := by rw [tvE_eq h.down, h.hx, h.hks]
theorem Ctx.at {nd : Nat → Nd} {O : List (List Nat)} {N b cap g co P j : Nat} {x : Nd} {ks : List Nat} (h : Ctx nd O N b cap g co P j x ks) {W : World} (hp : PenAt nd O N b cap g co P W) :
    ∃ gk ck, W.cell? ⟨g, j, none⟩ = some (.slice (some ⟨gk, 0, none⟩) ks.length ck) ∧ gk < W.heap.size ∧ NodeAt W b j x ∧ Hid (RowAt W 3 gk ck ks.length (intRow ks)) := by
  have := hp.at h.hj
  rw [h.hks, h.hx] at this
  exact this
theorem unMark_q (op : Int) (h1 : 1 ≤ op) (h2 : op ≤ 3) (w : World) :
    Calls Tryz.prog 86 #[.int .i64 op] w fun e w' => (∃ y : ByteArray, e = .returned (.string y) ∧ Hid (y.data.toList = unB op) ∧ y.size ≤ 10) ∧ w' = w :=
  (l11UnMark_any op h1 h2 w).mono fun _ _ ⟨h3, h4⟩ => ⟨⟨_, h3, hid (by simp), by have := unB_len op; show (unB op).toArray.size ≤ _; simp; omega⟩, h4⟩
theorem mark_q (op : Int) (h1 : 1 ≤ op) (h2 : op ≤ 18) (w : World) :
    Calls Tryz.prog 88 #[.int .i64 op] w fun e w' => (∃ (y : ByteArray) (r : Int), e = .returned (.tuple #[.string y, .int .i64 r]) ∧ Hid (y.data.toList = mkB op) ∧ y.size ≤ 10) ∧ w' = w :=
  (l11Mark_any op h1 h2 w).mono fun _ _ ⟨⟨r, h3⟩, h4⟩ => ⟨⟨_, r, h3, hid (by simp), by have := mkB_len op; show (mkB op).toArray.size ≤ _; simp; omega⟩, h4⟩
theorem built_q (op : Int) (h1 : 1 ≤ op) (h2 : op ≤ 12) (w : World) :
    Calls Tryz.prog 44 #[.int .i64 op] w fun e w' => (∃ (y : ByteArray) (r : Int), e = .returned (.tuple #[.string y, .int .i64 r]) ∧ Hid (y.data.toList = bwB op) ∧ y.size ≤ 10) ∧ w' = w :=
  (builtWord_any op h1 h2 w).mono fun _ _ ⟨⟨r, h3⟩, h4⟩ => ⟨⟨_, r, h3, hid (by simp), by have := bwB_len op; show (bwB op).toArray.size ≤ _; simp; omega⟩, h4⟩
theorem typeW_q (t : Int) (h1 : 1 ≤ t) (h2 : t ≤ 10) (w : World) :
    Calls Tryz.prog 23 #[.int .i64 t] w fun e w' => (∃ y : ByteArray, e = .returned (.string y) ∧ Hid (y.data.toList = twB t) ∧ y.size ≤ 10) ∧ w' = w :=
  (typeWord_any t h1 h2 w).mono fun _ _ ⟨h3, h4⟩ => ⟨⟨_, h3, hid (by simp), by have := twB_len t; show (twB t).toArray.size ≤ _; simp; omega⟩, h4⟩
theorem dec_q (u : Nat) (w : World) (h : u < 18446744073709551616) :
    Calls Tryz.prog 84 #[.int .u64 u] w fun e w' => (∃ y : ByteArray, e = .returned (.string y) ∧ Hid (y.data.toList = Lib.decDigits u) ∧ y.size ≤ 20) ∧ Below w.heap.size w w' :=
  (l10Decimal_any u w h).mono fun _ _ ⟨h3, h4⟩ => ⟨⟨_, h3, hid (by simp), by have := decDigits_len u h; show (Lib.decDigits u).toArray.size ≤ _; simp; omega⟩, h4⟩
theorem Ctx.held {nd : Nat → Nd} {O : List (List Nat)} {N b cap g co P j : Nat} {x : Nd} {ks : List Nat} (h : Ctx nd O N b cap g co P j x ks) (i : Nat) (hi : i < ks.length) (W : World) (hp : PenAt nd O N b cap g co P W) :
    Calls Tryz.prog 87 #[.pointer (some ⟨P, 0, none⟩), .int .i64 (ks.getD i 0 : Nat)] W fun e w' => (∃ y : ByteArray, e = .returned (.string y) ∧ Hid (y.data.toList = heldOf nd (tvE nd O) (ks.getD i 0)) ∧ y.size ≤ 200000002) ∧ Below W.heap.size W w' := by
  have hm : ks.getD i 0 ∈ ks := by rw [List.getD_eq_getElem?_getD, List.getElem?_eq_getElem hi]; exact List.getElem_mem hi
  have hk := h.kid _ hm
  refine (held_any hk.1 hk.2 (h.len _ hk.1) W hp).mono fun e w' ⟨hs, hb⟩ => ?_
  obtain ⟨y, h1, h2, h3⟩ := hs.get
  have := held_len nd (tvE nd O) (ks.getD i 0)
  have := h.len _ hk.1
  exact ⟨⟨y, h1, h2, by omega⟩, hb⟩
theorem Ctx.list {nd : Nat → Nd} {O : List (List Nat)} {N b cap g co P j : Nat} {x : Nd} {ks : List Nat} (h : Ctx nd O N b cap g co P j x ks) (gk ck : Nat) (W : World) (hp : PenAt nd O N b cap g co P W) (hr : RowAt W 3 gk ck ks.length (intRow ks)) :
    Calls Tryz.prog 66 #[.pointer (some ⟨P, 0, none⟩), .slice (some ⟨gk, 0, none⟩) ks.length ck] W fun e w' => (∃ y : ByteArray, e = .returned (.string y) ∧ Hid (y.data.toList = joinOf (tvE nd O) ks) ∧ y.size ≤ 1000000000) ∧ Below W.heap.size W w' := by
  refine (list_any (.pointer (some ⟨P, 0, none⟩)) (tvE nd O) ks gk ck W (PenAt nd O N b cap g co P) (fun W W' h hb => h.next hb) hp hr h.kl (fun k hk W hW => ((h.kid k hk).2 W hW).mono fun e w' ⟨h1, h2⟩ => ⟨str_eq'.1 h1, h2⟩) h.join).mono fun e w' ⟨h1, h2⟩ => ?_
  have hq := h.join ks.length
  rw [List.take_of_length_le (Nat.le_refl _)] at hq
  exact ⟨⟨_, h1, hid (by simp), by simpa [ByteArray.size] using hq⟩, h2⟩
end Go.Proofs.YtkngjbpbjjoneaaGreatDoor.Q
/-! Printed by gen_rexpr.py. -/
namespace Go.Proofs.YtkngjbpbjjoneaaGreatDoor.Q
open Go.RowKit Go.Shelf
set_option maxRecDepth 20000
set_option maxHeartbeats 2000000 in
theorem expr_1 {nd : Nat → Nd} {O : List (List Nat)} {N b cap g co P j : Nat} {op ty n kids : Int} {t : ByteArray} {ks : List Nat} (h : Ctx nd O N b cap g co P j ⟨1, op, ty, n, t, kids⟩ ks) : ExprOk nd O N b cap g co P j := by
  intro W hp
  have H := hid h
  have HP := hid hp
  have hN := h.hN
  have hj := h.hj
  have p0 := hp.c0
  have p1 := hp.c1
  have hpl0 := hp.pl
  have hgl0 := hp.gl
  obtain ⟨gk, ck, hc, hgk, ⟨n0, n1, n2, n3, n4, n5⟩, HR⟩ := h.at hp
  dsimp only at n0 n1 n2 n3 n4 n5
  have hpl := (plain_1 _ _ _ _ _).1 h.plain
  have hko := (ko_1 _ _ _ _ _ _ _).1 h.kidsOk
  have HT := hid h.tv
  obtain ⟨rfl, _, T, rfl, hT3, hT10, _⟩ := hpl
  clear h hp hko
  obtain ⟨u, hu⟩ : ∃ u : Nat, IntKind.u64.wrap n = (u : Int) := ⟨(IntKind.u64.wrap n).toNat, by have := IntKind.wrap_u64 n; omega⟩
  have hu2 : u < 18446744073709551616 := by have := IntKind.wrap_u64 n; omega
  have HB0 := hid (Below.refl (W.heap.size + 1) (W.alloc (.cells #[.int .i64 1, .int .i64 0, .int .i64 T, .int .i64 n, .string t, .int .i64 kids] 63)))
  have HST : Hid (∀ V V', Below (W.heap.size + 1) (W.alloc (.cells #[.int .i64 1, .int .i64 0, .int .i64 T, .int .i64 n, .string t, .int .i64 kids] 63)) V → Below V.heap.size V V' → Below (W.heap.size + 1) (W.alloc (.cells #[.int .i64 1, .int .i64 0, .int .i64 T, .int .i64 n, .string t, .int .i64 kids] 63)) V') := fun V V' h h2 => h.trans (h2.mono (by have := h.size; simpa using this))
  have H6 : Hid (∀ V, Below (W.heap.size + 1) (W.alloc (.cells #[.int .i64 1, .int .i64 0, .int .i64 T, .int .i64 n, .string t, .int .i64 kids] 63)) V → _) := fun V h => six_new (by simpa using h)
  have HPN : Hid (∀ V, Below (W.heap.size + 1) (W.alloc (.cells #[.int .i64 1, .int .i64 0, .int .i64 T, .int .i64 n, .string t, .int .i64 kids] 63)) V → PenAt nd O N b cap g co P V) := fun V h => HP.out.next (btree h)
  have HRN : Hid (∀ V, Below (W.heap.size + 1) (W.alloc (.cells #[.int .i64 1, .int .i64 0, .int .i64 T, .int .i64 n, .string t, .int .i64 kids] 63)) V → RowAt V 3 gk ck ks.length (intRow ks)) := fun V h => HR.out.below (btree h) hgk
  by_cases h10 : T = 10
  · subst h10
    have HT1 : Hid (tvE nd O j = Lib.decDigits u) := HT.out.trans (by simp [eOf, hu])
    clear HT
    go_enter Tryz.func65, Tryz.ntmps65
    go_wp2_with fail
    refine (l10Decimal_any u _ hu2).mono ?_
    rintro e w1 ⟨rfl, hb1⟩
    have HB1 := hid (HST.out _ _ HB0.out hb1)
    clear hb1
    go_wp2
    go_ret
    exact ⟨str_of HT1.out.symm, btree HB1.out⟩
  · have h10' : ((T : Int) == 10) = false := by simpa using (by omega : ¬ (T : Int) = 10)
    have HT1 : Hid (tvE nd O j = Lib.decDigits u ++ twB T) := HT.out.trans (by simp [eOf, hu]; omega)
    clear h10 HT
    have hT1 : (1 : Int) ≤ (T : Int) := by omega
    have hT2 : (T : Int) ≤ 10 := by omega
    have HS : Hid (∀ V, Below (W.heap.size + 1) (W.alloc (.cells #[.int .i64 1, .int .i64 0, .int .i64 T, .int .i64 n, .string t, .int .i64 kids] 63)) V → V.cell? ⟨W.heap.size, 3, none⟩ = some (.int .i64 n) ∧ V.cell? ⟨W.heap.size, 2, none⟩ = some (.int .i64 (T : Int))) := fun V h => ⟨(H6.out V h).2.2.2.1, (H6.out V h).2.2.1⟩
    go_enter Tryz.func65, Tryz.ntmps65
    go_wp2_with fail
    go_region_held3 (fun V => V.cell? ⟨W.heap.size, 3, none⟩ = some (.int .i64 n) ∧ V.cell? ⟨W.heap.size, 2, none⟩ = some (.int .i64 (T : Int))) (first | (exact HS.out _ HB1.out) | (exact HS.out _ HB0.out.drew) | go_keep) (first
      | (go_at_call 84; refine (dec_q u _ hu2).mono ?_; rintro e w1 ⟨⟨y1, rfl, HY1, hy1⟩, hb1⟩; have HB1 := hid (HST.out _ _ HB0.out.drew hb1); clear hb1)
      | (go_at_call 23; refine (typeW_q T hT1 hT2 _).mono ?_; rintro e w2 ⟨⟨y2, rfl, HY2, hy2⟩, hw2⟩; have e2 := hw2.symm; subst e2; have k1 : ¬ (9223372036854775807 < y1.size + y2.size) := (by omega)))
    go_wp2
    go_ret
    exact ⟨str_of (by rw [HT1.out, ba_list, HY1.out, HY2.out]), btree HB1.out⟩
end Go.Proofs.YtkngjbpbjjoneaaGreatDoor.Q
/-! Printed by gen_rexpr.py. -/
namespace Go.Proofs.YtkngjbpbjjoneaaGreatDoor.Q
open Go.RowKit Go.Shelf
set_option maxRecDepth 20000
set_option maxHeartbeats 2000000 in
theorem expr_2 {nd : Nat → Nd} {O : List (List Nat)} {N b cap g co P j : Nat} {op ty n kids : Int} {t : ByteArray} {ks : List Nat} (h : Ctx nd O N b cap g co P j ⟨2, op, ty, n, t, kids⟩ ks) : ExprOk nd O N b cap g co P j := by
  intro W hp
  have H := hid h
  have HP := hid hp
  have hN := h.hN
  have hj := h.hj
  have p0 := hp.c0
  have p1 := hp.c1
  have hpl0 := hp.pl
  have hgl0 := hp.gl
  obtain ⟨gk, ck, hc, hgk, ⟨n0, n1, n2, n3, n4, n5⟩, HR⟩ := h.at hp
  dsimp only at n0 n1 n2 n3 n4 n5
  have hpl := (plain_2 _ _ _ _ _).1 h.plain
  have hko := (ko_2 _ _ _ _ _ _ _).1 h.kidsOk
  have HT := hid h.tv
  obtain ⟨rfl, rfl, rfl, hts⟩ := hpl
  clear h hp hko
  have HB0 := hid (Below.refl (W.heap.size + 1) (W.alloc (.cells #[.int .i64 2, .int .i64 0, .int .i64 0, .int .i64 0, .string t, .int .i64 kids] 63)))
  have HST : Hid (∀ V V', Below (W.heap.size + 1) (W.alloc (.cells #[.int .i64 2, .int .i64 0, .int .i64 0, .int .i64 0, .string t, .int .i64 kids] 63)) V → Below V.heap.size V V' → Below (W.heap.size + 1) (W.alloc (.cells #[.int .i64 2, .int .i64 0, .int .i64 0, .int .i64 0, .string t, .int .i64 kids] 63)) V') := fun V V' h h2 => h.trans (h2.mono (by have := h.size; simpa using this))
  have H6 : Hid (∀ V, Below (W.heap.size + 1) (W.alloc (.cells #[.int .i64 2, .int .i64 0, .int .i64 0, .int .i64 0, .string t, .int .i64 kids] 63)) V → _) := fun V h => six_new (by simpa using h)
  have HPN : Hid (∀ V, Below (W.heap.size + 1) (W.alloc (.cells #[.int .i64 2, .int .i64 0, .int .i64 0, .int .i64 0, .string t, .int .i64 kids] 63)) V → PenAt nd O N b cap g co P V) := fun V h => HP.out.next (btree h)
  have HRN : Hid (∀ V, Below (W.heap.size + 1) (W.alloc (.cells #[.int .i64 2, .int .i64 0, .int .i64 0, .int .i64 0, .string t, .int .i64 kids] 63)) V → RowAt V 3 gk ck ks.length (intRow ks)) := fun V h => HR.out.below (btree h) hgk
  have HT1 : Hid (tvE nd O j = quoteL t.data.toList) := HT.out.trans (by simp [eOf])
  clear HT
  go_enter Tryz.func65, Tryz.ntmps65
  go_wp2_with fail
  refine (l10Quote_any t _ (by omega)).mono ?_
  rintro e w1 ⟨rfl, hb1⟩
  have HB1 := hid (HST.out _ _ HB0.out hb1)
  clear hb1
  go_wp2
  go_ret
  exact ⟨str_of HT1.out.symm, btree HB1.out⟩
end Go.Proofs.YtkngjbpbjjoneaaGreatDoor.Q
/-! Printed by gen_rexpr.py. -/
namespace Go.Proofs.YtkngjbpbjjoneaaGreatDoor.Q
open Go.RowKit Go.Shelf
set_option maxRecDepth 20000
set_option maxHeartbeats 2000000 in
theorem expr_3 {nd : Nat → Nd} {O : List (List Nat)} {N b cap g co P j : Nat} {op ty n kids : Int} {t : ByteArray} {ks : List Nat} (h : Ctx nd O N b cap g co P j ⟨3, op, ty, n, t, kids⟩ ks) : ExprOk nd O N b cap g co P j := by
  intro W hp
  have H := hid h
  have HP := hid hp
  have hN := h.hN
  have hj := h.hj
  have p0 := hp.c0
  have p1 := hp.c1
  have hpl0 := hp.pl
  have hgl0 := hp.gl
  obtain ⟨gk, ck, hc, hgk, ⟨n0, n1, n2, n3, n4, n5⟩, HR⟩ := h.at hp
  dsimp only at n0 n1 n2 n3 n4 n5
  have hpl := (plain_3 _ _ _ _ _).1 h.plain
  have hko := (ko_3 _ _ _ _ _ _ _).1 h.kidsOk
  have HT := hid h.tv
  obtain ⟨rfl, rfl, _, hn01⟩ := hpl
  clear h hp hko
  rcases hn01 with rfl | rfl
  · have HT1 : Hid (tvE nd O j = [102, 97, 108, 115, 101]) := HT.out.trans (by simp [eOf])
    clear HT
    go_enter Tryz.func65, Tryz.ntmps65
    go_wp2
    go_ret
    exact ⟨str_of HT1.out.symm, (Below.refl _ _).alloc (Nat.le_refl _) _⟩
  · have HT1 : Hid (tvE nd O j = [116, 114, 117, 101]) := HT.out.trans (by simp [eOf])
    clear HT
    go_enter Tryz.func65, Tryz.ntmps65
    go_wp2
    go_ret
    exact ⟨str_of HT1.out.symm, (Below.refl _ _).alloc (Nat.le_refl _) _⟩
end Go.Proofs.YtkngjbpbjjoneaaGreatDoor.Q
/-! Printed by gen_rexpr.py. -/
namespace Go.Proofs.YtkngjbpbjjoneaaGreatDoor.Q
open Go.RowKit Go.Shelf
set_option maxRecDepth 20000
set_option maxHeartbeats 2000000 in
theorem expr_4 {nd : Nat → Nd} {O : List (List Nat)} {N b cap g co P j : Nat} {op ty n kids : Int} {t : ByteArray} {ks : List Nat} (h : Ctx nd O N b cap g co P j ⟨4, op, ty, n, t, kids⟩ ks) : ExprOk nd O N b cap g co P j := by
  intro W hp
  have H := hid h
  have HP := hid hp
  have hN := h.hN
  have hj := h.hj
  have p0 := hp.c0
  have p1 := hp.c1
  have hpl0 := hp.pl
  have hgl0 := hp.gl
  obtain ⟨gk, ck, hc, hgk, ⟨n0, n1, n2, n3, n4, n5⟩, HR⟩ := h.at hp
  dsimp only at n0 n1 n2 n3 n4 n5
  have hpl := (plain_4 _ _ _ _ _).1 h.plain
  have hko := (ko_4 _ _ _ _ _ _ _).1 h.kidsOk
  have HT := hid h.tv
  obtain ⟨rfl, rfl, rfl, _⟩ := hpl
  clear h hp hko
  have HT1 : Hid (tvE nd O j = t.data.toList) := HT.out.trans (by simp [eOf])
  clear HT
  go_enter Tryz.func65, Tryz.ntmps65
  go_wp2
  go_ret
  exact ⟨str_of HT1.out.symm, (Below.refl _ _).alloc (Nat.le_refl _) _⟩
end Go.Proofs.YtkngjbpbjjoneaaGreatDoor.Q
/-! Printed by gen_rexpr.py. -/
namespace Go.Proofs.YtkngjbpbjjoneaaGreatDoor.Q
open Go.RowKit Go.Shelf
set_option maxRecDepth 20000
set_option maxHeartbeats 2000000 in
theorem expr_5 {nd : Nat → Nd} {O : List (List Nat)} {N b cap g co P j : Nat} {op ty n kids : Int} {t : ByteArray} {ks : List Nat} (h : Ctx nd O N b cap g co P j ⟨5, op, ty, n, t, kids⟩ ks) : ExprOk nd O N b cap g co P j := by
  intro W hp
  have H := hid h
  have HP := hid hp
  have hN := h.hN
  have hj := h.hj
  have p0 := hp.c0
  have p1 := hp.c1
  have hpl0 := hp.pl
  have hgl0 := hp.gl
  obtain ⟨gk, ck, hc, hgk, ⟨n0, n1, n2, n3, n4, n5⟩, HR⟩ := h.at hp
  dsimp only at n0 n1 n2 n3 n4 n5
  have hpl := (plain_5 _ _ _ _ _).1 h.plain
  have hko := (ko_5 _ _ _ _ _ _ _).1 h.kidsOk
  have HT := hid h.tv
  obtain ⟨rfl, rfl, _, hop1, hop2⟩ := hpl
  obtain ⟨a, rfl⟩ := List.length_eq_one_iff.1 hko.1
  have HE0 : Hid (∀ V, PenAt nd O N b cap g co P V → Calls Tryz.prog 87 #[.pointer (some ⟨P, 0, none⟩), .int .i64 (a : Nat)] V fun e w' => (∃ y : ByteArray, e = .returned (.string y) ∧ Hid (y.data.toList = heldOf nd (tvE nd O) a) ∧ y.size ≤ 200000002) ∧ Below V.heap.size V w') := fun V hV => H.out.held 0 (by simp) V hV
  clear h hp hko
  have HB0 := hid (Below.refl (W.heap.size + 1) (W.alloc (.cells #[.int .i64 5, .int .i64 op, .int .i64 0, .int .i64 0, .string t, .int .i64 kids] 63)))
  have HST : Hid (∀ V V', Below (W.heap.size + 1) (W.alloc (.cells #[.int .i64 5, .int .i64 op, .int .i64 0, .int .i64 0, .string t, .int .i64 kids] 63)) V → Below V.heap.size V V' → Below (W.heap.size + 1) (W.alloc (.cells #[.int .i64 5, .int .i64 op, .int .i64 0, .int .i64 0, .string t, .int .i64 kids] 63)) V') := fun V V' h h2 => h.trans (h2.mono (by have := h.size; simpa using this))
  have H6 : Hid (∀ V, Below (W.heap.size + 1) (W.alloc (.cells #[.int .i64 5, .int .i64 op, .int .i64 0, .int .i64 0, .string t, .int .i64 kids] 63)) V → _) := fun V h => six_new (by simpa using h)
  have HPN : Hid (∀ V, Below (W.heap.size + 1) (W.alloc (.cells #[.int .i64 5, .int .i64 op, .int .i64 0, .int .i64 0, .string t, .int .i64 kids] 63)) V → PenAt nd O N b cap g co P V) := fun V h => HP.out.next (btree h)
  have HRN : Hid (∀ V, Below (W.heap.size + 1) (W.alloc (.cells #[.int .i64 5, .int .i64 op, .int .i64 0, .int .i64 0, .string t, .int .i64 kids] 63)) V → RowAt V 3 gk ck [a].length (intRow [a])) := fun V h => HR.out.below (btree h) hgk
  have HS : Hid (∀ V, Below (W.heap.size + 1) (W.alloc (.cells #[.int .i64 5, .int .i64 op, .int .i64 0, .int .i64 0, .string t, .int .i64 kids] 63)) V → V.cell? ⟨W.heap.size, 1, none⟩ = some (.int .i64 op) ∧ V.cell? ⟨gk, 0, none⟩ = some (.int .i64 (a : Nat))) := fun V h => ⟨(H6.out V h).2.1, row_int (HRN.out V h) 0 (by simp)⟩
  have HT1 : Hid (tvE nd O j = unB op ++ heldOf nd (tvE nd O) a) := HT.out.trans (by simp [eOf])
  clear HT
  have hl1 : [a].length = 1 := rfl
  rw [hl1] at hc
  clear hl1
  go_enter Tryz.func65, Tryz.ntmps65
  go_wp2_with fail
  go_region_held3 (fun V => V.cell? ⟨W.heap.size, 1, none⟩ = some (.int .i64 op) ∧ V.cell? ⟨gk, 0, none⟩ = some (.int .i64 (a : Nat))) (first | (exact HS.out _ HB2.out) | (exact HS.out _ HB0.out.drew) | go_keep) (first
    | (go_at_call 86; refine (unMark_q op hop1 hop2 _).mono ?_; rintro e w1 ⟨⟨y1, rfl, HY1, hy1⟩, hw1⟩; have e1 := hw1.symm; subst e1)
    | (go_at_call 87; refine (HE0.out _ (HPN.out _ HB0.out.drew)).mono ?_; rintro e w2 ⟨⟨y2, rfl, HY2, hy2⟩, hb2⟩; have HB2 := hid (HST.out _ _ HB0.out.drew hb2); have k1 : ¬ (9223372036854775807 < y1.size + y2.size) := (by omega); clear hb2))
  go_wp2
  go_ret
  exact ⟨str_of (by rw [HT1.out, ba_list, HY1.out, HY2.out]), btree HB2.out⟩
end Go.Proofs.YtkngjbpbjjoneaaGreatDoor.Q
/-! Printed by gen_rexpr.py. -/
namespace Go.Proofs.YtkngjbpbjjoneaaGreatDoor.Q
open Go.RowKit Go.Shelf
set_option maxRecDepth 20000
set_option maxHeartbeats 2000000 in
theorem expr_6 {nd : Nat → Nd} {O : List (List Nat)} {N b cap g co P j : Nat} {op ty n kids : Int} {t : ByteArray} {ks : List Nat} (h : Ctx nd O N b cap g co P j ⟨6, op, ty, n, t, kids⟩ ks) : ExprOk nd O N b cap g co P j := by
  intro W hp
  have H := hid h
  have HP := hid hp
  have hN := h.hN
  have hj := h.hj
  have p0 := hp.c0
  have p1 := hp.c1
  have hpl0 := hp.pl
  have hgl0 := hp.gl
  obtain ⟨gk, ck, hc, hgk, ⟨n0, n1, n2, n3, n4, n5⟩, HR⟩ := h.at hp
  dsimp only at n0 n1 n2 n3 n4 n5
  have hpl := (plain_6 _ _ _ _ _).1 h.plain
  have hko := (ko_6 _ _ _ _ _ _ _).1 h.kidsOk
  have HT := hid h.tv
  obtain ⟨rfl, rfl, _, hop1, hop2⟩ := hpl
  obtain ⟨a, c, rfl⟩ : ∃ a c, ks = [a, c] := by
    match ks, hko.1 with
    | [a, c], _ => exact ⟨a, c, rfl⟩
  have HE0 : Hid (∀ V, PenAt nd O N b cap g co P V → Calls Tryz.prog 87 #[.pointer (some ⟨P, 0, none⟩), .int .i64 (a : Nat)] V fun e w' => (∃ y : ByteArray, e = .returned (.string y) ∧ Hid (y.data.toList = heldOf nd (tvE nd O) a) ∧ y.size ≤ 200000002) ∧ Below V.heap.size V w') := fun V hV => H.out.held 0 (by simp) V hV
  have HE1 : Hid (∀ V, PenAt nd O N b cap g co P V → Calls Tryz.prog 87 #[.pointer (some ⟨P, 0, none⟩), .int .i64 (c : Nat)] V fun e w' => (∃ y : ByteArray, e = .returned (.string y) ∧ Hid (y.data.toList = heldOf nd (tvE nd O) c) ∧ y.size ≤ 200000002) ∧ Below V.heap.size V w') := fun V hV => H.out.held 1 (by simp) V hV
  have hl1 : [a, c].length = 2 := rfl
  rw [hl1] at hc
  clear hl1
  clear h hp hko
  have HB0 := hid (Below.refl (W.heap.size + 1) (W.alloc (.cells #[.int .i64 6, .int .i64 op, .int .i64 0, .int .i64 0, .string t, .int .i64 kids] 63)))
  have HST : Hid (∀ V V', Below (W.heap.size + 1) (W.alloc (.cells #[.int .i64 6, .int .i64 op, .int .i64 0, .int .i64 0, .string t, .int .i64 kids] 63)) V → Below V.heap.size V V' → Below (W.heap.size + 1) (W.alloc (.cells #[.int .i64 6, .int .i64 op, .int .i64 0, .int .i64 0, .string t, .int .i64 kids] 63)) V') := fun V V' h h2 => h.trans (h2.mono (by have := h.size; simpa using this))
  have H6 : Hid (∀ V, Below (W.heap.size + 1) (W.alloc (.cells #[.int .i64 6, .int .i64 op, .int .i64 0, .int .i64 0, .string t, .int .i64 kids] 63)) V → _) := fun V h => six_new (by simpa using h)
  have HPN : Hid (∀ V, Below (W.heap.size + 1) (W.alloc (.cells #[.int .i64 6, .int .i64 op, .int .i64 0, .int .i64 0, .string t, .int .i64 kids] 63)) V → PenAt nd O N b cap g co P V) := fun V h => HP.out.next (btree h)
  have HRN : Hid (∀ V, Below (W.heap.size + 1) (W.alloc (.cells #[.int .i64 6, .int .i64 op, .int .i64 0, .int .i64 0, .string t, .int .i64 kids] 63)) V → RowAt V 3 gk ck [a, c].length (intRow [a, c])) := fun V h => HR.out.below (btree h) hgk
  have HS : Hid (∀ V, Below (W.heap.size + 1) (W.alloc (.cells #[.int .i64 6, .int .i64 op, .int .i64 0, .int .i64 0, .string t, .int .i64 kids] 63)) V → V.cell? ⟨gk, 0, none⟩ = some (.int .i64 (a : Nat)) ∧ V.cell? ⟨gk, 1, none⟩ = some (.int .i64 (c : Nat))) := fun V h => ⟨row_int (HRN.out V h) 0 (by simp), row_int (HRN.out V h) 1 (by simp)⟩
  have HT1 : Hid (tvE nd O j = heldOf nd (tvE nd O) a ++ [32] ++ mkB op ++ [32] ++ heldOf nd (tvE nd O) c) := HT.out.trans (by simp [eOf])
  clear HT
  obtain ⟨r0, r1⟩ := HS.out _ HB0.out
  go_enter Tryz.func65, Tryz.ntmps65
  go_wp2_with fail
  refine (mark_q op hop1 hop2 _).mono ?_
  rintro e w1 ⟨⟨y0, r, rfl, HY0, hy0⟩, hw1⟩
  have e1 := hw1.symm
  subst e1
  go_wp2_with fail
  go_region_held3 (fun V => V.cell? ⟨gk, 0, none⟩ = some (.int .i64 (a : Nat)) ∧ V.cell? ⟨gk, 1, none⟩ = some (.int .i64 (c : Nat))) (first | (exact HS.out _ HB2.out) | (exact HS.out _ HB1.out) | (exact HS.out _ HB0.out.drew) | go_keep) (first
    | (have hgate := HB1.out; clear hgate; go_at_call 87; refine (HE1.out _ (HPN.out _ HB1.out)).mono ?_; rintro e w3 ⟨⟨y2, rfl, HY2, hy2⟩, hb2⟩; have HB2 := hid (HST.out _ _ HB1.out hb2); have k4 : ¬ (9223372036854775807 < y1.size + 1 + y0.size + 1 + y2.size) := (by omega); clear hb2)
    | (go_at_call 87; refine (HE0.out _ (HPN.out _ HB0.out.drew)).mono ?_; rintro e w2 ⟨⟨y1, rfl, HY1, hy1⟩, hb1⟩; have HB1 := hid (HST.out _ _ HB0.out.drew hb1); have k1 : ¬ (9223372036854775807 < y1.size + 1) := (by omega); have k2 : ¬ (9223372036854775807 < y1.size + 1 + y0.size) := (by omega); have k3 : ¬ (9223372036854775807 < y1.size + 1 + y0.size + 1) := (by omega); clear hb1))
  go_wp2
  go_ret
  exact ⟨str_of (by rw [HT1.out, ba_list, ba_list, ba_list, ba_list, HY1.out, HY2.out, HY0.out]), btree HB2.out⟩
end Go.Proofs.YtkngjbpbjjoneaaGreatDoor.Q
