import Derived.Test.YtkngjbpbjjoneaaGreatDoorJ32
import Derived.Test.YtkngjbpbjjoneaaGreatDoorJ13
/-! Printed by gen_rexpr.py. -/
namespace Go.Proofs.YtkngjbpbjjoneaaGreatDoor.Q
open Go.RowKit Go.Shelf
set_option maxRecDepth 20000
set_option maxHeartbeats 2000000 in
theorem expr_7 {nd : Nat → Nd} {O : List (List Nat)} {N b cap g co P j : Nat} {op ty n kids : Int} {t : ByteArray} {ks : List Nat} (h : Ctx nd O N b cap g co P j ⟨7, op, ty, n, t, kids⟩ ks) : ExprOk nd O N b cap g co P j := by
  intro W hp
  have H := hid h
  have HP := hid hp
  have hN := h.hN
  have hj := h.hj
  have p0 := hp.c0
  have p1 := hp.c1
  have hpl0 := hp.pl
  have hgl0 := hp.gl
  obtain ⟨gk, ck, hc, hgk, ⟨n0, n1, n2, n3, n4, n5⟩, HR⟩ := h.at hp
  dsimp only at n0 n1 n2 n3 n4 n5
  have hpl := (plain_7 _ _ _ _ _).1 h.plain
  have hko := (ko_7 _ _ _ _ _ _ _).1 h.kidsOk
  have HT := hid h.tv
  obtain ⟨rfl, rfl, rfl, hnm⟩ := hpl
  have hts : t.size ≤ 30 := by obtain ⟨_, h2, _⟩ := hnm; exact h2
  clear h hp hko hnm
  have HB0 := hid (Below.refl (W.heap.size + 1) (W.alloc (.cells #[.int .i64 7, .int .i64 0, .int .i64 0, .int .i64 0, .string t, .int .i64 kids] 63)))
  have HST : Hid (∀ V V', Below (W.heap.size + 1) (W.alloc (.cells #[.int .i64 7, .int .i64 0, .int .i64 0, .int .i64 0, .string t, .int .i64 kids] 63)) V → Below V.heap.size V V' → Below (W.heap.size + 1) (W.alloc (.cells #[.int .i64 7, .int .i64 0, .int .i64 0, .int .i64 0, .string t, .int .i64 kids] 63)) V') := fun V V' h h2 => h.trans (h2.mono (by have := h.size; simpa using this))
  have H6 : Hid (∀ V, Below (W.heap.size + 1) (W.alloc (.cells #[.int .i64 7, .int .i64 0, .int .i64 0, .int .i64 0, .string t, .int .i64 kids] 63)) V → _) := fun V h => six_new (by simpa using h)
  have HPN : Hid (∀ V, Below (W.heap.size + 1) (W.alloc (.cells #[.int .i64 7, .int .i64 0, .int .i64 0, .int .i64 0, .string t, .int .i64 kids] 63)) V → PenAt nd O N b cap g co P V) := fun V h => HP.out.next (btree h)
  have HRN : Hid (∀ V, Below (W.heap.size + 1) (W.alloc (.cells #[.int .i64 7, .int .i64 0, .int .i64 0, .int .i64 0, .string t, .int .i64 kids] 63)) V → RowAt V 3 gk ck ks.length (intRow ks)) := fun V h => HR.out.below (btree h) hgk
  have HS : Hid (∀ V, Below (W.heap.size + 1) (W.alloc (.cells #[.int .i64 7, .int .i64 0, .int .i64 0, .int .i64 0, .string t, .int .i64 kids] 63)) V → V.cell? ⟨W.heap.size, 4, none⟩ = some (.string t)) := fun V h => (H6.out V h).2.2.2.2.1
  have HT1 : Hid (tvE nd O j = t.data.toList ++ [40] ++ joinOf (tvE nd O) ks ++ [41]) := HT.out.trans (by simp [eOf])
  have k0 : ¬ (9223372036854775807 < t.size + 1) := by omega
  clear HT
  go_enter Tryz.func65, Tryz.ntmps65
  go_wp2_with fail
  go_region_held3 (fun V => V.cell? ⟨W.heap.size, 4, none⟩ = some (.string t)) (first | (exact HS.out _ HB1.out) | (exact HS.out _ HB0.out.drew) | go_keep) (first
    | (go_at_call 66; refine (H.out.list gk ck _ (HPN.out _ HB0.out.drew) (HRN.out _ HB0.out.drew)).mono ?_; rintro e w2 ⟨⟨y1, rfl, HY1, hy1⟩, hb1⟩; have HB1 := hid (HST.out _ _ HB0.out.drew hb1); have k1 : ¬ (9223372036854775807 < t.size + 1 + y1.size) := (by omega); have k2 : ¬ (9223372036854775807 < t.size + 1 + y1.size + 1) := (by omega); clear hb1))
  go_wp2
  go_ret
  exact ⟨str_of (by rw [HT1.out, ba_list, ba_list, ba_list, HY1.out]), btree HB1.out⟩
end Go.Proofs.YtkngjbpbjjoneaaGreatDoor.Q
/-! Printed by gen_rexpr.py. -/
namespace Go.Proofs.YtkngjbpbjjoneaaGreatDoor.Q
open Go.RowKit Go.Shelf
set_option maxRecDepth 20000
set_option maxHeartbeats 2000000 in
theorem expr_8 {nd : Nat → Nd} {O : List (List Nat)} {N b cap g co P j : Nat} {op ty n kids : Int} {t : ByteArray} {ks : List Nat} (h : Ctx nd O N b cap g co P j ⟨8, op, ty, n, t, kids⟩ ks) : ExprOk nd O N b cap g co P j := by
  intro W hp
  have H := hid h
  have HP := hid hp
  have hN := h.hN
  have hj := h.hj
  have p0 := hp.c0
  have p1 := hp.c1
  have hpl0 := hp.pl
  have hgl0 := hp.gl
  obtain ⟨gk, ck, hc, hgk, ⟨n0, n1, n2, n3, n4, n5⟩, HR⟩ := h.at hp
  dsimp only at n0 n1 n2 n3 n4 n5
  have hpl := (plain_8 _ _ _ _ _).1 h.plain
  have hko := (ko_8 _ _ _ _ _ _ _).1 h.kidsOk
  have HT := hid h.tv
  obtain ⟨rfl, rfl, _, hop1, hop2⟩ := hpl
  clear h hp hko
  have HB0 := hid (Below.refl (W.heap.size + 1) (W.alloc (.cells #[.int .i64 8, .int .i64 op, .int .i64 0, .int .i64 0, .string t, .int .i64 kids] 63)))
  have HST : Hid (∀ V V', Below (W.heap.size + 1) (W.alloc (.cells #[.int .i64 8, .int .i64 op, .int .i64 0, .int .i64 0, .string t, .int .i64 kids] 63)) V → Below V.heap.size V V' → Below (W.heap.size + 1) (W.alloc (.cells #[.int .i64 8, .int .i64 op, .int .i64 0, .int .i64 0, .string t, .int .i64 kids] 63)) V') := fun V V' h h2 => h.trans (h2.mono (by have := h.size; simpa using this))
  have H6 : Hid (∀ V, Below (W.heap.size + 1) (W.alloc (.cells #[.int .i64 8, .int .i64 op, .int .i64 0, .int .i64 0, .string t, .int .i64 kids] 63)) V → _) := fun V h => six_new (by simpa using h)
  have HPN : Hid (∀ V, Below (W.heap.size + 1) (W.alloc (.cells #[.int .i64 8, .int .i64 op, .int .i64 0, .int .i64 0, .string t, .int .i64 kids] 63)) V → PenAt nd O N b cap g co P V) := fun V h => HP.out.next (btree h)
  have HRN : Hid (∀ V, Below (W.heap.size + 1) (W.alloc (.cells #[.int .i64 8, .int .i64 op, .int .i64 0, .int .i64 0, .string t, .int .i64 kids] 63)) V → RowAt V 3 gk ck ks.length (intRow ks)) := fun V h => HR.out.below (btree h) hgk
  have HT1 : Hid (tvE nd O j = bwB op ++ [40] ++ joinOf (tvE nd O) ks ++ [41]) := HT.out.trans (by simp [eOf])
  clear HT
  go_enter Tryz.func65, Tryz.ntmps65
  go_wp2_with fail
  refine (built_q op hop1 hop2 _).mono ?_
  rintro e w1 ⟨⟨y0, r, rfl, HY0, hy0⟩, hw1⟩
  have e1 := hw1.symm
  subst e1
  go_wp2_with fail
  refine (H.out.list gk ck _ (HPN.out _ HB0.out) (HRN.out _ HB0.out)).mono ?_
  rintro e w2 ⟨⟨y1, rfl, HY1, hy1⟩, hb1⟩
  have HB1 := hid (HST.out _ _ HB0.out hb1)
  clear hb1
  go_wp2
  go_ret
  exact ⟨str_of (by rw [HT1.out, ba_list, ba_list, ba_list, HY1.out, HY0.out]), btree HB1.out⟩
end Go.Proofs.YtkngjbpbjjoneaaGreatDoor.Q
/-! Printed by gen_rexpr.py. -/
namespace Go.Proofs.YtkngjbpbjjoneaaGreatDoor.Q
open Go.RowKit Go.Shelf
set_option maxRecDepth 20000
set_option maxHeartbeats 2000000 in
theorem expr_9 {nd : Nat → Nd} {O : List (List Nat)} {N b cap g co P j : Nat} {op ty n kids : Int} {t : ByteArray} {ks : List Nat} (h : Ctx nd O N b cap g co P j ⟨9, op, ty, n, t, kids⟩ ks) : ExprOk nd O N b cap g co P j := by
  intro W hp
  have H := hid h
  have HP := hid hp
  have hN := h.hN
  have hj := h.hj
  have p0 := hp.c0
  have p1 := hp.c1
  have hpl0 := hp.pl
  have hgl0 := hp.gl
  obtain ⟨gk, ck, hc, hgk, ⟨n0, n1, n2, n3, n4, n5⟩, HR⟩ := h.at hp
  dsimp only at n0 n1 n2 n3 n4 n5
  have hpl := (plain_9 _ _ _ _ _).1 h.plain
  have hko := (ko_9 _ _ _ _ _ _ _).1 h.kidsOk
  have HT := hid h.tv
  obtain ⟨rfl, rfl, _, hty1, hty2⟩ := hpl
  have hty0 : 1 ≤ ty := by omega
  clear h hp hko
  have HB0 := hid (Below.refl (W.heap.size + 1) (W.alloc (.cells #[.int .i64 9, .int .i64 0, .int .i64 ty, .int .i64 0, .string t, .int .i64 kids] 63)))
  have HST : Hid (∀ V V', Below (W.heap.size + 1) (W.alloc (.cells #[.int .i64 9, .int .i64 0, .int .i64 ty, .int .i64 0, .string t, .int .i64 kids] 63)) V → Below V.heap.size V V' → Below (W.heap.size + 1) (W.alloc (.cells #[.int .i64 9, .int .i64 0, .int .i64 ty, .int .i64 0, .string t, .int .i64 kids] 63)) V') := fun V V' h h2 => h.trans (h2.mono (by have := h.size; simpa using this))
  have H6 : Hid (∀ V, Below (W.heap.size + 1) (W.alloc (.cells #[.int .i64 9, .int .i64 0, .int .i64 ty, .int .i64 0, .string t, .int .i64 kids] 63)) V → _) := fun V h => six_new (by simpa using h)
  have HPN : Hid (∀ V, Below (W.heap.size + 1) (W.alloc (.cells #[.int .i64 9, .int .i64 0, .int .i64 ty, .int .i64 0, .string t, .int .i64 kids] 63)) V → PenAt nd O N b cap g co P V) := fun V h => HP.out.next (btree h)
  have HRN : Hid (∀ V, Below (W.heap.size + 1) (W.alloc (.cells #[.int .i64 9, .int .i64 0, .int .i64 ty, .int .i64 0, .string t, .int .i64 kids] 63)) V → RowAt V 3 gk ck ks.length (intRow ks)) := fun V h => HR.out.below (btree h) hgk
  have HT1 : Hid (tvE nd O j = twB ty ++ [40] ++ joinOf (tvE nd O) ks ++ [41]) := HT.out.trans (by simp [eOf])
  clear HT
  go_enter Tryz.func65, Tryz.ntmps65
  go_wp2_with fail
  refine (typeW_q ty hty0 hty2 _).mono ?_
  rintro e w1 ⟨⟨y0, rfl, HY0, hy0⟩, hw1⟩
  have e1 := hw1.symm
  subst e1
  go_wp2_with fail
  refine (H.out.list gk ck _ (HPN.out _ HB0.out) (HRN.out _ HB0.out)).mono ?_
  rintro e w2 ⟨⟨y1, rfl, HY1, hy1⟩, hb1⟩
  have HB1 := hid (HST.out _ _ HB0.out hb1)
  clear hb1
  go_wp2
  go_ret
  exact ⟨str_of (by rw [HT1.out, ba_list, ba_list, ba_list, HY1.out, HY0.out]), btree HB1.out⟩
end Go.Proofs.YtkngjbpbjjoneaaGreatDoor.Q
/-! The model's expr at every node. -/
namespace Go.Proofs.YtkngjbpbjjoneaaGreatDoor.Q
open Go.RowKit Go.Shelf
set_option maxRecDepth 20000
theorem plain_text {x : Nd} (h : PlainNd x) : x.text.size ≤ 3000 := by
  obtain ⟨_, _, _, h4, h5, _, h7, _⟩ := h
  rcases h4 with (h2 | hn) | he
  · exact h7 h2
  · obtain ⟨_, h6, _⟩ := h5 hn
    omega
  · rw [Lib.toList_data, List.isEmpty_iff] at he
    rw [← len_size, he]
    exact Nat.zero_le _
/-- A tree that is right, as the walks take it. -/
structure Good (nd : Nat → Nd) (O : List (List Nat)) (N : Nat) : Prop where
  hN : N ≤ 12001
  kids : ∃ s, kidsF nd N = some (O, s)
  fit : ∀ i, i < N → FitAt nd O i
theorem Good.down {nd : Nat → Nd} {O : List (List Nat)} {N : Nat} (h : Good nd O N) : Down O := by
  obtain ⟨s, hs⟩ := h.kids
  exact kids_down hs
theorem Good.text {nd : Nat → Nd} {O : List (List Nat)} {N : Nat} (h : Good nd O N) : ∀ j, j < N → (nd j).text.size ≤ 3000 := fun j hj => plain_text (h.fit j hj).1
theorem Good.sz {nd : Nat → Nd} {O : List (List Nat)} {N : Nat} (h : Good nd O N) (j : Nat) (hj : j < N) : (szs O).getD j 0 = 1 + ((O.getD j []).map fun k => (szs O).getD k 0).sum ∧ (szs O).getD j 0 ≤ j + 1 := by
  obtain ⟨s, hs⟩ := h.kids
  exact szs_take hs j hj
theorem Good.kl {nd : Nat → Nd} {O : List (List Nat)} {N : Nat} (h : Good nd O N) (j : Nat) (hj : j < N) : (O.getD j []).length ≤ 12001 := by
  obtain ⟨s, hs⟩ := h.kids
  have := kids_len_le hs j hj
  have := h.hN
  omega
theorem Good.elen {nd : Nat → Nd} {O : List (List Nat)} {N : Nat} (h : Good nd O N) (j : Nat) (hj : j < N) : (tvE nd O j).length ≤ 200000000 := by
  obtain ⟨s, hs⟩ := h.kids
  have h1 := tvE_len hs h.text j hj
  have h2 := (h.sz j hj).2
  have h3 := h.hN
  omega
theorem Good.join {nd : Nat → Nd} {O : List (List Nat)} {N : Nat} (h : Good nd O N) (j : Nat) (hj : j < N) (q : Nat) : (joinOf (tvE nd O) ((O.getD j []).take q)).length ≤ 1000000000 := by
  obtain ⟨s, hs⟩ := h.kids
  have h1 := join_len (tvE nd O) (fun k => (szs O).getD k 0) ((O.getD j []).take q) fun k hk => tvE_len hs h.text k (by
    have := h.down j k (List.mem_of_mem_take hk); omega)
  have h2 := h.sz j hj
  have h3 := h.hN
  have h4 : (((O.getD j []).take q).map fun k => (szs O).getD k 0).sum + (((O.getD j []).drop q).map fun k => (szs O).getD k 0).sum = ((O.getD j []).map fun k => (szs O).getD k 0).sum := by rw [← List.sum_append, ← List.map_append, List.take_append_drop]
  omega
theorem getD_mem {ks : List Nat} {i : Nat} (hi : i < ks.length) : ks.getD i 0 ∈ ks := by rw [List.getD_eq_getElem?_getD, List.getElem?_eq_getElem hi]; exact List.getElem_mem hi
theorem mem_getD {ks : List Nat} {k : Nat} (h : k ∈ ks) : ∃ i, i < ks.length ∧ ks.getD i 0 = k := by
  obtain ⟨i, hi, e⟩ := List.getElem_of_mem h
  exact ⟨i, hi, by rw [List.getD_eq_getElem?_getD, List.getElem?_eq_getElem hi]; exact e⟩
theorem kids_E {x : Nd} {m : Nat} {kd : Nat → Int} (h : KidsOk x m kd) (hE : mE x.kind) : AllE m kd := by
  have none : m = 0 → AllE m kd := fun e i hi => by omega
  unfold KidsOk at h
  unfold mE at hE
  rcases h with ⟨_, h⟩ | ⟨_, _, h⟩ | ⟨_, _, h⟩ | ⟨_, _, h⟩ | ⟨_, _, h⟩ | ⟨h, _⟩ | ⟨h, _⟩ | ⟨h, _⟩ | ⟨h, _⟩ | ⟨h, _⟩ | ⟨h, _⟩ | ⟨h, _⟩
  · exact none h
  · exact h
  · exact h
  · exact h
  · exact h
  all_goals omega
theorem expr_all {nd : Nat → Nd} {O : List (List Nat)} {N b cap g co P : Nat} (hg : Good nd O N) : ∀ j, j < N → mE (nd j).kind → ExprOk nd O N b cap g co P j := by
  intro j
  induction j using Nat.strongRecOn with
  | _ j ih =>
    intro hj hE
    have hf := hg.fit j hj
    obtain ⟨ks, hks⟩ : ∃ ks, O.getD j [] = ks := ⟨_, rfl⟩
    obtain ⟨x, hx⟩ : ∃ x, nd j = x := ⟨_, rfl⟩
    have hp := hf.1
    have hk := hf.2
    rw [hks] at hk
    rw [hx] at hp hk hE
    have C : Ctx nd O N b cap g co P j x ks := ⟨hg.down, hg.hN, hj, hx, hks, hp, hk, fun k hk => hg.elen k hk, by rw [← hks]; exact hg.kl j hj, by rw [← hks]; exact hg.join j hj, fun k hm => by
      have hlt : k < j := hg.down j k (by rw [hks]; exact hm)
      obtain ⟨i, hi, rfl⟩ := mem_getD hm
      exact ⟨by omega, ih _ hlt (by omega) (kids_E hk hE i hi)⟩⟩
    obtain ⟨kd, op, ty, n, t, kids⟩ := x
    unfold mE at hE
    obtain rfl | rfl | rfl | rfl | rfl | rfl | rfl | rfl | rfl : kd = 1 ∨ kd = 2 ∨ kd = 3 ∨ kd = 4 ∨ kd = 5 ∨ kd = 6 ∨ kd = 7 ∨ kd = 8 ∨ kd = 9 := by
      have h1 : 1 ≤ kd ∧ kd ≤ 9 := hE
      omega
    · exact expr_1 C
    · exact expr_2 C
    · exact expr_3 C
    · exact expr_4 C
    · exact expr_5 C
    · exact expr_6 C
    · exact expr_7 C
    · exact expr_8 C
    · exact expr_9 C
end Go.Proofs.YtkngjbpbjjoneaaGreatDoor.Q
/-! The model's block; what a statement's walk starts from. Printed by gen_rstm.py. -/
namespace Go.Proofs.YtkngjbpbjjoneaaGreatDoor.Q
open Go.RowKit Go.Shelf
set_option maxRecDepth 20000
/-- The statements of a block, that stand in d blocks, each with its spaces and its newline. -/
def blkT (nd : Nat → Nd) (O : List (List Nat)) (d : Nat) (ks : List Nat) : List UInt8 := ks.flatMap fun k => gapB d ++ svS nd O d k ++ [10]
theorem body_blk (nd : Nat → Nd) (O : List (List Nat)) (d b : Nat) : bodyOf O (svS nd O) d b = [123, 10] ++ blkT nd O (d + 1) (O.getD b []) ++ gapB d ++ [125] := rfl
def StmtOk (nd : Nat → Nd) (O : List (List Nat)) (N b cap g co P k : Nat) : Prop :=
  ∀ W d (G : ByteArray), PenAt nd O N b cap g co P W → G.data.toList = gapB d → d + k ≤ 12001 → Calls Tryz.prog 46 #[.pointer (some ⟨P, 0, none⟩), .int .i64 k, .string G] W fun e w' => (∃ y : ByteArray, e = .returned (.string y) ∧ Hid (y.data.toList = svS nd O d k ++ [10]) ∧ y.size ≤ 800000000) ∧ Below W.heap.size W w'
def BlockOk (nd : Nat → Nd) (O : List (List Nat)) (N b cap g co P k : Nat) : Prop :=
  ∀ W d (G : ByteArray), PenAt nd O N b cap g co P W → G.data.toList = gapB d → d + k ≤ 12002 → Calls Tryz.prog 24 #[.pointer (some ⟨P, 0, none⟩), .int .i64 k, .string G] W fun e w' => (∃ y : ByteArray, e = .returned (.string y) ∧ Hid (y.data.toList = blkT nd O d (O.getD k [])) ∧ y.size ≤ 800000000) ∧ Below W.heap.size W w'
theorem gapB_succ (d : Nat) : gapB (d + 1) = gapB d ++ [32, 32] := by
  unfold gapB
  rw [show ([32, 32] : List UInt8) = List.replicate 2 32 from rfl, List.replicate_append_replicate]
  rfl
theorem Good.slen {nd : Nat → Nd} {O : List (List Nat)} {N : Nat} (h : Good nd O N) (d j : Nat) (hj : j < N) (hd : d + j ≤ 12001) : (svS nd O d j).length + 24100 ≤ 60000 * (szs O).getD j 0 ∧ (svS nd O d j).length + 24100 ≤ 800000000 := by
  obtain ⟨s, hs⟩ := h.kids
  have h1 := svS_len hs h.text j hj d hd
  have h2 := (h.sz j hj).2
  have h3 := h.hN
  omega
theorem Good.blen {nd : Nat → Nd} {O : List (List Nat)} {N : Nat} (h : Good nd O N) (d j : Nat) (hj : j < N) (hd : d + j ≤ 12002) (q : Nat) : (blkT nd O d ((O.getD j []).take q)).length ≤ 780000000 := by
  have h1 := flat_len (fun k => gapB d ++ svS nd O d k ++ [10]) (fun k => (szs O).getD k 0) ((O.getD j []).take q) fun k hk => by
    have hkj := h.down j k (List.mem_of_mem_take hk)
    have := (h.slen d k (by omega) (by omega)).1
    simp only [List.length_append, gapB_len, List.length_cons, List.length_nil]
    omega
  have h2 := h.sz j hj
  have h3 := h.hN
  have h4 : (((O.getD j []).take q).map fun k => (szs O).getD k 0).sum + (((O.getD j []).drop q).map fun k => (szs O).getD k 0).sum = ((O.getD j []).map fun k => (szs O).getD k 0).sum := by rw [← List.sum_append, ← List.map_append, List.take_append_drop]
  show (((O.getD j []).take q).flatMap fun k => gapB d ++ svS nd O d k ++ [10]).length ≤ _
  omega
theorem blkT_snoc (nd : Nat → Nd) (O : List (List Nat)) (d : Nat) (ks : List Nat) (k : Nat) : blkT nd O d (ks ++ [k]) = blkT nd O d ks ++ gapB d ++ (svS nd O d k ++ [10]) := by simp [blkT, List.flatMap_append]
set_option maxHeartbeats 4000000 in
theorem block_any {nd : Nat → Nd} {O : List (List Nat)} {N b cap g co P j : Nat} (hg : Good nd O N) (hj : j < N) (hS : ∀ k ∈ O.getD j [], StmtOk nd O N b cap g co P k) : BlockOk nd O N b cap g co P j := by
  intro w d G hp hG hd
  obtain ⟨i0, hi, hz0, hz1, hz2⟩ := info_parts (P := Tryz.prog) (e := 5) (z := .int .u8 0) (size := 1) (bytes := 1) (by kernel_rfl)
  have HHI := hid (And.intro hi (And.intro hz0 (And.intro hz1 hz2)))
  obtain ⟨gk, ck, hc, hgk, _, HR⟩ := hp.at hj
  have p1 := hp.c1
  have hpl0 := hp.pl
  have hgl0 := hp.gl
  have HP := hid hp
  have HL := hid (fun q => hg.blen d j hj hd q)
  have HD : Hid (∀ k ∈ O.getD j [], d + k ≤ 12001) := fun k hk => by have := hg.down j k hk; omega
  have HS := hid hS
  have HG := hid hG
  have HGs : Hid (G.size = 2 * d) := by show _ = _; rw [← len_size, hG, gapB_len]
  have hGle : G.size ≤ 24004 := by have := HGs.out; omega
  have hN := hg.hN
  have hd2 : d ≤ 12002 := by omega
  obtain ⟨ks, hks⟩ : ∃ ks, O.getD j [] = ks := ⟨_, rfl⟩
  rw [hks] at hc HR HL HD HS ⊢
  have hkl : ks.length ≤ 12001 := by rw [← hks]; exact hg.kl j hj
  have HSC : Hid (Lib.strCells G = Lib.byteCells (gapB d)) := by show _ = _; rw [Lib.strCells_eq, hG]
  clear hi hz0 hz1 hz2 hp hS hG hks hd hg
  go_enter Tryz.func24, Tryz.ntmps24
  go_wp2
  go_loopw [7, 9] (fun v a wr => ∃ q : Nat, q ≤ ks.length ∧ a = .int .i64 q ∧ wr.ownsRow w.heap.size 5 1 v (blkT nd O d (ks.take q)).length (Lib.byteCells (blkT nd O d (ks.take q))) ∧ Below w.heap.size w wr) (fun _ a _ => ks.length - (intOf a).toNat)
  case atStart => exact ⟨0, Nat.zero_le _, rfl, own_empty w, (Below.refl _ _).alloc (Nat.le_refl _) _⟩
  case round =>
    obtain ⟨q, hq, rfl, hown, hbw⟩ := hrel
    have OWN0 := hid hown
    have HBW := hid hbw
    have hwz := hbw.size
    have hll := HL.out q
    obtain ⟨ao0, cap0, rfl⟩ := own_slice' hown
    clear hown hbw
    by_cases hlt : q < ks.length
    · have HJ := hid (blkT_snoc nd O d (ks.take q) ks[q])
      rw [← List.take_succ_eq_append_getElem hlt] at HJ
      have hl1 := HL.out (q + 1)
      have HEY := hid (fun W => HS.out ks[q] (List.getElem_mem hlt) W d G)
      have hdk := HD.out ks[q] (List.getElem_mem hlt)
      have HK1 : Hid (∀ W, Below w.heap.size w W → W.cell? ⟨gk, q, none⟩ = some (.int .i64 (ks[q] : Nat))) := fun W hb => by
        rw [hb.cell (p := ⟨gk, q, none⟩) hgk, HR.out.cell q hlt]
        simp [intRow, hlt]
      generalize ks[q] = y at *
      obtain ⟨M, hM⟩ : ∃ M, blkT nd O d (ks.take q) = M := ⟨_, rfl⟩
      rw [HJ.out, hM] at hl1
      rw [hM] at OWN0 hll HJ ⊢
      simp only [List.length_append, List.length_cons, List.length_nil] at hl1
      clear hM
      go_wp2_with (at_builtin; refine Lib.wpList_append_own_string _ rfl _ _ 41 9 rfl w.heap.size 5 i0 Tryz.underlying41 Tryz.underlying9 HHI.out.1 HHI.out.2.1 HHI.out.2.2.1 HHI.out.2.2.2 _ _ _ rfl OWN0.out G rfl ?c3 ?c4 hwz ?_)
      case c3 => unfold maxLen; omega
      case c4 => omega
      intro v2 wr2 hown2 hgrow2 _
      have OWN2 : Hid (wr2.ownsRow w.heap.size 5 1 v2 (M ++ gapB d).length (Lib.byteCells (M ++ gapB d))) := by
        have := hown2
        rw [HSC.out, ← Lib.byteCells_append, HGs.out, ← gapB_len d, ← List.length_append] at this
        exact this
      have HBW2 := hid (HBW.out.grown hgrow2 hwz (fun k e => (OWN0.out.lt k e).1))
      clear hown2 hgrow2 OWN0 HBW hwz
      obtain ⟨ao, cap', rfl⟩ := own_slice' OWN2.out
      have hwz := HBW2.out.size
      have hc2 := HK1.out _ HBW2.out
      obtain ⟨L, hL⟩ : ∃ L, M ++ gapB d = L := ⟨_, rfl⟩
      have hLle : L.length ≤ 780024004 := by rw [← hL, List.length_append, gapB_len]; omega
      rw [hL] at OWN2 ⊢
      have HLL := hid hL
      clear hL hl1 hll
      go_wp2_with (first
        | (go_at_call 46; refine (HEY.out _ (HP.out.next (HBW2.out)) HG.out hdk).mono ?_; rintro e w3 ⟨⟨S, rfl, HY, hy⟩, hb3⟩; have HB3 := hid (HBW2.out.trans (hb3.mono hwz)); have HO3 := hid (own_below OWN2.out hb3); have hz3 := HB3.out.size; clear hb3)
        | (at_builtin; refine Lib.wpList_append_own_string _ rfl _ _ 41 9 rfl w.heap.size 5 i0 Tryz.underlying41 Tryz.underlying9 HHI.out.1 HHI.out.2.1 HHI.out.2.2.1 HHI.out.2.2.2 _ _ _ rfl HO3.out S rfl (by unfold maxLen; omega) (by omega) hz3 ?_; intro v4 w4 o4 g4 _; obtain ⟨a4, c4, rfl⟩ := own_slice' o4; have HO4 := hid o4; have HB4 := hid (HB3.out.grown g4 hz3 (fun k e => (HO3.out.lt k e).1)); clear o4 g4))
      go_wp2
      go_roundw
      case rel =>
        refine ⟨q + 1, by omega, by go_num, ?_, HB4.out⟩
        rw [HJ.out, HLL.out]
        have := HO4.out
        rw [Lib.strCells_eq, HY.out, ← Lib.byteCells_append, ← len_size, HY.out, ← List.length_append] at this
        rw [← HY.out, List.length_append, len_size, HY.out] at *
        exact this
      case measure => simp [intOf]; omega
    · obtain rfl : q = ks.length := by omega
      have HT : Hid (ks.take ks.length = ks) := List.take_of_length_le (Nat.le_refl _)
      have OWN1 := OWN0.out
      rw [HT.out] at OWN1 hll
      rw [HT.out]
      have hcv := conv_row wr w.heap.size _ _ OWN1
      obtain ⟨M, hM⟩ : ∃ M, blkT nd O d ks = M := ⟨_, rfl⟩
      rw [hM] at hll hcv ⊢
      clear OWN1
      go_wp2
      go_ret
      exact ⟨⟨_, rfl, hid (by simp [hM]), by simpa [ByteArray.size] using (by omega : M.length ≤ 800000000)⟩, HBW.out⟩
end Go.Proofs.YtkngjbpbjjoneaaGreatDoor.Q
