import Derived.Test.YtfookokepnnmoaaDoorJDSet
namespace Go.Proofs.YtfookokepnnmoaaDoor
open Go.RowKit
set_option maxRecDepth 20000
theorem pair_cells (w : World) (a b : Value) : ∀ j u, [a, b][j]? = some u → (w.alloc (.cells #[a, b] 25)).cell? ((⟨w.heap.size, 0, none⟩ : Addr).add j) = some u := fun j u h => by
  rw [add_none, Nat.zero_add, cell_new_row]
  simpa using h
theorem pair_vals {R : Nat} {w : World} {a b : Value} {l m : List At} (h1 : ValIn R w a l) (h2 : ValIn R w b m) (n1 : l ≠ []) (n2 : m ≠ []) : ∀ (j : Nat) u x, [a, b][j]? = some u → [l, m][j]? = some x → ValIn R w u x ∧ x ≠ [] := by
  intro j u x hu hx
  match j with
  | 0 => simp at hu hx; subst hu; subst hx; exact ⟨h1, n1⟩
  | 1 => simp at hu hx; subst hu; subst hx; exact ⟨h2, n2⟩
  | j + 2 => simp at hu
set_option maxHeartbeats 16000000 in
theorem l5Set_any (R : Nat) (ad : Option Addr) (n c : Nat) (xs : List Value) (ls : List (List At)) (t : ByteArray) (sv : Value) (lv : List At) (w : World) (hR : R < w.heap.size) (hn : xs.length = n) (hn2 : n ≤ 1000) (heven : n % 2 = 0) (hk : KidsIn R w ad xs ls) (hv : ValIn R w sv lv) (hvne : lv ≠ []) (hb : ∀ l ∈ ls, l.length ≤ 1000000) :
    Calls Tryd.prog 50 #[.slice ad n c, .string t, .agg #[sv]] w fun e w' => ∃ v' xs' ls', e = .returned v' ∧ OwnK R (w.heap.size + 1) w' v' xs' ls' ∧ xs'.length % 2 = 0 ∧ xs'.length ≤ n + 2 ∧ (∀ l ∈ ls', l ∈ ls ∨ l = lv ∨ l = [⟨4, 0, t, 0⟩]) ∧ Below w.heap.size w w' := by
  obtain ⟨i0, hi, hz0, hz1, hz2⟩ := info_parts info_va
  have HHI := hid (And.intro hi (And.intro hz0 (And.intro hz1 hz2)))
  have HK := hid hk
  have HN := hid hn
  have HV := hid hv
  have HBD := hid hb
  obtain ⟨gv, ov, Nv, cv, rfl, _⟩ := hv
  have f1 := fText
  clear hi hz0 hz1 hz2 hk hn hb
  have HSZ : Hid (∀ W, Below (w.heap.size + 1) (w.alloc (.cells #[.slice (some ⟨gv, ov, none⟩) Nv cv] 25)) W → w.heap.size + 1 ≤ W.heap.size) := fun W h => by have := h.size; simpa using this
  have HB0 : Hid (Below (w.heap.size + 1) (w.alloc (.cells #[.slice (some ⟨gv, ov, none⟩) Nv cv] 25)) ((w.alloc (.cells #[.slice (some ⟨gv, ov, none⟩) Nv cv] 25)).alloc (.cells #[] 25))) := (Below.refl _ _).alloc (by simp) _
  have HO0 : Hid (OwnK R (w.heap.size + 1) ((w.alloc (.cells #[.slice (some ⟨gv, ov, none⟩) Nv cv] 25)).alloc (.cells #[] 25)) (.slice (some ⟨w.heap.size + 1, 0, none⟩) 0 0) [] []) := by
    have h := OwnK.lit R (w.heap.size + 1) (w.alloc (.cells #[.slice (some ⟨gv, ov, none⟩) Nv cv] 25)) (by simp)
    rwa [World.size_alloc] at h
  go_enter Tryd.func50, Tryd.ntmps50
  go_wp2
  go_loopw [7, 8, 9] (fun o d i wr => ∃ (k : Nat) (xs' : List Value) (ls' : List (List At)) (b : Bool), k ≤ n ∧ k % 2 = 0 ∧ i = .int .i64 k ∧ d = .bool b ∧ OwnK R (w.heap.size + 1) wr o xs' ls' ∧ xs'.length % 2 = 0 ∧ xs'.length ≤ k + (if b = true then 2 else 0) ∧ (∀ l ∈ ls', l ∈ ls ∨ l = lv ∨ l = [⟨4, 0, t, 0⟩]) ∧ Below (w.heap.size + 1) (w.alloc (.cells #[.slice (some ⟨gv, ov, none⟩) Nv cv] 25)) wr) (fun _ _ i _ => n - (intOf i).toNat)
  case atStart => exact ⟨0, [], [], false, by omega, rfl, rfl, rfl, HO0.out, rfl, by simp, by simp, HB0.out⟩
  case round =>
    obtain ⟨k, ys, ms, b, hk2, hkev, rfl, rfl, hok, hev, hle, hmem, hbw⟩ := hrel
    have HOK := hid hok
    have HBW := hid hbw
    have HME := hid hmem
    have hle' : ys.length ≤ k + 2 := by revert hle; cases b <;> simp <;> omega
    clear hok hbw hmem
    by_cases hlt : k < n
    · have hxl : k + 1 < xs.length := by rw [HN.out]; omega
      have hll : k + 1 < ls.length := by rw [← HK.out.1]; exact hxl
      obtain ⟨gk, okk, rfl, hgk, hgkR, hck⟩ := HK.out.2.1.resolve_left (fun h => by rw [h] at hxl; simp at hxl)
      obtain ⟨l0, hl0e⟩ : ∃ l0, ls[k]? = some l0 := ⟨_, List.getElem?_eq_getElem (by omega)⟩
      obtain ⟨l1, hl1e⟩ : ∃ l1, ls[k + 1]? = some l1 := ⟨_, List.getElem?_eq_getElem hll⟩
      obtain ⟨u0, hu0⟩ : ∃ u0, xs[k]? = some u0 := ⟨_, List.getElem?_eq_getElem (by omega)⟩
      obtain ⟨u1, hu1⟩ : ∃ u1, xs[k + 1]? = some u1 := ⟨_, List.getElem?_eq_getElem hxl⟩
      obtain ⟨hv0, hl0⟩ := HK.out.2.2 _ u0 l0 hu0 hl0e
      obtain ⟨hv1, hl1⟩ := HK.out.2.2 _ u1 l1 hu1 hl1e
      have HV0 := hid hv0
      have HV1 := hid hv1
      obtain ⟨g0, o0, N0, c0, rfl, hN0, hNc0, _, hg0, _, hat0, _⟩ := hv0
      obtain ⟨g1, o1, N1, c1, rfl, _⟩ := hv1
      have hm0 : l0 ∈ ls := List.mem_of_getElem? hl0e
      have hm1 : l1 ∈ ls := List.mem_of_getElem? hl1e
      have hN1 : 1 ≤ N0 := by rw [← hN0]; exact List.length_pos_iff.2 hl0
      have hN2 : N0 ≤ 1000000 := by rw [← hN0]; exact HBD.out l0 hm0
      obtain ⟨x, hx⟩ : ∃ x, l0[N0 - 1]? = some x := ⟨_, List.getElem?_eq_getElem (by omega)⟩
      have HX := hid ((hat0.below (btree HBW.out) hg0) _ _ hx)
      have HMEM : Hid (∀ zs : List (List At), (∀ l ∈ zs, l ∈ ms ∨ l = lv ∨ l = [⟨4, 0, t, 0⟩] ∨ l = l0 ∨ l = l1) → ∀ l ∈ zs, l ∈ ls ∨ l = lv ∨ l = [⟨4, 0, t, 0⟩]) := fun zs h l hl => by
        rcases h l hl with h | h | h | rfl | rfl
        · exact HME.out l h
        · exact .inr (.inl h)
        · exact .inr (.inr h)
        · exact .inl hm0
        · exact .inl hm1
      have HC0 : Hid (∀ W, Below (w.heap.size + 1) (w.alloc (.cells #[.slice (some ⟨gv, ov, none⟩) Nv cv] 25)) W → W.cell? ⟨gk, okk + k, none⟩ = some (.slice (some ⟨g0, o0, none⟩) N0 c0) ∧ W.cell? ⟨gk, okk + (k + 1), none⟩ = some (.slice (some ⟨g1, o1, none⟩) N1 c1)) := fun W h => ⟨((btree h).cell (p := ⟨gk, okk + k, none⟩) hgk).trans (hck _ _ hu0), ((btree h).cell (p := ⟨gk, okk + (k + 1), none⟩) hgk).trans (hck _ _ hu1)⟩
      obtain ⟨q0, q1⟩ := HC0.out _ HBW.out
      clear hu0 hu1 hl0e hl1e hat0 hck hx
      go_wp2_with fail
      refine (l5Last_any g0 o0 N0 c0 x _ hN1 (by omega) (Nat.lt_of_lt_of_le hg0 (btree HBW.out).size) HX.out).mono ?_
      rintro e wL ⟨rfl, hbL⟩
      have HBL := hid (HBW.out.trans (hbL.mono (HSZ.out _ HBW.out)))
      have HOL := hid (HOK.out.next hbL)
      have pL := tree_cell HBL.out
      clear hbL q0 q1
      obtain ⟨q0, q1⟩ := HC0.out _ HBL.out
      simp only [atV]
      obtain ⟨tx, htx⟩ : ∃ tx, x.text = tx := ⟨_, rfl⟩
      rw [htx]
      have f2 := f1 x.kind x.n x.kids tx
      clear f1
      have hw1 : IntKind.i64.wrap ((k : Int) + 1) = (k : Int) + 1 := by rw [IntKind.wrap_i64]; omega
      have hk1n : k + 1 < n := by omega
      have hk0' : (0 : Int) ≤ (k : Int) + 1 := by omega
      have hk1' : (k : Int) + 1 < (n : Int) := by omega
      cases hE : (tx.toList == t.toList)
      · have hE2 : (tx.toList != t.toList) = true := by unfold bne; rw [hE]; rfl
        cases b
        · cases hL : Go.Op.bytesLess tx.toList t.toList
          · go_wp2_with fail
            go_region_law (first | (refine step_enter rfl (f := 48) (vals := #[.string t]) (by kernel_rfl) (l5Text_any t _) ?_; intro e wA hq; obtain ⟨gA, rfl, hA1, hA2, hA3⟩ := hq; refine ⟨_, rfl, ?_⟩; have HBA : Hid (Below wL.heap.size wL wA) := hid ((Below.refl _ _).drew.trans hA3); have HXA := hid (HBL.out.trans (HBA.out.mono (HSZ.out _ HBL.out))); have pA := tree_cell HXA.out; have HKA := hid (HOL.out.next HBA.out); have HVA : Hid (ValIn R wA (.slice (some ⟨gA, 0, none⟩) 1 1) [⟨4, 0, t, 0⟩]) := (by obtain ⟨cur, h5, _⟩ := hA2.1; exact ⟨gA, 0, 1, 1, rfl, rfl, by omega, by omega, hA2.lt, (by have := HSZ.out _ HBL.out; have hA1' : wL.heap.size ≤ gA := hA1; omega), hA2.2, cur, _, h5⟩); have HVB := hid (HV.out.next (btree HXA.out)); have HOA := hid (HKA.out.1.alloc (.cells #[.slice (some ⟨gA, 0, none⟩) 1 1, .slice (some ⟨gv, ov, none⟩) Nv cv] 25)); have hzA := HXA.out.size; have HCA := hid (pair_cells wA (.slice (some ⟨gA, 0, none⟩) 1 1) (.slice (some ⟨gv, ov, none⟩) Nv cv)); clear hA1 hA2 hA3) | (refine step_append_own_at rfl (.tmp 31) (.tmp 35) 81 rfl (w.heap.size + 1) 25 i0 (.agg #[.slice none 0 0]) 1 24 Tryd.underlying81 HHI.out.1 HHI.out.2.1 HHI.out.2.2.1 HHI.out.2.2.2 rfl (by decide) u7 ys.length ys (by simp [Act.eval]) HOA.out ⟨wA.heap.size, 0, none⟩ 2 2 [.slice (some ⟨gA, 0, none⟩) 1 1, .slice (some ⟨gv, ov, none⟩) Nv cv] (by simp [Act.eval]) rfl HCA.out (by simp [Value.oneCell']) (by unfold maxLen; (try simp only [List.length_append, List.length_cons, List.length_nil]); omega) (by (try simp only [List.length_append, List.length_cons, List.length_nil]); omega) (by simp at hzA; simp; omega) ?_; intro v8 w8 h2 h3 h4 h5; have HAA := hid ((Below.refl wA.heap.size wA).alloc (Nat.le_refl _) (.cells #[.slice (some ⟨gA, 0, none⟩) 1 1, .slice (some ⟨gv, ov, none⟩) Nv cv] 25)); have HQ8 := hid (OwnK.more (HKA.out.next HAA.out) h2 (by simp) h3 (ms := [[⟨4, 0, t, 0⟩], lv]) rfl (pair_vals (HVA.out.next HAA.out) (HVB.out.next HAA.out) (by simp) hvne)); have HQ8B := hid ((HXA.out.alloc (by simpa using hzA) (.cells #[.slice (some ⟨gA, 0, none⟩) 1 1, .slice (some ⟨gv, ov, none⟩) Nv cv] 25)).grown h3 (by simp at hzA; simp; omega) (fun k e => own_bl HKA.out.1 k e)); clear h2 h3 h4 h5))
            all_goals obtain ⟨r0, r1⟩ := HC0.out _ HQ8B.out
            all_goals go_wp2_with fail
            all_goals go_region_law (refine step_append_own_at rfl (.tmp 40) (.tmp 50) 81 rfl (w.heap.size + 1) 25 i0 (.agg #[.slice none 0 0]) 1 24 Tryd.underlying81 HHI.out.1 HHI.out.2.1 HHI.out.2.2.1 HHI.out.2.2.2 rfl (by decide) v8 (ys ++ [Value.slice (some ⟨gA, 0, none⟩) 1 1, Value.slice (some ⟨gv, ov, none⟩) Nv cv]).length (ys ++ [Value.slice (some ⟨gA, 0, none⟩) 1 1, Value.slice (some ⟨gv, ov, none⟩) Nv cv]) (by simp [Act.eval]) (hid (show World.ownsRow (World.alloc w8.drew (.cells #[.slice (some ⟨g0, o0, none⟩) N0 c0, .slice (some ⟨g1, o1, none⟩) N1 c1] 25)) _ _ _ _ _ _ from HQ8.out.1.alloc _)).out ⟨w8.heap.size, 0, none⟩ 2 2 [.slice (some ⟨g0, o0, none⟩) N0 c0, .slice (some ⟨g1, o1, none⟩) N1 c1] (by simp [Act.eval]) rfl (pair_cells w8.drew _ _) (by simp [Value.oneCell']) (by unfold maxLen; (try simp only [List.length_append, List.length_cons, List.length_nil]); omega) (by (try simp only [List.length_append, List.length_cons, List.length_nil]); omega) (by have := HSZ.out _ HQ8B.out; simp; omega) ?_; intro v9 w9 h2 h3 h4 h5; have HA9 : Hid (Below w8.heap.size w8 (World.alloc w8.drew (.cells #[.slice (some ⟨g0, o0, none⟩) N0 c0, .slice (some ⟨g1, o1, none⟩) N1 c1] 25))) := hid ((Below.refl _ _).drew.alloc (Nat.le_refl _) _); have HQ9 := hid (OwnK.more (HQ8.out.next HA9.out) h2 (by simp) h3 (ms := [l0, l1]) rfl (pair_vals ((HV0.out.next (btree HQ8B.out)).next HA9.out) ((HV1.out.next (btree HQ8B.out)).next HA9.out) hl0 hl1)); have HQ9B := hid ((HQ8B.out.trans (HA9.out.mono (HSZ.out _ HQ8B.out))).grown h3 (by have := HSZ.out _ HQ8B.out; simp; omega) (fun k e => own_bl HQ8.out.1 k e)); clear h2 h3 h4 h5)
            all_goals go_wp2
            all_goals
              go_roundw
              case rel => exact ⟨k + 2, ((ys ++ [Value.slice (some ⟨gA, 0, none⟩) 1 1, Value.slice (some ⟨gv, ov, none⟩) Nv cv]) ++ [Value.slice (some ⟨g0, o0, none⟩) N0 c0, Value.slice (some ⟨g1, o1, none⟩) N1 c1]), ((ms ++ [[⟨4, 0, t, 0⟩], lv]) ++ [l0, l1]), true, by omega, by omega, by go_num, rfl, HQ9.out, by (try simp); omega, by (try simp at hle); (try simp); omega, HMEM.out _ (by intro l hl; simp only [List.mem_append, List.mem_cons, List.not_mem_nil, or_false] at hl; grind), HQ9B.out⟩
              case measure => simp [intOf]; omega
          · go_wp2_with fail
            go_region_law (refine step_append_own_at rfl (.tmp 40) (.tmp 50) 81 rfl (w.heap.size + 1) 25 i0 (.agg #[.slice none 0 0]) 1 24 Tryd.underlying81 HHI.out.1 HHI.out.2.1 HHI.out.2.2.1 HHI.out.2.2.2 rfl (by decide) u7 ys.length ys (by simp [Act.eval]) (hid (show World.ownsRow (World.alloc wL.drew (.cells #[.slice (some ⟨g0, o0, none⟩) N0 c0, .slice (some ⟨g1, o1, none⟩) N1 c1] 25)) _ _ _ _ _ _ from HOL.out.1.alloc _)).out ⟨wL.heap.size, 0, none⟩ 2 2 [.slice (some ⟨g0, o0, none⟩) N0 c0, .slice (some ⟨g1, o1, none⟩) N1 c1] (by simp [Act.eval]) rfl (pair_cells wL.drew _ _) (by simp [Value.oneCell']) (by unfold maxLen; (try simp only [List.length_append, List.length_cons, List.length_nil]); omega) (by (try simp only [List.length_append, List.length_cons, List.length_nil]); omega) (by have := HSZ.out _ HBL.out; simp; omega) ?_; intro v9 w9 h2 h3 h4 h5; have HA9 : Hid (Below wL.heap.size wL (World.alloc wL.drew (.cells #[.slice (some ⟨g0, o0, none⟩) N0 c0, .slice (some ⟨g1, o1, none⟩) N1 c1] 25))) := hid ((Below.refl _ _).drew.alloc (Nat.le_refl _) _); have HQ9 := hid (OwnK.more (HOL.out.next HA9.out) h2 (by simp) h3 (ms := [l0, l1]) rfl (pair_vals ((HV0.out.next (btree HBL.out)).next HA9.out) ((HV1.out.next (btree HBL.out)).next HA9.out) hl0 hl1)); have HQ9B := hid ((HBL.out.trans (HA9.out.mono (HSZ.out _ HBL.out))).grown h3 (by have := HSZ.out _ HBL.out; simp; omega) (fun k e => own_bl HOL.out.1 k e)); clear h2 h3 h4 h5)
            all_goals go_wp2
            all_goals
              go_roundw
              case rel => exact ⟨k + 2, (ys ++ [Value.slice (some ⟨g0, o0, none⟩) N0 c0, Value.slice (some ⟨g1, o1, none⟩) N1 c1]), (ms ++ [l0, l1]), false, by omega, by omega, by go_num, rfl, HQ9.out, by (try simp); omega, by (try simp at hle); (try simp); omega, HMEM.out _ (by intro l hl; simp only [List.mem_append, List.mem_cons, List.not_mem_nil, or_false] at hl; grind), HQ9B.out⟩
              case measure => simp [intOf]; omega
        · go_wp2_with fail
          go_region_law (refine step_append_own_at rfl (.tmp 40) (.tmp 50) 81 rfl (w.heap.size + 1) 25 i0 (.agg #[.slice none 0 0]) 1 24 Tryd.underlying81 HHI.out.1 HHI.out.2.1 HHI.out.2.2.1 HHI.out.2.2.2 rfl (by decide) u7 ys.length ys (by simp [Act.eval]) (hid (show World.ownsRow (World.alloc wL.drew (.cells #[.slice (some ⟨g0, o0, none⟩) N0 c0, .slice (some ⟨g1, o1, none⟩) N1 c1] 25)) _ _ _ _ _ _ from HOL.out.1.alloc _)).out ⟨wL.heap.size, 0, none⟩ 2 2 [.slice (some ⟨g0, o0, none⟩) N0 c0, .slice (some ⟨g1, o1, none⟩) N1 c1] (by simp [Act.eval]) rfl (pair_cells wL.drew _ _) (by simp [Value.oneCell']) (by unfold maxLen; (try simp only [List.length_append, List.length_cons, List.length_nil]); omega) (by (try simp only [List.length_append, List.length_cons, List.length_nil]); omega) (by have := HSZ.out _ HBL.out; simp; omega) ?_; intro v9 w9 h2 h3 h4 h5; have HA9 : Hid (Below wL.heap.size wL (World.alloc wL.drew (.cells #[.slice (some ⟨g0, o0, none⟩) N0 c0, .slice (some ⟨g1, o1, none⟩) N1 c1] 25))) := hid ((Below.refl _ _).drew.alloc (Nat.le_refl _) _); have HQ9 := hid (OwnK.more (HOL.out.next HA9.out) h2 (by simp) h3 (ms := [l0, l1]) rfl (pair_vals ((HV0.out.next (btree HBL.out)).next HA9.out) ((HV1.out.next (btree HBL.out)).next HA9.out) hl0 hl1)); have HQ9B := hid ((HBL.out.trans (HA9.out.mono (HSZ.out _ HBL.out))).grown h3 (by have := HSZ.out _ HBL.out; simp; omega) (fun k e => own_bl HOL.out.1 k e)); clear h2 h3 h4 h5)
          all_goals go_wp2
          all_goals
            go_roundw
            case rel => exact ⟨k + 2, (ys ++ [Value.slice (some ⟨g0, o0, none⟩) N0 c0, Value.slice (some ⟨g1, o1, none⟩) N1 c1]), (ms ++ [l0, l1]), true, by omega, by omega, by go_num, rfl, HQ9.out, by (try simp); omega, by (try simp at hle); (try simp); omega, HMEM.out _ (by intro l hl; simp only [List.mem_append, List.mem_cons, List.not_mem_nil, or_false] at hl; grind), HQ9B.out⟩
            case measure => simp [intOf]; omega
      · have hE2 : (tx.toList != t.toList) = false := by unfold bne; rw [hE]; rfl
        cases b
        · cases hL : Go.Op.bytesLess tx.toList t.toList
          · go_wp2_with fail
            go_region_law (first | (refine step_enter rfl (f := 48) (vals := #[.string t]) (by kernel_rfl) (l5Text_any t _) ?_; intro e wA hq; obtain ⟨gA, rfl, hA1, hA2, hA3⟩ := hq; refine ⟨_, rfl, ?_⟩; have HBA : Hid (Below wL.heap.size wL wA) := hid ((Below.refl _ _).drew.trans hA3); have HXA := hid (HBL.out.trans (HBA.out.mono (HSZ.out _ HBL.out))); have pA := tree_cell HXA.out; have HKA := hid (HOL.out.next HBA.out); have HVA : Hid (ValIn R wA (.slice (some ⟨gA, 0, none⟩) 1 1) [⟨4, 0, t, 0⟩]) := (by obtain ⟨cur, h5, _⟩ := hA2.1; exact ⟨gA, 0, 1, 1, rfl, rfl, by omega, by omega, hA2.lt, (by have := HSZ.out _ HBL.out; have hA1' : wL.heap.size ≤ gA := hA1; omega), hA2.2, cur, _, h5⟩); have HVB := hid (HV.out.next (btree HXA.out)); have HOA := hid (HKA.out.1.alloc (.cells #[.slice (some ⟨gA, 0, none⟩) 1 1, .slice (some ⟨gv, ov, none⟩) Nv cv] 25)); have hzA := HXA.out.size; have HCA := hid (pair_cells wA (.slice (some ⟨gA, 0, none⟩) 1 1) (.slice (some ⟨gv, ov, none⟩) Nv cv)); clear hA1 hA2 hA3) | (refine step_append_own_at rfl (.tmp 31) (.tmp 35) 81 rfl (w.heap.size + 1) 25 i0 (.agg #[.slice none 0 0]) 1 24 Tryd.underlying81 HHI.out.1 HHI.out.2.1 HHI.out.2.2.1 HHI.out.2.2.2 rfl (by decide) u7 ys.length ys (by simp [Act.eval]) HOA.out ⟨wA.heap.size, 0, none⟩ 2 2 [.slice (some ⟨gA, 0, none⟩) 1 1, .slice (some ⟨gv, ov, none⟩) Nv cv] (by simp [Act.eval]) rfl HCA.out (by simp [Value.oneCell']) (by unfold maxLen; (try simp only [List.length_append, List.length_cons, List.length_nil]); omega) (by (try simp only [List.length_append, List.length_cons, List.length_nil]); omega) (by simp at hzA; simp; omega) ?_; intro v8 w8 h2 h3 h4 h5; have HAA := hid ((Below.refl wA.heap.size wA).alloc (Nat.le_refl _) (.cells #[.slice (some ⟨gA, 0, none⟩) 1 1, .slice (some ⟨gv, ov, none⟩) Nv cv] 25)); have HQ8 := hid (OwnK.more (HKA.out.next HAA.out) h2 (by simp) h3 (ms := [[⟨4, 0, t, 0⟩], lv]) rfl (pair_vals (HVA.out.next HAA.out) (HVB.out.next HAA.out) (by simp) hvne)); have HQ8B := hid ((HXA.out.alloc (by simpa using hzA) (.cells #[.slice (some ⟨gA, 0, none⟩) 1 1, .slice (some ⟨gv, ov, none⟩) Nv cv] 25)).grown h3 (by simp at hzA; simp; omega) (fun k e => own_bl HKA.out.1 k e)); clear h2 h3 h4 h5))
            all_goals go_wp2
            all_goals
              go_roundw
              case rel => exact ⟨k + 2, (ys ++ [Value.slice (some ⟨gA, 0, none⟩) 1 1, Value.slice (some ⟨gv, ov, none⟩) Nv cv]), (ms ++ [[⟨4, 0, t, 0⟩], lv]), true, by omega, by omega, by go_num, rfl, HQ8.out, by (try simp); omega, by (try simp at hle); (try simp); omega, HMEM.out _ (by intro l hl; simp only [List.mem_append, List.mem_cons, List.not_mem_nil, or_false] at hl; grind), HQ8B.out⟩
              case measure => simp [intOf]; omega
          · go_wp2
            go_roundw
            case rel => exact ⟨k + 2, ys, ms, false, by omega, by omega, by go_num, rfl, HOL.out, by (try simp); omega, by (try simp at hle); (try simp); omega, HMEM.out _ (fun l hl => .inl hl), HBL.out⟩
            case measure => simp [intOf]; omega
        · go_wp2
          go_roundw
          case rel => exact ⟨k + 2, ys, ms, true, by omega, by omega, by go_num, rfl, HOL.out, by (try simp); omega, by (try simp at hle); (try simp); omega, HMEM.out _ (fun l hl => .inl hl), HBL.out⟩
          case measure => simp [intOf]; omega
    · cases b
      · have pW := tree_cell HBW.out
        go_wp2_with fail
        go_region_law (first | (refine step_enter rfl (f := 48) (vals := #[.string t]) (by kernel_rfl) (l5Text_any t _) ?_; intro e wA hq; obtain ⟨gA, rfl, hA1, hA2, hA3⟩ := hq; refine ⟨_, rfl, ?_⟩; have HBA : Hid (Below wr.heap.size wr wA) := hid ((Below.refl _ _).drew.trans hA3); have HXA := hid (HBW.out.trans (HBA.out.mono (HSZ.out _ HBW.out))); have pA := tree_cell HXA.out; have HKA := hid (HOK.out.next HBA.out); have HVA : Hid (ValIn R wA (.slice (some ⟨gA, 0, none⟩) 1 1) [⟨4, 0, t, 0⟩]) := (by obtain ⟨cur, h5, _⟩ := hA2.1; exact ⟨gA, 0, 1, 1, rfl, rfl, by omega, by omega, hA2.lt, (by have := HSZ.out _ HBW.out; have hA1' : wr.heap.size ≤ gA := hA1; omega), hA2.2, cur, _, h5⟩); have HVB := hid (HV.out.next (btree HXA.out)); have HOA := hid (HKA.out.1.alloc (.cells #[.slice (some ⟨gA, 0, none⟩) 1 1, .slice (some ⟨gv, ov, none⟩) Nv cv] 25)); have hzA := HXA.out.size; have HCA := hid (pair_cells wA (.slice (some ⟨gA, 0, none⟩) 1 1) (.slice (some ⟨gv, ov, none⟩) Nv cv)); clear hA1 hA2 hA3) | (refine step_append_own_at rfl (.tmp 54) (.tmp 58) 81 rfl (w.heap.size + 1) 25 i0 (.agg #[.slice none 0 0]) 1 24 Tryd.underlying81 HHI.out.1 HHI.out.2.1 HHI.out.2.2.1 HHI.out.2.2.2 rfl (by decide) u7 ys.length ys (by simp [Act.eval]) HOA.out ⟨wA.heap.size, 0, none⟩ 2 2 [.slice (some ⟨gA, 0, none⟩) 1 1, .slice (some ⟨gv, ov, none⟩) Nv cv] (by simp [Act.eval]) rfl HCA.out (by simp [Value.oneCell']) (by unfold maxLen; (try simp only [List.length_append, List.length_cons, List.length_nil]); omega) (by (try simp only [List.length_append, List.length_cons, List.length_nil]); omega) (by simp at hzA; simp; omega) ?_; intro v8 w8 h2 h3 h4 h5; have HAA := hid ((Below.refl wA.heap.size wA).alloc (Nat.le_refl _) (.cells #[.slice (some ⟨gA, 0, none⟩) 1 1, .slice (some ⟨gv, ov, none⟩) Nv cv] 25)); have HQ8 := hid (OwnK.more (HKA.out.next HAA.out) h2 (by simp) h3 (ms := [[⟨4, 0, t, 0⟩], lv]) rfl (pair_vals (HVA.out.next HAA.out) (HVB.out.next HAA.out) (by simp) hvne)); have HQ8B := hid ((HXA.out.alloc (by simpa using hzA) (.cells #[.slice (some ⟨gA, 0, none⟩) 1 1, .slice (some ⟨gv, ov, none⟩) Nv cv] 25)).grown h3 (by simp at hzA; simp; omega) (fun k e => own_bl HKA.out.1 k e)); clear h2 h3 h4 h5))
        all_goals go_wp2
        all_goals go_ret
        all_goals have HME2 : Hid (∀ l ∈ ms ++ [[⟨4, 0, t, 0⟩], lv], l ∈ ls ∨ l = lv ∨ l = [⟨4, 0, t, 0⟩]) := (by intro l hl; simp only [List.mem_append, List.mem_cons, List.not_mem_nil, or_false] at hl; have hm := HME.out l; grind)
        all_goals first
          | exact ⟨_, rfl, _, _, HQ8.out, by simp; omega, by (try simp at hle); simp; omega, HME2.out, btree HQ8B.out⟩
          | exact ⟨_, _, _, rfl, HQ8.out, by simp; omega, by (try simp at hle); simp; omega, HME2.out, btree HQ8B.out⟩
      · go_wp2
        go_ret
        exact ⟨_, rfl, ys, ms, HOK.out, hev, by omega, HME.out, btree HBW.out⟩
end Go.Proofs.YtfookokepnnmoaaDoor
