import Derived.Test.YtpcfhbbialgcfaaPlPutF
import Derived.Test.YtpcfhbbialgcfaaPlPlace
/-! A package put into packages in order, by the model. Printed by gen_hc.py. -/
namespace Go.Proofs.Ytpcfhbbialgcfaa.G
open Go.RowKit
open Go.Proofs.Ytpcfhbbialgcfaa.R (hid small set_other Fl fl0 lt_hp hp_next B1 B2 row_cell row_room below_drewN below_set info_parts)
open Go.Proofs.Ytpcfhbbialgcfaa.P
set_option maxRecDepth 20000
theorem info_Cf : (Try.prog.info? 55).map (fun i => (i.zero, i.size, i.bytes)) = some (some (.agg #[.string ⟨#[]⟩, .string ⟨#[]⟩]), 2, 32) := by kernel_rfl
/-- A row of files of one's own. -/
abbrev OwnF (B : Nat) (W : World) (v : Value) (l : List Fl) : Prop := W.ownsRow B 55 2 v l.length (cellsF l)
theorem own_form2 {W : World} {B n : Nat} {v : Value} {xs : List Value} (h : W.ownsRow B 55 2 v n xs) : ∃ ad c, v = .slice ad n c := by
  obtain ⟨_, ⟨rfl, rfl⟩ | ⟨g, cap, cur, rfl, _⟩⟩ := h
  · exact ⟨none, 0, rfl⟩
  · exact ⟨_, cap, rfl⟩
/-- Files that can be read: N of them at the start of a row. -/
def RdF (W : World) (v : Value) (l : List Fl) : Prop := ∃ (ad : Option Addr) (c : Nat), v = .slice ad l.length c ∧ (l = [] ∨ ∃ g, ad = some ⟨g, 0, none⟩ ∧ g < W.heap.size ∧ ∀ i, i < l.length → W.cell? ⟨g, i * 2, none⟩ = some (.string (l.getD i fl0).name) ∧ W.cell? ⟨g, i * 2 + 1, none⟩ = some (.string (l.getD i fl0).text))
theorem RdF.next {W V : World} {v : Value} {l : List Fl} (h : RdF W v l) (hb : Below W.heap.size W V) : RdF V v l := by
  obtain ⟨ad, c, e, h1⟩ := h
  refine ⟨ad, c, e, ?_⟩
  rcases h1 with h1 | ⟨g, e1, e2, e3⟩
  · exact .inl h1
  · exact .inr ⟨g, e1, Nat.lt_of_lt_of_le e2 hb.size, fun i hi => ⟨(hb.cell (p := ⟨g, _, none⟩) e2).trans (e3 i hi).1, (hb.cell (p := ⟨g, _, none⟩) e2).trans (e3 i hi).2⟩⟩
theorem RdF.sl {W : World} {v : Value} {l : List Fl} (h : RdF W v l) : ∃ ad c, v = .slice ad l.length c := by
  obtain ⟨ad, c, e, _⟩ := h
  exact ⟨ad, c, e⟩
theorem RdF.at {W : World} {ad : Option Addr} {n c : Nat} {l : List Fl} (h : RdF W (.slice ad n c) l) {i : Nat} (hi : i < l.length) : ∃ g, ad = some ⟨g, 0, none⟩ ∧ W.cell? ⟨g, i * 2, none⟩ = some (.string (l.getD i fl0).name) ∧ W.cell? ⟨g, i * 2 + 1, none⟩ = some (.string (l.getD i fl0).text) := by
  obtain ⟨ad', c', e, h1⟩ := h
  injection e with ea _ _
  rcases h1 with h1 | ⟨g, e1, _, e3⟩
  · rw [h1] at hi; exact absurd hi (Nat.not_lt_zero _)
  · exact ⟨g, ea.trans e1, e3 i hi⟩
theorem RdF.at2 {W : World} {g n c : Nat} {l : List Fl} (h : RdF W (.slice (some ⟨g, 0, none⟩) n c) l) {i : Nat} (hi : i < l.length) {a b : ByteArray} (e : l.getD i fl0 = ⟨a, b⟩) : W.cell? ⟨g, i * 2, none⟩ = some (.string a) ∧ W.cell? ⟨g, i * 2 + 1, none⟩ = some (.string b) := by
  obtain ⟨g', e1, h1, h2⟩ := h.at hi
  injection e1 with e1
  injection e1 with e1 _ _
  subst e1
  rw [e] at h1 h2
  exact ⟨h1, h2⟩
theorem RdF.own {B : Nat} {W : World} {v : Value} {l : List Fl} (h : OwnF B W v l) : RdF W v l := by
  obtain ⟨hl, ⟨rfl, hn⟩ | ⟨g, cap, cur, rfl, hB, hc, hnc, hm, hz, ht⟩⟩ := h
  · exact ⟨none, 0, by rw [hn], .inl (List.eq_nil_of_length_eq_zero hn)⟩
  · refine ⟨_, cap, rfl, .inr ⟨g, rfl, lt_hp hc, fun i hi => ?_⟩⟩
    obtain ⟨h1, h2⟩ := cellsF_get l i hi
    have e1 : ∀ j, j < l.length * 2 → cur[j]? = (cellsF l)[j]? := fun j hj => by
      have : (cur.toList.take (l.length * 2))[j]? = (cellsF l)[j]? := by rw [ht]
      rw [List.getElem?_take_of_lt hj, Array.getElem?_toList] at this
      exact this
    rw [row_cell hc, row_cell hc, e1 _ (by omega), e1 _ (by omega)]
    exact ⟨h1, h2⟩
/-- The two cells of a literal row. -/
theorem lit_cells (W : World) (a b : ByteArray) : ∀ j u, ([.string a, .string b] : List Value)[j]? = some u → (W.alloc (.cells #[.string a, .string b] 55)).cell? ((⟨W.heap.size, 0, none⟩ : Addr).add j) = some u := fun j u hj => by
  rw [R.add_at, row_cell (heap_alloc_new W _)]
  simpa using hj
theorem own_more {B : Nat} {W : World} {v : Value} {l : List Fl} {x : Fl} {n : Nat} (h : W.ownsRow B 55 2 v (n + 1) (cellsF l ++ [.string x.name, .string x.text])) (hn : n = l.length) : OwnF B W v (l ++ [x]) := by
  have e1 : cellsF (l ++ [x]) = cellsF l ++ [.string x.name, .string x.text] := by rw [cellsF_app]; rfl
  unfold OwnF
  rw [e1, List.length_append, ← hn]
  exact h
theorem grow_lo {w W V : World} {B n : Nat} {v : Value} {xs : List Value} (lo : Below B w W) (h : W.ownsRow B 55 2 v n xs) (hB : B ≤ W.heap.size) (hg : W.grownBy V v.ownBlock) : Below B w V := by
  refine lo.trans (grown_below hg hB fun q e => ?_)
  obtain ⟨_, ⟨rfl, _⟩ | ⟨g, cap, cur, rfl, hb, _⟩⟩ := h
  · cases e
  · simp [Value.ownBlock] at e
    omega
theorem own_al {B : Nat} {W : World} {v : Value} {n : Nat} {xs : List Value} (h : W.ownsRow B 55 2 v n xs) (o : Obj) : (W.alloc o).ownsRow B 55 2 v n xs := own_next h ((Below.refl _ _).alloc (Nat.le_refl _) _)
structure PI (w : World) (l : List Fl) (x : Fl) (i : Nat) (v : Value) (W : World) : Prop where
  lo : Below w.heap.size w W
  own : OwnF w.heap.size W v (outL l x i)
set_option maxHeartbeats 4000000 in
theorem put_any (l : List Fl) (x : Fl) {fv : Value} (w : World) (hA : Asc (nms l)) (hN : l.length ≤ 1000) (k0 : RdF w fv l) :
    Calls Try.prog 16 #[fv, .string x.name, .string x.text] w fun e w' => ∃ v, e = .returned v ∧ OwnF w.heap.size w' v (putL l x) ∧ Below w.heap.size w w' := by
  have HK := hid k0
  have HP := hid (atN_parts hA x.name)
  have HAB := hid (fun j => atN_above (t := x.name) (j := j) hA)
  obtain ⟨ad, cp, rfl⟩ := k0.sl
  clear k0 hA
  obtain ⟨i0, hi, hz0, hz1, hz2⟩ := info_parts info_Cf
  have HHI := hid (And.intro hi (And.intro hz0 (And.intro hz1 hz2)))
  clear hi hz0 hz1 hz2
  obtain ⟨n, t⟩ := x
  dsimp only at HP HAB
  obtain ⟨I, hI⟩ : ∃ I, atN (nms l) n = I := ⟨_, rfl⟩
  have HI := hid hI
  have hIl : I ≤ l.length := by rw [← hI, ← nms_len l]; exact atN_le _ _
  rw [hI] at HP HAB
  clear hI
  have HI0 : Hid (PI w l ⟨n, t⟩ 0 (.slice (some ⟨w.heap.size, 0, none⟩) 0 0) (w.alloc (.cells #[] 55))) := hid ⟨(Below.refl _ _).alloc (Nat.le_refl _) _, by
    have e : outL l ⟨n, t⟩ 0 = [] := by rw [outL_le (Nat.zero_le _)]; rfl
    unfold OwnF
    rw [e]
    exact ⟨rfl, .inr ⟨w.heap.size, 0, #[], rfl, Nat.le_refl _, heap_alloc_new _ _, Nat.le_refl _, Nat.zero_le _, rfl, rfl⟩⟩⟩
  go_enter Try.func16, Try.ntmps16
  go_wp2
  go_loopw [7, 8, 9] (fun q d i wr => ∃ (k : Nat) (v : Value), k ≤ l.length ∧ i = .int .i64 k ∧ q = v ∧ d = .bool (decide (I < k)) ∧ PI w l ⟨n, t⟩ k v wr) (fun _ _ i _ => l.length - (intOf i).toNat)
  case atStart => exact ⟨0, _, Nat.zero_le _, rfl, rfl, rfl, HI0.out⟩
  case round =>
    obtain ⟨k, v, hk, rfl, rfl, rfl, hpi⟩ := hrel
    have HPI := hid hpi
    have hln := outL_len l ⟨n, t⟩ k
    obtain ⟨av, cv, rfl⟩ := own_form2 hpi.own
    clear hpi HI0
    have HWS := hid HPI.out.lo.size
    obtain ⟨O, hO⟩ : ∃ O, outL l ⟨n, t⟩ k = O := ⟨_, rfl⟩
    have HOE := hid hO
    have HOW : Hid (OwnF w.heap.size wr (.slice av O.length cv) O) := by
      have := HPI.out.own
      rw [hO] at this
      exact this
    rw [hO] at hln
    rw [hO]
    clear hO
    have HAL : Hid (∀ (W : World) (o : Obj), w.heap.size ≤ W.heap.size → w.heap.size ≤ (W.alloc o).heap.size) := hid fun W o h => by simp; omega
    by_cases hlt : k < l.length
    · obtain ⟨gf, hgf, a0, a1⟩ := (HK.out.next HPI.out.lo).at hlt
      subst hgf
      have HNM := hid (nms_get hlt)
      obtain ⟨y, hy⟩ : ∃ y, l.getD k fl0 = y := ⟨_, rfl⟩
      have HYE := hid hy
      rw [hy] at a0 a1 HNM
      clear hy
      obtain ⟨yn, yt⟩ := y
      dsimp only at a0 a1 HNM
      rcases Nat.lt_trichotomy k I with hc | hc | hc
      · -- below
        have hd : decide (I < k) = false := by simp; omega
        have hbl : Op.bytesLess yn.toList n.toList = true := by have := HP.out.1 k hc; rw [HNM.out] at this; exact this
        have hne3 : (yn.toList == n.toList) = false := bytes_ne (fun e => by rw [e] at hbl; exact ltB_irrefl n hbl)
        have hne : (yn.toList != n.toList) = true := by rw [bne, hne3]; rfl
        have hne2 : ¬ yn.toList = n.toList := by simpa using hne3
        have hd2 : decide (I < k + 1) = false := by simp; omega
        have HON : Hid (outL l ⟨n, t⟩ (k + 1) = O ++ [⟨yn, yt⟩]) := hid (by rw [← HOE.out, ← HYE.out]; exact outL_low (by show k < atN (nms l) n; rw [HI.out]; exact hc) hlt)
        rw [hd]
        go_wp2_with (at_builtin; refine wpList_append_own_at _ rfl (.tmp 41) (.tmp 46) 26 rfl w.heap.size 55 i0 (.agg #[.string ⟨#[]⟩, .string ⟨#[]⟩]) 2 32 Try.underlying26 HHI.out.1 HHI.out.2.1 HHI.out.2.2.1 HHI.out.2.2.2 rfl (by decide) (.slice av O.length cv) O.length (cellsF O) rfl (own_al HOW.out _) ⟨wr.heap.size, 0, none⟩ 1 1 [.string yn, .string yt] rfl rfl (lit_cells _ yn yt) (oneC _ _) (by unfold maxLen; omega) (by omega) (HAL.out _ _ HWS.out) ?_; intro v5 w5 o5 g5 _ hqv5; have Ho5 := hid o5; have Hg5 := hid g5; have hslv5 := own_form2 o5; obtain ⟨av5, cv5, rfl⟩ := hslv5; clear o5 g5 hqv5)
        have HN2 : Hid (PI w l ⟨n, t⟩ (k + 1) (.slice av5 (O.length + 1) cv5) w5) := hid ⟨grow_lo (HPI.out.lo.alloc HWS.out _) (own_al HOW.out _) (HAL.out _ _ HWS.out) Hg5.out, by rw [HON.out]; exact own_more (x := ⟨yn, yt⟩) Ho5.out rfl⟩
        go_roundw
        case rel => exact ⟨k + 1, _, by omega, by go_num, rfl, by rw [hd2], HN2.out⟩
        case measure => simp [intOf]; omega
      · -- here
        have hd : decide (I < k) = false := by simp; omega
        have hd2 : decide (I < k + 1) = true := by simp; omega
        have hbl : Op.bytesLess yn.toList n.toList = false := by have := HP.out.2 k (by omega) (by rw [nms_len]; exact hlt); rw [HNM.out] at this; exact this
        have HC := hid hc
        have hIlt : Hid (I < l.length) := hid (by omega)
        clear hc
        rw [hd]
        by_cases hth : yn = n
        · have hne : (yn.toList != n.toList) = false := by rw [hth]; simp
          have hne3 : (yn.toList == n.toList) = true := by rw [hth]; simp
          have HTH := hid hth
          clear hth
          have HON : Hid (outL l ⟨n, t⟩ (k + 1) = O ++ [⟨n, t⟩]) := hid (by rw [← HOE.out]; exact outL_there (by show k = atN (nms l) n; rw [HI.out]; exact HC.out) ⟨by show atN (nms l) n < _; rw [HI.out, nms_len]; exact hIlt.out, by show (nms l).getD (atN (nms l) n) _ = n; rw [HI.out, ← HC.out, HNM.out]; exact HTH.out⟩)
          go_wp2_with (at_builtin; refine wpList_append_own_at _ rfl (.tmp 28) (.tmp 32) 26 rfl w.heap.size 55 i0 (.agg #[.string ⟨#[]⟩, .string ⟨#[]⟩]) 2 32 Try.underlying26 HHI.out.1 HHI.out.2.1 HHI.out.2.2.1 HHI.out.2.2.2 rfl (by decide) (.slice av O.length cv) O.length (cellsF O) rfl (own_al HOW.out _) ⟨wr.heap.size, 0, none⟩ 1 1 [.string n, .string t] rfl rfl (lit_cells _ n t) (oneC _ _) (by unfold maxLen; omega) (by omega) (HAL.out _ _ HWS.out) ?_; intro v5 w5 o5 g5 _ hqv5; have Ho5 := hid o5; have Hg5 := hid g5; have hslv5 := own_form2 o5; obtain ⟨av5, cv5, rfl⟩ := hslv5; clear o5 g5 hqv5; have HL5 : Hid (Below w.heap.size w w5) := hid (grow_lo (HPI.out.lo.alloc HWS.out _) (own_al HOW.out _) (HAL.out _ _ HWS.out) Hg5.out); obtain ⟨b0, b1⟩ := (HK.out.next HL5.out).at2 hlt HYE.out)
          have HN2 : Hid (PI w l ⟨n, t⟩ (k + 1) (.slice av5 (O.length + 1) cv5) w5) := hid ⟨grow_lo (HPI.out.lo.alloc HWS.out _) (own_al HOW.out _) (HAL.out _ _ HWS.out) Hg5.out, by rw [HON.out]; exact own_more (x := ⟨n, t⟩) Ho5.out rfl⟩
          go_roundw
          case rel => exact ⟨k + 1, _, by omega, by go_num, rfl, by rw [hd2], HN2.out⟩
          case measure => simp [intOf]; omega
        · have hne3 : (yn.toList == n.toList) = false := bytes_ne hth
          have hne : (yn.toList != n.toList) = true := by rw [bne, hne3]; rfl
          have hne2 : ¬ yn.toList = n.toList := by simpa using hne3
          have HTH := hid hth
          clear hth
          have HON : Hid (outL l ⟨n, t⟩ (k + 1) = O ++ [⟨n, t⟩] ++ [⟨yn, yt⟩]) := hid (by rw [← HOE.out, ← HYE.out]; exact outL_new (by show k = atN (nms l) n; rw [HI.out]; exact HC.out) hlt (fun ht => HTH.out (by have := ht.2; rw [show atN (nms l) n = k from HI.out.trans HC.out.symm, HNM.out] at this; exact this)))
          go_wp2_with (first
            | (at_builtin; refine wpList_append_own_at _ rfl (.tmp 28) (.tmp 32) 26 rfl w.heap.size 55 i0 (.agg #[.string ⟨#[]⟩, .string ⟨#[]⟩]) 2 32 Try.underlying26 HHI.out.1 HHI.out.2.1 HHI.out.2.2.1 HHI.out.2.2.2 rfl (by decide) (.slice av O.length cv) O.length (cellsF O) rfl (own_al HOW.out _) ⟨wr.heap.size, 0, none⟩ 1 1 [.string n, .string t] rfl rfl (lit_cells _ n t) (oneC _ _) (by unfold maxLen; omega) (by omega) (HAL.out _ _ HWS.out) ?_; intro v5 w5 o5 g5 _ hqv5; have Ho5 := hid o5; have Hg5 := hid g5; have hslv5 := own_form2 o5; obtain ⟨av5, cv5, rfl⟩ := hslv5; clear o5 g5 hqv5; have HL5 : Hid (Below w.heap.size w w5) := hid (grow_lo (HPI.out.lo.alloc HWS.out _) (own_al HOW.out _) (HAL.out _ _ HWS.out) Hg5.out); obtain ⟨b0, b1⟩ := (HK.out.next HL5.out).at2 hlt HYE.out)
            | (at_builtin; refine wpList_append_own_at _ rfl (.tmp 41) (.tmp 46) 26 rfl w.heap.size 55 i0 (.agg #[.string ⟨#[]⟩, .string ⟨#[]⟩]) 2 32 Try.underlying26 HHI.out.1 HHI.out.2.1 HHI.out.2.2.1 HHI.out.2.2.2 rfl (by decide) (.slice av5 (O.length + 1) cv5) (O.length + 1) (cellsF O ++ [.string n, .string t]) rfl (own_al Ho5.out _) ⟨w5.heap.size, 0, none⟩ 1 1 [.string yn, .string yt] rfl rfl (lit_cells _ yn yt) (oneC _ _) (by unfold maxLen; omega) (by omega) (HAL.out _ _ HL5.out.size) ?_; intro v6 w6 o6 g6 _ hqv6; have Ho6 := hid o6; have Hg6 := hid g6; have hslv6 := own_form2 o6; obtain ⟨av6, cv6, rfl⟩ := hslv6; clear o6 g6 hqv6))
          have HN2 : Hid (PI w l ⟨n, t⟩ (k + 1) (.slice av6 (O.length + 1 + 1) cv6) w6) := hid ⟨grow_lo (HL5.out.alloc HL5.out.size _) (own_al Ho5.out _) (HAL.out _ _ HL5.out.size) Hg6.out, by rw [HON.out]; exact own_more (l := O ++ [⟨n, t⟩]) (x := ⟨yn, yt⟩) (by rw [cellsF_app]; exact Ho6.out) (by simp)⟩
          go_roundw
          case rel => exact ⟨k + 1, _, by omega, by go_num, rfl, by rw [hd2], HN2.out⟩
          case measure => simp [intOf]; omega
      · -- above
        have hd : decide (I < k) = true := by simp; omega
        have hd2 : decide (I < k + 1) = true := by simp; omega
        have hth : ¬ yn = n := by have := (HAB.out k hc (by rw [nms_len]; exact hlt)).2; rw [HNM.out] at this; exact this
        have hne3 : (yn.toList == n.toList) = false := bytes_ne hth
        have hne : (yn.toList != n.toList) = true := by rw [bne, hne3]; rfl
        have hne2 : ¬ yn.toList = n.toList := by simpa using hne3
        clear hth
        have HON : Hid (outL l ⟨n, t⟩ (k + 1) = O ++ [⟨yn, yt⟩]) := hid (by rw [← HOE.out, ← HYE.out]; exact outL_high (by show atN (nms l) n < k; rw [HI.out]; exact hc) hlt)
        rw [hd]
        go_wp2_with (at_builtin; refine wpList_append_own_at _ rfl (.tmp 41) (.tmp 46) 26 rfl w.heap.size 55 i0 (.agg #[.string ⟨#[]⟩, .string ⟨#[]⟩]) 2 32 Try.underlying26 HHI.out.1 HHI.out.2.1 HHI.out.2.2.1 HHI.out.2.2.2 rfl (by decide) (.slice av O.length cv) O.length (cellsF O) rfl (own_al HOW.out _) ⟨wr.heap.size, 0, none⟩ 1 1 [.string yn, .string yt] rfl rfl (lit_cells _ yn yt) (oneC _ _) (by unfold maxLen; omega) (by omega) (HAL.out _ _ HWS.out) ?_; intro v5 w5 o5 g5 _ hqv5; have Ho5 := hid o5; have Hg5 := hid g5; have hslv5 := own_form2 o5; obtain ⟨av5, cv5, rfl⟩ := hslv5; clear o5 g5 hqv5)
        have HN2 : Hid (PI w l ⟨n, t⟩ (k + 1) (.slice av5 (O.length + 1) cv5) w5) := hid ⟨grow_lo (HPI.out.lo.alloc HWS.out _) (own_al HOW.out _) (HAL.out _ _ HWS.out) Hg5.out, by rw [HON.out]; exact own_more (x := ⟨yn, yt⟩) Ho5.out rfl⟩
        go_roundw
        case rel => exact ⟨k + 1, _, by omega, by go_num, rfl, by rw [hd2], HN2.out⟩
        case measure => simp [intOf]; omega
    · obtain rfl : k = l.length := by omega
      by_cases hc : I < l.length
      · have hd : decide (I < l.length) = true := by simp; omega
        have HF : Hid (O = putL l ⟨n, t⟩) := hid (by rw [← HOE.out]; exact outL_fin (by show atN (nms l) n < _; rw [HI.out]; exact hc))
        rw [hd]
        go_wp2
        go_ret
        exact ⟨_, rfl, HF.out ▸ HOW.out, HPI.out.lo⟩
      · have hd : decide (I < l.length) = false := by simp; omega
        have HF : Hid (O ++ [⟨n, t⟩] = putL l ⟨n, t⟩) := hid (by rw [← HOE.out]; exact outL_end (by show atN (nms l) n = _; rw [HI.out]; omega))
        rw [hd]
        go_wp2_with (at_builtin; refine wpList_append_own_at _ rfl (.tmp 50) (.tmp 54) 26 rfl w.heap.size 55 i0 (.agg #[.string ⟨#[]⟩, .string ⟨#[]⟩]) 2 32 Try.underlying26 HHI.out.1 HHI.out.2.1 HHI.out.2.2.1 HHI.out.2.2.2 rfl (by decide) (.slice av O.length cv) O.length (cellsF O) rfl (own_al HOW.out _) ⟨wr.heap.size, 0, none⟩ 1 1 [.string n, .string t] rfl rfl (lit_cells _ n t) (oneC _ _) (by unfold maxLen; omega) (by omega) (HAL.out _ _ HWS.out) ?_; intro v5 w5 o5 g5 _ hqv5; have Ho5 := hid o5; have Hg5 := hid g5; have hslv5 := own_form2 o5; obtain ⟨av5, cv5, rfl⟩ := hslv5; clear o5 g5 hqv5)
        have HN2 : Hid (OwnF w.heap.size w5 (.slice av5 (O.length + 1) cv5) (putL l ⟨n, t⟩) ∧ Below w.heap.size w w5) := hid ⟨by rw [← HF.out]; exact own_more (x := ⟨n, t⟩) Ho5.out rfl, grow_lo (HPI.out.lo.alloc HWS.out _) (own_al HOW.out _) (HAL.out _ _ HWS.out) Hg5.out⟩
        go_ret
        exact ⟨_, rfl, HN2.out.1, HN2.out.2⟩
end Go.Proofs.Ytpcfhbbialgcfaa.G
