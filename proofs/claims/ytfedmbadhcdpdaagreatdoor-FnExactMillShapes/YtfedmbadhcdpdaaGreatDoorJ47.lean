import Derived.Test.YtfedmbadhcdpdaaGreatDoorJ46
/-! The shapes of a function, by the model. Printed by gen_isspec.py. -/
namespace Go.Proofs.YtfedmbadhcdpdaaGreatDoor.C
open Go.RowKit
set_option maxRecDepth 20000
def SpsEnd (fns : List Fn) (a : Int) (w : World) (e : Ending) (w' : World) : Prop := ∃ v l, e = .returned v ∧ ShsIs fns a l ∧ RdS w' v l ∧ Below w.heap.size w w'
theorem l16In_at (n lo hi hi' : Int) (w : World) (he : hi' = hi) :
    Calls Tryz.prog 24 #[.int .i64 n, .int .i64 lo, .int .i64 hi'] w fun e w' => e = .returned (.bool (inB n lo hi)) ∧ w' = w := by
  subst he
  exact l16In_any n lo hi' w
set_option maxHeartbeats 16000000 in
theorem specShapes_any {fns : List Fn} {w : World} {cv : Value} (a : Int) (h1 : FnsRow w cv fns) (hC : CodeS fns) :
    Calls Tryz.prog 10 #[.agg #[cv], .int .i64 a] w (SpsEnd fns a w) := by
  have H1 := hid h1
  have HC := hid hC
  obtain ⟨aF, cF, hcv⟩ := h1.sl
  subst hcv
  clear h1 hC
  have HX0 := hid (R.B2.start w (.cells #[.slice aF fns.length cF] 30) (.cells #[] 43))
  have hFL : fns.length ≤ 9223372036854775807 := by obtain ⟨_, c9, _, h92, h93, _⟩ := H1.out; unfold maxLen at h93; omega
  have hw1 : IntKind.i64.wrap ((fns.length : Int) - 1) = (fns.length : Int) - 1 := by rw [IntKind.wrap_i64]; omega
  go_enter Tryz.func10, Tryz.ntmps10
  go_upto_region 2 with fail
  obtain ⟨W1, hW1⟩ : ∃ W, (w.alloc (.cells #[.slice aF fns.length cF] 30)).alloc (.cells #[] 43) = W := ⟨_, rfl⟩
  rw [hW1] at HX0 ⊢
  clear hW1
  have k0 : W1.cell? ⟨w.heap.size, 0, none⟩ = some (.slice aF fns.length cF) := R.row_cell HX0.out.e 0
  go_upto_region 3 with (go_at_call 17; refine (plain_any (H1.out.next HX0.out.lo) HC.out).mono ?_; rintro e w2 ⟨c, k, i, rfl, hpl, hb2⟩; have HPL := hid hpl; have HX := hid (HX0.out.next hb2); clear hpl hb2)
  clear k0 HX0
  have HNIL : Hid (∀ W, Below w2.heap.size w2 W → ¬ (Plain fns 0 0 0 ∧ 0 ≤ a ∧ a < fns.length) → SpsEnd fns a w (.returned (.slice (some ⟨w.heap.size + 1, 0, none⟩) 0 0)) W) := hid fun W hb hn => ⟨_, [], rfl, .inl ⟨hn, rfl⟩, ⟨_, 0, rfl, .inl rfl⟩, HX.out.lo.trans (hb.mono HX.out.lo.size)⟩
  have k0 : w2.cell? ⟨w.heap.size, 0, none⟩ = some (.slice aF fns.length cF) := R.row_cell HX.out.e 0
  by_cases hc0 : c = 0
  · subst hc0
    have HP0 : Hid (Plain fns 0 0 0) := hid (by
      have h9 := HPL.out
      cases h9 with
      | ok h h0 h1 j hj h2 => exact .ok h h0 h1 j hj h2)
    have HRT := hid (plain_right HP0.out)
    have h60 := HRT.out.2.2
    clear HPL
    by_cases haB : inB a 0 ((fns.length : Int) - 1) = true
    · obtain ⟨hA0, hA1⟩ : 0 ≤ a ∧ a ≤ (fns.length : Int) - 1 := by simpa [inB] using haB
      have hB := haB
      clear haB HNIL
      obtain ⟨q, rfl⟩ : ∃ q : Nat, a = q := ⟨a.toNat, by omega⟩
      have hq : q < fns.length := by omega
      have HMEM : Hid (fns.getD q fn0 ∈ fns) := hid (by rw [List.getD_eq_getElem?_getD, List.getElem?_eq_getElem hq]; exact List.getElem_mem hq)
      have HSH := hid (shapes_any (H1.out.next HX.out.lo) hq HRT.out.1)
      have HFQ := hid (show (fns.getD q fn0).S ≤ 600 ∧ (fns.getD q fn0).ins.length ≤ 100000 from by have h := HRT.out.1 _ HMEM.out; have h1 := h.slots; have h2 := h.some_; unfold Fn.S; omega)
      have HIS : Hid (∀ A, Least fns (fns.getD q fn0) A → ∀ l : List Sh, l = (List.range (fns.getD q fn0).ins.length).map A → ShsIs fns q l) := hid fun A hA l hl => .inr ⟨HP0.out, q, rfl, hq, A, hA, hl⟩
      obtain ⟨f, hf⟩ : ∃ f, fns.getD q fn0 = f := ⟨_, rfl⟩
      rw [hf] at HSH HFQ HIS
      clear hf hA0 hA1
      have hins := HFQ.out.2
      go_upto_region 6 with (first
        | (go_at_call 24; refine (l16In_at _ _ ((fns.length : Int) - 1) _ _ (by omega)).mono ?_; rintro e w' ⟨rfl, hw⟩; have hw2 := hw.symm; clear hw; subst hw2; rw [hB])
        | (go_at_call 18; refine HSH.out.mono ?_; rintro e w4 ⟨g, A, rfl, hg, hrow, hcl, hlow, hb4⟩; have HLS : Hid (Least fns f A) := hid ⟨hcl, hlow⟩; have HOK := hid hcl.ok; have HX4 := hid (HX.out.next hb4); have HRW := hid hrow; have HGG := hid (show w.heap.size + 1 < g from Nat.lt_of_lt_of_le (lt_hp HX.out.f) hg); clear hg hrow hcl hlow hb4))
      clear k0
      have HOW4 : Hid (SRow w.heap.size w4 (.slice (some ⟨w.heap.size + 1, 0, none⟩) 0 0) [] []) := hid ⟨rfl, ⟨rfl, .inr ⟨w.heap.size + 1, 0, #[], rfl, by omega, HX4.out.f, Nat.le_refl _, Nat.zero_le _, rfl, rfl⟩⟩, fun i hi => absurd hi (Nat.not_lt_zero _)⟩
      obtain ⟨N, hN⟩ : ∃ N, f.ins.length = N := ⟨_, rfl⟩
      rw [hN] at HRW hins HIS HOK ⊢
      clear hN HSH
      go_wp2
      go_loopw [5, 10] (fun v i wr => ∃ (j : Nat) (xs : List (Value × Value)), j ≤ N ∧ i = .int .i64 j ∧ SRow w.heap.size wr v ((List.range j).map A) xs ∧ v.ownBlock ≠ some g ∧ ShRow wr g N A ∧ Below w.heap.size w wr) (fun _ i _ => N - (intOf i).toNat)
      case atStart => exact ⟨0, [], Nat.zero_le _, rfl, HOW4.out, (by have := HGG.out; simp [Value.ownBlock]; omega), HRW.out, HX4.out.lo⟩
      case round =>
        obtain ⟨j, xs, hj, rfl, hsr, hne, hrow, hlo0⟩ := hrel
        have HSR := hid hsr
        have HNE := hid hne
        have HRO := hid hrow
        have HLO := hid hlo0
        have hml : ((List.range j).map A).length = j := by simp
        obtain ⟨av, cv0, hv⟩ := own_form3 hsr.own
        rw [hml] at hv
        subst hv
        clear hsr hne hrow hlo0 HRW HOW4 hml
        by_cases hlt : j < N
        · obtain ⟨a1, c1, a2, c2, u0, u1, u2, rw1, rw2, _, _, _⟩ := HRO.out.at hlt
          have hgl := HRO.out.lt
          have HRR := hid (And.intro rw1 rw2)
          have HKD := hid (okSh_10 (HOK.out j hlt) HFQ.out.1)
          have HNX : Hid ((List.range (j + 1)).map A = (List.range j).map A ++ [A j]) := hid (by rw [List.range_succ, List.map_append]; rfl)
          clear rw1 rw2
          obtain ⟨⟨st, sl, sk⟩, hs⟩ : ∃ s, A j = s := ⟨_, rfl⟩
          rw [hs] at u0 u1 u2 HRR HKD HNX
          dsimp only at u0 u1 u2 HRR HKD
          clear hs
          have hm9 : j ≤ 100000 := by omega
          have HCE := hid (And.intro u0 (And.intro u1 u2))
          have hji : (j : Int) < (N : Int) := by omega
          clear u0 u1 u2
          go_wp2_with fail
          obtain ⟨L, hL⟩ : ∃ L, (List.range j).map A = L := ⟨_, rfl⟩
          have HLL : Hid (j = L.length) := hid (by rw [← hL]; simp)
          rw [hL] at HSR HNX
          clear hL
          have HUP : Hid (∀ V, Below wr.drew.heap.size wr.drew V → Below wr.heap.size wr V) := hid fun V h => (Below.refl wr.heap.size wr).drew.trans h
          have HCEL : Hid (∀ V, Below wr.drew.heap.size wr.drew V → V.cell? ⟨g, j * 3, none⟩ = some (.int .i64 (st : Nat)) ∧ V.cell? ⟨g, j * 3 + 1, none⟩ = some (.slice a1 sl.length c1) ∧ V.cell? ⟨g, j * 3 + 2, none⟩ = some (.slice a2 sk.length c2)) := hid fun V h => ⟨((HUP.out V h).cell (p := ⟨g, _, none⟩) hgl).trans HCE.out.1, ((HUP.out V h).cell (p := ⟨g, _, none⟩) hgl).trans HCE.out.2.1, ((HUP.out V h).cell (p := ⟨g, _, none⟩) hgl).trans HCE.out.2.2⟩
          have HROW : Hid (∀ V, Below wr.drew.heap.size wr.drew V → IntRow V (.slice a1 sl.length c1) sl ∧ IntRow V (.slice a2 sk.length c2) sk) := hid fun V h => ⟨HRR.out.1.next (HUP.out V h), HRR.out.2.next (HUP.out V h)⟩
          have HLN : Hid (sl.length ≤ 100000 ∧ sk.length ≤ 100000) := hid (by have := HKD.out; omega)
          have HOWN : Hid (∀ V, Below wr.drew.heap.size wr.drew V → V.ownsRow w.heap.size 43 3 (.slice av j cv0) j ((L.zip xs).flatMap fun p => [Value.int .i64 (p.1.st : Nat), p.2.1, p.2.2])) := hid fun V h => by
            have h1 := (HSR.out.next (HUP.out V h)).own
            rw [← HLL.out] at h1
            exact h1
          have HBAS : Hid (∀ V, Below wr.drew.heap.size wr.drew V → w.heap.size ≤ V.heap.size) := hid fun V h => Nat.le_trans HLO.out.size (HUP.out V h).size
          have HPOST : Hid (∀ V, Below wr.drew.heap.size wr.drew V → ∀ p q2, IntRow V p sl → IntRow V q2 sk → ∀ v7 w7, w7.ownsRow w.heap.size 43 3 v7 (j + 1) (((L.zip xs).flatMap fun p => [Value.int .i64 (p.1.st : Nat), p.2.1, p.2.2]) ++ [.int .i64 (st : Nat), p, q2]) → V.grownBy w7 (Value.slice av j cv0).ownBlock → (v7.ownBlock = (Value.slice av j cv0).ownBlock ∨ v7.ownBlock = some V.heap.size) → PST ⟨aF, fns.length, cF, q, k, i, g, N, j, u37, u38, av, cv0, st, sl, sk, a1, c1, a2, c2, L, A, w, wr.drew⟩ v7 w7) := hid fun V h p q2 r1 r2 v7 w7 o7 g7 d7 => by
            have hU := HUP.out V h
            have h3 := HSR.out.next hU
            have h4 := HRO.out.next hU
            have hgl2 : g < V.heap.size := h4.lt
            refine ⟨_, h3.more (s := ⟨st, sl, sk⟩) HLL.out o7 g7 r1 r2, ?_, h4.keep (g7.block g hgl2 (fun e => HNE.out e.symm)) (fun k2 cur hk => g7.block k2 (lt_hp hk) (own_tyS h3.own hk)), grow3 (HLO.out.trans (hU.mono HLO.out.size)) h3.own (HBAS.out V h) g7⟩
            rcases d7 with d7 | d7
            · rw [d7]; exact HNE.out
            · rw [d7]
              intro e
              injection e with e
              have h5 := hgl
              have h6 := hU.size
              dsimp only at e
              omega
          refine wp_region_inv (by kernel_rfl) (SI ⟨aF, fns.length, cF, q, k, i, g, N, j, u37, u38, av, cv0, st, sl, sk, a1, c1, a2, c2, L, A, w, wr.drew⟩) ?_ ?_ (lt_of_check (by kernel_rfl)) ?_
          · refine ⟨⟨fun n => if n = 5 then .slice av j cv0 else (#[u39, u40, u41, u42, u43, u44, u45, u46, u47, u48, u49, u50, u51, u52, u53, u54, u55, u56, u57, u58, u59, u60, u61] : Array Value).getD (n - 39) undef, rfl, fun _ => rfl, fun k _ hk _ => ?_⟩, fun hk => ?_, fun _ => Below.refl _ _⟩
            · rw [repl_getD] at hk; cases hk
            · rw [repl_getD] at hk; cases hk
          · intro l a wv i o hl hcl hI ho h0 hall
            obtain ⟨⟨u, rfl, h5, hphi⟩, hall22, hlo⟩ := hI
            have hs24 : l.size = 24 := hl
            have hi : i < 24 := (Array.getElem?_eq_some_iff.1 ho).1
            simp only at h5 hlo
            refine wpOp_via fun K' hK => ?_
            have h7 : i = 0 ∨ i = 1 ∨ i = 2 ∨ i = 3 ∨ i = 4 ∨ i = 5 ∨ i = 6 ∨ i = 7 ∨ i = 8 ∨ i = 9 ∨ i = 10 ∨ i = 11 ∨ i = 12 ∨ i = 13 ∨ i = 14 ∨ i = 15 ∨ i = 16 ∨ i = 17 ∨ i = 18 ∨ i = 19 ∨ i = 20 ∨ i = 21 ∨ i = 22 ∨ i = 23 := by omega
            rcases h7 with rfl | rfl | rfl | rfl | rfl | rfl | rfl | rfl | rfl | rfl | rfl | rfl | rfl | rfl | rfl | rfl | rfl | rfl | rfl | rfl | rfl | rfl | rfl | rfl
            · have ee : some _ = some o := ho
              injection ee with ee
              subst ee
              have h22 : l.getD 22 false = false := by
                cases hx : l.getD 22 false with
                | false => rfl
                | true => have h := hall22 hx 0 (by omega); rw [unl h0] at h; cases h
              have h23 : l.getD 23 false = false := by
                cases hx : l.getD 23 false with
                | false => rfl
                | true => have h := hcl 23 _ rfl hx { on := 22, ground := .data } (by simp) rfl; rw [h22] at h; cases h
              have e5 : u 5 = .slice av j cv0 := h5 h23
              simp only [TA, e5]
              refine wpOp_run rfl rfl ?_
              go_simp
              refine hK _ _ ?_
              exact SI.put (.slice av j cv0) (by omega) (by omega) (by omega) h5 hphi hall22 hlo (by simp [TA, updS, dstS, e5]) (Below.refl _ _) rfl
            · have ee : some _ = some o := ho
              injection ee with ee
              subst ee
              have h22 : l.getD 22 false = false := by
                cases hx : l.getD 22 false with
                | false => rfl
                | true => have h := hall22 hx 1 (by omega); rw [unl h0] at h; cases h
              simp only [TA]
              refine wpOp_run rfl rfl ?_
              go_simp
              refine hK _ _ ?_
              exact SI.put (.slice (some ⟨g, 0, none⟩) N N) (by omega) (by omega) (by omega) h5 hphi hall22 hlo (by simp [TA, updS, dstS]) (Below.refl _ _) rfl
            · have ee : some _ = some o := ho
              injection ee with ee
              subst ee
              have h22 : l.getD 22 false = false := by
                cases hx : l.getD 22 false with
                | false => rfl
                | true => have h := hall22 hx 2 (by omega); rw [unl h0] at h; cases h
              simp only [TA]
              refine wpOp_run rfl rfl ?_
              go_simp
              refine hK _ _ ?_
              exact SI.put (.int .i64 (j : Nat)) (by omega) (by omega) (by omega) h5 hphi hall22 hlo (by simp [TA, updS, dstS]) (Below.refl _ _) rfl
            · have ee : some _ = some o := ho
              injection ee with ee
              subst ee
              have h22 : l.getD 22 false = false := by
                cases hx : l.getD 22 false with
                | false => rfl
                | true => have h := hall22 hx 3 (by omega); rw [unl h0] at h; cases h
              have p1 : l.getD 1 false = true := hall { on := 1, ground := .data } (by simp) rfl
              have e40 : u 40 = .slice (some ⟨g, 0, none⟩) N N := hphi 1 (by omega) p1 (.inl h22)
              have p2 : l.getD 2 false = true := hall { on := 2, ground := .data } (by simp) rfl
              have e41 : u 41 = .int .i64 (j : Nat) := hphi 2 (by omega) p2 (.inl h22)
              simp only [TA, e40, e41]
              refine wpOp_run rfl rfl ?_
              go_simp
              refine hK _ _ ?_
              exact SI.put (.pointer (some ⟨g, j * 3, none⟩)) (by omega) (by omega) (by omega) h5 hphi hall22 hlo (by simp [TA, updS, dstS, e40, e41]) (Below.refl _ _) rfl
            · have ee : some _ = some o := ho
              injection ee with ee
              subst ee
              have h22 : l.getD 22 false = false := by
                cases hx : l.getD 22 false with
                | false => rfl
                | true => have h := hall22 hx 4 (by omega); rw [unl h0] at h; cases h
              have p3 : l.getD 3 false = true := hall { on := 3, ground := .data } (by simp) rfl
              have e42 : u 42 = .pointer (some ⟨g, j * 3, none⟩) := hphi 3 (by omega) p3 (.inl h22)
              simp only [TA, e42]
              refine wpOp_run rfl rfl ?_
              go_simp
              refine hK _ _ ?_
              exact SI.put (.pointer (some ⟨g, j * 3, none⟩)) (by omega) (by omega) (by omega) h5 hphi hall22 hlo (by simp [TA, updS, dstS, e42]) (Below.refl _ _) rfl
            · have ee : some _ = some o := ho
              injection ee with ee
              subst ee
              have h22 : l.getD 22 false = false := by
                cases hx : l.getD 22 false with
                | false => rfl
                | true => have h := hall22 hx 5 (by omega); rw [unl h0] at h; cases h
              have p4 : l.getD 4 false = true := hall { on := 4, ground := .data } (by simp) rfl
              have e43 : u 43 = .pointer (some ⟨g, j * 3, none⟩) := hphi 4 (by omega) p4 (.inl h22)
              have cy := (HCEL.out wv (hlo h22)).1
              simp only [TA, e43]
              refine wpOp_run rfl rfl ?_
              go_simp
              refine hK _ _ ?_
              exact SI.put (.int .i64 (st : Nat)) (by omega) (by omega) (by omega) h5 hphi hall22 hlo (by simp [TA, updS, dstS, e43]) (Below.refl _ _) rfl
            · have ee : some _ = some o := ho
              injection ee with ee
              subst ee
              have h22 : l.getD 22 false = false := by
                cases hx : l.getD 22 false with
                | false => rfl
                | true => have h := hall22 hx 6 (by omega); rw [unl h0] at h; cases h
              simp only [TA]
              refine wpOp_run rfl rfl ?_
              go_simp
              refine hK _ _ ?_
              exact SI.put (.slice (some ⟨wv.heap.size, 0, none⟩) 0 0) (by omega) (by omega) (by omega) h5 hphi hall22 hlo (by simp [TA, updS, dstS]) ((Below.refl wv.heap.size wv).alloc (Nat.le_refl _) _) ⟨_, rfl⟩
            · have ee : some _ = some o := ho
              injection ee with ee
              subst ee
              have h22 : l.getD 22 false = false := by
                cases hx : l.getD 22 false with
                | false => rfl
                | true => have h := hall22 hx 7 (by omega); rw [unl h0] at h; cases h
              simp only [TA]
              refine wpOp_run rfl rfl ?_
              go_simp
              refine hK _ _ ?_
              exact SI.put (.slice (some ⟨g, 0, none⟩) N N) (by omega) (by omega) (by omega) h5 hphi hall22 hlo (by simp [TA, updS, dstS]) (Below.refl _ _) rfl
            · have ee : some _ = some o := ho
              injection ee with ee
              subst ee
              have h22 : l.getD 22 false = false := by
                cases hx : l.getD 22 false with
                | false => rfl
                | true => have h := hall22 hx 8 (by omega); rw [unl h0] at h; cases h
              simp only [TA]
              refine wpOp_run rfl rfl ?_
              go_simp
              refine hK _ _ ?_
              exact SI.put (.int .i64 (j : Nat)) (by omega) (by omega) (by omega) h5 hphi hall22 hlo (by simp [TA, updS, dstS]) (Below.refl _ _) rfl
            · have ee : some _ = some o := ho
              injection ee with ee
              subst ee
              have h22 : l.getD 22 false = false := by
                cases hx : l.getD 22 false with
                | false => rfl
                | true => have h := hall22 hx 9 (by omega); rw [unl h0] at h; cases h
              have p7 : l.getD 7 false = true := hall { on := 7, ground := .data } (by simp) rfl
              have e46 : u 46 = .slice (some ⟨g, 0, none⟩) N N := hphi 7 (by omega) p7 (.inl h22)
              have p8 : l.getD 8 false = true := hall { on := 8, ground := .data } (by simp) rfl
              have e47 : u 47 = .int .i64 (j : Nat) := hphi 8 (by omega) p8 (.inl h22)
              simp only [TA, e46, e47]
              refine wpOp_run rfl rfl ?_
              go_simp
              refine hK _ _ ?_
              exact SI.put (.pointer (some ⟨g, j * 3, none⟩)) (by omega) (by omega) (by omega) h5 hphi hall22 hlo (by simp [TA, updS, dstS, e46, e47]) (Below.refl _ _) rfl
            · have ee : some _ = some o := ho
              injection ee with ee
              subst ee
              have h22 : l.getD 22 false = false := by
                cases hx : l.getD 22 false with
                | false => rfl
                | true => have h := hall22 hx 10 (by omega); rw [unl h0] at h; cases h
              have p9 : l.getD 9 false = true := hall { on := 9, ground := .data } (by simp) rfl
              have e48 : u 48 = .pointer (some ⟨g, j * 3, none⟩) := hphi 9 (by omega) p9 (.inl h22)
              simp only [TA, e48]
              refine wpOp_run rfl rfl ?_
              go_simp
              refine hK _ _ ?_
              exact SI.put (.pointer (some ⟨g, j * 3 + 1, none⟩)) (by omega) (by omega) (by omega) h5 hphi hall22 hlo (by simp [TA, updS, dstS, e48]) (Below.refl _ _) rfl
            · have ee : some _ = some o := ho
              injection ee with ee
              subst ee
              have h22 : l.getD 22 false = false := by
                cases hx : l.getD 22 false with
                | false => rfl
                | true => have h := hall22 hx 11 (by omega); rw [unl h0] at h; cases h
              have p10 : l.getD 10 false = true := hall { on := 10, ground := .data } (by simp) rfl
              have e49 : u 49 = .pointer (some ⟨g, j * 3 + 1, none⟩) := hphi 10 (by omega) p10 (.inl h22)
              have cy := (HCEL.out wv (hlo h22)).2.1
              simp only [TA, e49]
              refine wpOp_run rfl rfl ?_
              go_simp
              refine hK _ _ ?_
              exact SI.put (.slice a1 sl.length c1) (by omega) (by omega) (by omega) h5 hphi hall22 hlo (by simp [TA, updS, dstS, e49]) (Below.refl _ _) rfl
            · have ee : some _ = some o := ho
              injection ee with ee
              subst ee
              have h22 : l.getD 22 false = false := by
                cases hx : l.getD 22 false with
                | false => rfl
                | true => have h := hall22 hx 12 (by omega); rw [unl h0] at h; cases h
              have p6 : l.getD 6 false = true := hall { on := 6, ground := .data } (by simp) rfl
              obtain ⟨b45, e45⟩ : ∃ b, u 45 = .slice (some ⟨b, 0, none⟩) 0 0 := hphi 6 (by omega) p6 (.inl h22)
              have p11 : l.getD 11 false = true := hall { on := 11, ground := .data } (by simp) rfl
              have e50 : u 50 = .slice a1 sl.length c1 := hphi 11 (by omega) p11 (.inl h22)
              simp only [TA, e45, e50]
              refine wpOp_lit rfl rfl (.tmp 45) (.tmp 50) rfl b45 (by simp [Act.eval]) (.slice a1 sl.length c1) sl (by simp [Act.eval]) (HROW.out wv (hlo h22)).1 HLN.out.1 ?_
              intro v7 w7 r7 lo7
              refine hK _ _ ?_
              exact SI.put (v7) (by omega) (by omega) (by omega) h5 hphi hall22 hlo (by simp [TA, updS, dstS, Act.put, e45, e50]) lo7 r7
            · have ee : some _ = some o := ho
              injection ee with ee
              subst ee
              have h22 : l.getD 22 false = false := by
                cases hx : l.getD 22 false with
                | false => rfl
                | true => have h := hall22 hx 13 (by omega); rw [unl h0] at h; cases h
              simp only [TA]
              refine wpOp_run rfl rfl ?_
              go_simp
              refine hK _ _ ?_
              exact SI.put (.slice (some ⟨wv.heap.size, 0, none⟩) 0 0) (by omega) (by omega) (by omega) h5 hphi hall22 hlo (by simp [TA, updS, dstS]) ((Below.refl wv.heap.size wv).alloc (Nat.le_refl _) _) ⟨_, rfl⟩
            · have ee : some _ = some o := ho
              injection ee with ee
              subst ee
              have h22 : l.getD 22 false = false := by
                cases hx : l.getD 22 false with
                | false => rfl
                | true => have h := hall22 hx 14 (by omega); rw [unl h0] at h; cases h
              simp only [TA]
              refine wpOp_run rfl rfl ?_
              go_simp
              refine hK _ _ ?_
              exact SI.put (.slice (some ⟨g, 0, none⟩) N N) (by omega) (by omega) (by omega) h5 hphi hall22 hlo (by simp [TA, updS, dstS]) (Below.refl _ _) rfl
            · have ee : some _ = some o := ho
              injection ee with ee
              subst ee
              have h22 : l.getD 22 false = false := by
                cases hx : l.getD 22 false with
                | false => rfl
                | true => have h := hall22 hx 15 (by omega); rw [unl h0] at h; cases h
              simp only [TA]
              refine wpOp_run rfl rfl ?_
              go_simp
              refine hK _ _ ?_
              exact SI.put (.int .i64 (j : Nat)) (by omega) (by omega) (by omega) h5 hphi hall22 hlo (by simp [TA, updS, dstS]) (Below.refl _ _) rfl
            · have ee : some _ = some o := ho
              injection ee with ee
              subst ee
              have h22 : l.getD 22 false = false := by
                cases hx : l.getD 22 false with
                | false => rfl
                | true => have h := hall22 hx 16 (by omega); rw [unl h0] at h; cases h
              have p14 : l.getD 14 false = true := hall { on := 14, ground := .data } (by simp) rfl
              have e53 : u 53 = .slice (some ⟨g, 0, none⟩) N N := hphi 14 (by omega) p14 (.inl h22)
              have p15 : l.getD 15 false = true := hall { on := 15, ground := .data } (by simp) rfl
              have e54 : u 54 = .int .i64 (j : Nat) := hphi 15 (by omega) p15 (.inl h22)
              simp only [TA, e53, e54]
              refine wpOp_run rfl rfl ?_
              go_simp
              refine hK _ _ ?_
              exact SI.put (.pointer (some ⟨g, j * 3, none⟩)) (by omega) (by omega) (by omega) h5 hphi hall22 hlo (by simp [TA, updS, dstS, e53, e54]) (Below.refl _ _) rfl
            · have ee : some _ = some o := ho
              injection ee with ee
              subst ee
              have h22 : l.getD 22 false = false := by
                cases hx : l.getD 22 false with
                | false => rfl
                | true => have h := hall22 hx 17 (by omega); rw [unl h0] at h; cases h
              have p16 : l.getD 16 false = true := hall { on := 16, ground := .data } (by simp) rfl
              have e55 : u 55 = .pointer (some ⟨g, j * 3, none⟩) := hphi 16 (by omega) p16 (.inl h22)
              simp only [TA, e55]
              refine wpOp_run rfl rfl ?_
              go_simp
              refine hK _ _ ?_
              exact SI.put (.pointer (some ⟨g, j * 3 + 2, none⟩)) (by omega) (by omega) (by omega) h5 hphi hall22 hlo (by simp [TA, updS, dstS, e55]) (Below.refl _ _) rfl
            · have ee : some _ = some o := ho
              injection ee with ee
              subst ee
              have h22 : l.getD 22 false = false := by
                cases hx : l.getD 22 false with
                | false => rfl
                | true => have h := hall22 hx 18 (by omega); rw [unl h0] at h; cases h
              have p17 : l.getD 17 false = true := hall { on := 17, ground := .data } (by simp) rfl
              have e56 : u 56 = .pointer (some ⟨g, j * 3 + 2, none⟩) := hphi 17 (by omega) p17 (.inl h22)
              have cy := (HCEL.out wv (hlo h22)).2.2
              simp only [TA, e56]
              refine wpOp_run rfl rfl ?_
              go_simp
              refine hK _ _ ?_
              exact SI.put (.slice a2 sk.length c2) (by omega) (by omega) (by omega) h5 hphi hall22 hlo (by simp [TA, updS, dstS, e56]) (Below.refl _ _) rfl
            · have ee : some _ = some o := ho
              injection ee with ee
              subst ee
              have h22 : l.getD 22 false = false := by
                cases hx : l.getD 22 false with
                | false => rfl
                | true => have h := hall22 hx 19 (by omega); rw [unl h0] at h; cases h
              have p13 : l.getD 13 false = true := hall { on := 13, ground := .data } (by simp) rfl
              obtain ⟨b52, e52⟩ : ∃ b, u 52 = .slice (some ⟨b, 0, none⟩) 0 0 := hphi 13 (by omega) p13 (.inl h22)
              have p18 : l.getD 18 false = true := hall { on := 18, ground := .data } (by simp) rfl
              have e57 : u 57 = .slice a2 sk.length c2 := hphi 18 (by omega) p18 (.inl h22)
              simp only [TA, e52, e57]
              refine wpOp_lit rfl rfl (.tmp 52) (.tmp 57) rfl b52 (by simp [Act.eval]) (.slice a2 sk.length c2) sk (by simp [Act.eval]) (HROW.out wv (hlo h22)).2 HLN.out.2 ?_
              intro v7 w7 r7 lo7
              refine hK _ _ ?_
              exact SI.put (v7) (by omega) (by omega) (by omega) h5 hphi hall22 hlo (by simp [TA, updS, dstS, Act.put, e52, e57]) lo7 r7
            · have ee : some _ = some o := ho
              injection ee with ee
              subst ee
              have h22 : l.getD 22 false = false := by
                cases hx : l.getD 22 false with
                | false => rfl
                | true => have h := hall22 hx 20 (by omega); rw [unl h0] at h; cases h
              have p5 : l.getD 5 false = true := hall { on := 5, ground := .data } (by simp) rfl
              have e44 : u 44 = .int .i64 (st : Nat) := hphi 5 (by omega) p5 (.inl h22)
              have p12 : l.getD 12 false = true := hall { on := 12, ground := .data } (by simp) rfl
              have r51 : IntRow wv (u 51) sl := hphi 12 (by omega) p12 (.inl h22)
              have p19 : l.getD 19 false = true := hall { on := 19, ground := .data } (by simp) rfl
              have r58 : IntRow wv (u 58) sk := hphi 19 (by omega) p19 (.inl h22)
              obtain ⟨x1, y1, z1⟩ := r51.sl
              obtain ⟨x2, y2, z2⟩ := r58.sl
              simp only [TA, e44, z1, z2]
              refine wpOp_run rfl rfl ?_
              go_simp
              refine hK _ _ ?_
              exact SI.put (.agg #[.int .i64 (st : Nat), .slice x1 sl.length y1, .slice x2 sk.length y2]) (by omega) (by omega) (by omega) h5 hphi hall22 hlo (by simp [TA, updS, dstS, e44, z1, z2]) (Below.refl _ _) ⟨_, _, rfl, z1 ▸ r51, z2 ▸ r58⟩
            · have ee : some _ = some o := ho
              injection ee with ee
              subst ee
              have h22 : l.getD 22 false = false := by
                cases hx : l.getD 22 false with
                | false => rfl
                | true => have h := hall22 hx 21 (by omega); rw [unl h0] at h; cases h
              have p20 : l.getD 20 false = true := hall { on := 20, ground := .data } (by simp) rfl
              obtain ⟨p59, q59, e59, r59, s59⟩ : ∃ p q, u 59 = .agg #[.int .i64 (st : Nat), p, q] ∧ IntRow wv p sl ∧ IntRow wv q sk := hphi 20 (by omega) p20 (.inl h22)
              obtain ⟨x1, y1, z1⟩ := r59.sl
              obtain ⟨x2, y2, z2⟩ := s59.sl
              subst z1 z2
              simp only [TA, e59]
              refine wpOp_run rfl rfl ?_
              go_simp
              refine hK _ _ ?_
              exact SI.put (.slice (some ⟨wv.heap.size, 0, none⟩) 1 1) (by omega) (by omega) (by omega) h5 hphi hall22 hlo (by simp [TA, updS, dstS, e59]) ((Below.refl wv.heap.size wv).alloc (Nat.le_refl _) _) ⟨_, _, _, rfl, heap_alloc_new wv _, r59.next ((Below.refl wv.heap.size wv).alloc (Nat.le_refl _) _), s59.next ((Below.refl wv.heap.size wv).alloc (Nat.le_refl _) _)⟩
            · have ee : some _ = some o := ho
              injection ee with ee
              subst ee
              have h22 : l.getD 22 false = false := unl h0
              have p0 : l.getD 0 false = true := hall { on := 0, ground := .data } (by simp) rfl
              have e39 : u 39 = .slice av j cv0 := hphi 0 (by omega) p0 (.inl h22)
              have p21 : l.getD 21 false = true := hall { on := 21, ground := .data } (by simp) rfl
              obtain ⟨b60, p60, q60, e60, h60, r60, s60⟩ : ∃ b p q, u 60 = .slice (some ⟨b, 0, none⟩) 1 1 ∧ wv.heap[b]? = some (.cells #[.int .i64 (st : Nat), p, q] 43 (0, 0)) ∧ IntRow wv p sl ∧ IntRow wv q sk := hphi 21 (by omega) p21 (.inl h22)
              have r20 : l.getD 20 false = true := hcl 21 _ rfl p21 { on := 20, ground := .data } (by simp) rfl
              have r5 : l.getD 5 false = true := hcl 20 _ rfl r20 { on := 5, ground := .data } (by simp) rfl
              have r12 : l.getD 12 false = true := hcl 20 _ rfl r20 { on := 12, ground := .data } (by simp) rfl
              have r19 : l.getD 19 false = true := hcl 20 _ rfl r20 { on := 19, ground := .data } (by simp) rfl
              have r4 : l.getD 4 false = true := hcl 5 _ rfl r5 { on := 4, ground := .data } (by simp) rfl
              have r3 : l.getD 3 false = true := hcl 4 _ rfl r4 { on := 3, ground := .data } (by simp) rfl
              have r1 : l.getD 1 false = true := hcl 3 _ rfl r3 { on := 1, ground := .data } (by simp) rfl
              have r2 : l.getD 2 false = true := hcl 3 _ rfl r3 { on := 2, ground := .data } (by simp) rfl
              have r6 : l.getD 6 false = true := hcl 12 _ rfl r12 { on := 6, ground := .data } (by simp) rfl
              have r11 : l.getD 11 false = true := hcl 12 _ rfl r12 { on := 11, ground := .data } (by simp) rfl
              have r10 : l.getD 10 false = true := hcl 11 _ rfl r11 { on := 10, ground := .data } (by simp) rfl
              have r9 : l.getD 9 false = true := hcl 10 _ rfl r10 { on := 9, ground := .data } (by simp) rfl
              have r7 : l.getD 7 false = true := hcl 9 _ rfl r9 { on := 7, ground := .data } (by simp) rfl
              have r8 : l.getD 8 false = true := hcl 9 _ rfl r9 { on := 8, ground := .data } (by simp) rfl
              have r13 : l.getD 13 false = true := hcl 19 _ rfl r19 { on := 13, ground := .data } (by simp) rfl
              have r18 : l.getD 18 false = true := hcl 19 _ rfl r19 { on := 18, ground := .data } (by simp) rfl
              have r17 : l.getD 17 false = true := hcl 18 _ rfl r18 { on := 17, ground := .data } (by simp) rfl
              have r16 : l.getD 16 false = true := hcl 17 _ rfl r17 { on := 16, ground := .data } (by simp) rfl
              have r14 : l.getD 14 false = true := hcl 16 _ rfl r16 { on := 14, ground := .data } (by simp) rfl
              have r15 : l.getD 15 false = true := hcl 16 _ rfl r16 { on := 15, ground := .data } (by simp) rfl
              have hall2 : ∀ k, k < 22 → l.getD k false = true := by
                intro k hk
                have h7 : k = 0 ∨ k = 1 ∨ k = 2 ∨ k = 3 ∨ k = 4 ∨ k = 5 ∨ k = 6 ∨ k = 7 ∨ k = 8 ∨ k = 9 ∨ k = 10 ∨ k = 11 ∨ k = 12 ∨ k = 13 ∨ k = 14 ∨ k = 15 ∨ k = 16 ∨ k = 17 ∨ k = 18 ∨ k = 19 ∨ k = 20 ∨ k = 21 := by omega
                rcases h7 with rfl | rfl | rfl | rfl | rfl | rfl | rfl | rfl | rfl | rfl | rfl | rfl | rfl | rfl | rfl | rfl | rfl | rfl | rfl | rfl | rfl | rfl
                · exact p0
                · exact r1
                · exact r2
                · exact r3
                · exact r4
                · exact r5
                · exact r6
                · exact r7
                · exact r8
                · exact r9
                · exact r10
                · exact r11
                · exact r12
                · exact r13
                · exact r14
                · exact r15
                · exact r16
                · exact r17
                · exact r18
                · exact r19
                · exact r20
                · exact p21
              simp only [TA, e39, e60]
              refine wpOp_appS rfl rfl (.tmp 39) (.tmp 60) rfl w.heap.size (.slice av j cv0) j _ (by simp [Act.eval]) (HOWN.out wv (hlo h22)) b60 (st : Nat) p60 q60 (by simp [Act.eval]) h60 (intRow_one r60) (intRow_one s60) hm9 (HBAS.out wv (hlo h22)) ?_
              intro v7 w7 o7 g7 d7
              have hp7 := HPOST.out wv (hlo h22) p60 q60 r60 s60 v7 w7 o7 g7 d7
              have e22 : (l.setIfInBounds 22 true).getD 22 false = true := lst (by omega)
              refine hK _ _ ⟨⟨updS u 61 v7, by simp [TA, updS, Act.put, e39, e60], fun h => ?_, fun k hk hl2 hc => ?_⟩, fun _ k hk => getD_set_true (hall2 k hk), fun h => ?_⟩
              · have h28 := h5 (getD_unset h)
                have : updS u 61 v7 5 = u 5 := rfl
                rw [this]
                exact h28
              · have hk2 : k = 22 ∨ k = 23 := by
                  rcases hc with hc | hc
                  · rw [e22] at hc; cases hc
                  · omega
                rcases hk2 with rfl | rfl
                · exact hp7
                · rw [getD_set_ne false (by omega)] at hl2
                  have h := hcl 23 _ rfl hl2 { on := 22, ground := .data } (by simp) rfl
                  rw [h22] at h
                  cases h
              · rw [e22] at h; cases h
            · have ee : some _ = some o := ho
              injection ee with ee
              subst ee
              have p22 : l.getD 22 false = true := hall { on := 22, ground := .data } (by simp) rfl
              have f22 : PST _ (u 61) wv := hphi 22 (by omega) p22 (.inr (by omega))
              simp only [TA]
              refine wpOp_run rfl rfl ?_
              go_simp
              refine hK _ _ ?_
              exact SI.put (u 61) (by omega) (by omega) (by omega) h5 hphi hall22 hlo (by simp [TA, updS, dstS]) (Below.refl _ _) f22
          · intro l a wv hI hallk
            obtain ⟨⟨u, rfl, _, hphi⟩, _, _⟩ := hI
            have h23 : PST _ (u 5) wv := hphi 23 (by omega) (hallk 23 (by decide)) (.inr (by omega))
            obtain ⟨xs2, hs2, hne2, hro2, hlo2⟩ := h23
            dsimp only at hs2 hne2 hro2 hlo2
            have H2 := hid (And.intro hs2 (And.intro hne2 (And.intro hro2 hlo2)))
            simp only [TA]
            clear hs2 hne2 hro2 hlo2 hphi hallk HPOST HOWN HROW HCEL HUP HBAS
            go_wp2
            go_roundw
            case rel => exact ⟨j + 1, xs2, by omega, by go_num, by rw [HNX.out]; exact H2.out.1, H2.out.2.1, H2.out.2.2.1, H2.out.2.2.2⟩
            case measure => simp [intOf]; omega
        · obtain rfl : j = N := by omega
          have HE9 : Hid (SpsEnd fns q w (.returned (.slice av j cv0)) wr) := hid ⟨_, _, rfl, HIS.out A HLS.out _ rfl, HSR.out.rd, HLO.out⟩
          go_wp2
          go_ret
          exact HE9.out
    · have hB : inB a 0 ((fns.length : Int) - 1) = false := by simpa using haB
      have HE9 := hid (HNIL.out w2 (Below.refl _ _) (fun h => haB (by simp [inB]; omega)))
      clear haB
      go_wp2_with (go_at_call 24; refine (l16In_at _ _ ((fns.length : Int) - 1) _ _ (by omega)).mono ?_; rintro e w' ⟨rfl, hw⟩; have hw2 := hw.symm; clear hw; subst hw2; rw [hB])
      go_ret
      exact HE9.out
  · have HE9 := hid (HNIL.out w2 (Below.refl _ _) (fun h => hc0 (HPL.out.uniq h.1).1))
    have hc1 : ((c : Int) != 0) = true := by simp; omega
    go_wp2_with fail
    go_ret
    exact HE9.out
end Go.Proofs.YtfedmbadhcdpdaaGreatDoor.C
