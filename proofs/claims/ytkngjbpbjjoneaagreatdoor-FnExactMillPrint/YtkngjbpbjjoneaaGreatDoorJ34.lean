import Derived.Deep.RegionHeld3
import Derived.Test.YtkngjbpbjjoneaaGreatDoorJ14
import Derived.Test.YtkngjbpbjjoneaaGreatDoorJ13
import Derived.Test.YtkngjbpbjjoneaaGreatDoorJ31
import Derived.Test.YtkngjbpbjjoneaaGreatDoorJ33
/-! millPartOfTree. Printed by gen_wtree.py. -/
namespace Go.Proofs.YtkngjbpbjjoneaaGreatDoor.Q
open Go.RowKit Go.Shelf
set_option maxRecDepth 20000
def pf (pvs : List Value) : Nat → Value := fun k => pvs.getD k .nilIface
theorem pf_old (pvs : List Value) (v : Value) (k : Nat) (h : k < pvs.length) : pf (pvs ++ [v]) k = pf pvs k := by
  unfold pf; rw [List.getD_eq_getElem?_getD, List.getD_eq_getElem?_getD, List.getElem?_append_left h]
theorem pf_new (pvs : List Value) (v : Value) : pf (pvs ++ [v]) pvs.length = v := by
  unfold pf; rw [List.getD_eq_getElem?_getD, List.getElem?_append_right (Nat.le_refl _)]; simp
/-- No row of v's. -/
def Apart (v : Value) : Nat → Prop := fun g => v.ownBlock ≠ some g
/-- What the loop holds behind j nodes. -/
def TInv (nd : Nat → Nd) (O : List (List Nat)) (B : Nat) (W0 W : World) (j : Nat) (vo : Value) : Prop := ∃ s pvs, kidsF nd j = some (O.take j, s) ∧ pvs.length = j ∧ W.ownsRow B 55 1 vo s.length (s.map (pf pvs)) ∧
  (∀ i, i < j → PartAt (Apart vo) W (nd i) (O.getD i []) (pf pvs) (pf pvs i)) ∧ Below B W0 W
theorem TInv_step {nd : Nat → Nd} {O : List (List Nat)} {N B : Nat} {W0 W W1 W2 : World} {j p : Nat} {sp sk : List Nat} {pvs : List Value} {vo vp v2 vj : Value} {X : Obj} (hg : Good nd O N) (hj : j < N) (hkf : kidsF nd j = some (O.take j, sp ++ sk)) (hk : (nd j).kids = sk.length) (hO : O.getD j [] = sk) (hpl : pvs.length = j) (hp : sp.length = p)
    (hparts : ∀ i, i < j → PartAt (Apart vo) W (nd i) (O.getD i []) (pf pvs) (pf pvs i)) (hb1 : Below W.heap.size W W1) (hpj : PartAt (Apart vo) W1 (nd j) sk (pf pvs) vj)
    (hvp : vp.ownBlock = vo.ownBlock) (hgr : (W1.alloc X).grownBy W2 vp.ownBlock) (hown : W2.ownsRow B 55 1 v2 (p + 1) (sp.map (pf pvs) ++ [vj])) (hob : v2.ownBlock = vp.ownBlock ∨ v2.ownBlock = some (W1.alloc X).heap.size) (hb : Below B W0 W2) : TInv nd O B W0 W2 (j + 1) v2 := by
  have hl := kidsF_len nd _ _ _ hkf
  have hkeep : ∀ ad xs, RowP (Apart vo) W1 ad xs → RowP (Apart v2) W2 ad xs := fun ad xs h => h.keep fun g cs fr hS hg => by
    have hlt := lt_blk hg
    refine ⟨?_, ?_⟩
    · unfold Apart at hS ⊢
      rcases hob with e | e
      · rw [e, hvp]; exact hS
      · rw [e, World.size_alloc]; intro e2; injection e2 with e2; omega
    · rw [hgr.block g (by simp; omega) (fun e => by rw [hvp] at e; exact hS e.symm)]
      exact Below.heap_alloc W1 X g hlt
  have hset : kidsF nd (j + 1) = some (O.take (j + 1), sp ++ [j]) := by
    rw [kidsF_good hkf hk rfl]
    have hOl : j < O.length := by obtain ⟨s, hs⟩ := hg.kids; have := (kidsF_len nd _ _ _ hs).1; omega
    rw [List.take_succ_eq_append_getElem hOl]
    have : O[j] = sk := by rw [← hO, List.getD_eq_getElem?_getD, List.getElem?_eq_getElem hOl]; rfl
    rw [this]
  refine ⟨sp ++ [j], pvs ++ [vj], hset, by simp [hpl], ?_, fun i hi => ?_, hb⟩
  · have e1 : (sp ++ [j]).map (pf (pvs ++ [vj])) = sp.map (pf pvs) ++ [vj] := by
      rw [List.map_append]
      congr 1
      · exact List.map_congr_left fun k hk => pf_old _ _ _ (by have := hl.2.2 k (by simp [hk]); omega)
      · subst hpl; simp [pf_new]
    rw [e1, List.length_append, hp]
    exact hown
  · by_cases hij : i = j
    · subst hij
      have := (hpj.keep hkeep).congr (pu := pf (pvs ++ [vj])) (fun k hk => pf_old _ _ _ (by have := hl.2.2 k (by simp [hk]); omega)) (by have := (hg.fit i hj).2; rw [hO] at this; exact this)
      rw [hO]
      have e : pf (pvs ++ [vj]) i = vj := by subst hpl; exact pf_new _ _
      rw [e]; exact this
    · have hlt : i < j := by omega
      have h1 := (hparts i hlt).keep (S' := Apart vo) (W' := W1) (fun ad xs h => h.below hb1)
      have h2 := (h1.keep hkeep).congr (pu := pf (pvs ++ [vj])) (fun k hk => pf_old _ _ _ (by have := hg.down i k hk; omega)) (hg.fit i (by omega)).2
      rw [pf_old _ _ _ (by omega)]
      exact h2
theorem RowP_of_own {B : Nat} {S : Nat → Prop} {W : World} {v : Value} {n : Nat} {xs : List Value} (h : W.ownsRow B 55 1 v n xs) (hS : ∀ g, B ≤ g → g < W.heap.size → S g) : ∃ ad cap, v = .slice ad n cap ∧ n ≤ cap ∧ RowP S W ad xs := by
  obtain ⟨h1, ⟨rfl, h0⟩ | ⟨g, cap, cur, rfl, hBg, h4, h5, h6, h7, h8⟩⟩ := h
  · subst h0
    exact ⟨none, 0, rfl, Nat.le_refl _, .inl (List.eq_nil_of_length_eq_zero (by omega))⟩
  · refine ⟨_, cap, rfl, h5, .inr ⟨g, rfl, hS g hBg (lt_blk h4), ⟨_, _, h4⟩, fun i u hi => ?_⟩⟩
    have hil := (List.getElem?_eq_some_iff.1 hi).1
    have e1 : W.cell? ⟨g, i, none⟩ = cur[i]? := by unfold World.cell?; rw [h4]; rfl
    rw [e1, ← hi, ← h8, List.getElem?_take_of_lt (by omega)]; simp
theorem map_tail (f : Nat → Value) (sp sk : List Nat) (p : Nat) (hp : sp.length = p) (i : Nat) (u : Value) (h : (sk.map f)[i]? = some u) : ((sp ++ sk).map f)[p + i]? = some u := by
  rw [List.map_append, List.getElem?_append_right (by rw [List.length_map]; omega), List.length_map, hp, Nat.add_sub_cancel_left]; exact h
set_option maxHeartbeats 4000000 in
theorem partTree_any (b N cap x : Nat) (nd : Nat → Nd) (O : List (List Nat)) (w : World) (hg : Good nd O N) (hkN : kidsF nd N = some (O, [x])) (hb : b < w.heap.size) (hn : NodesAt w b N nd) :
    Calls Tryz.prog 16 #[.agg #[.slice (some ⟨b, 0, none⟩) N cap]] w fun e w' => (∃ pv : Nat → Value, e = .returned (pv x) ∧ ∀ i, i < N → PartAt (fun _ => True) w' (nd i) (O.getD i []) pv (pv i)) ∧ Below w.heap.size w w' := by
  have HG := hid hg
  have HKN := hid hkN
  have HN := hid hn
  have hN := hg.hN
  obtain ⟨i0, hi, hz0, hz1, hz2⟩ := info_parts info_part
  have HHI := hid (And.intro hi (And.intro hz0 (And.intro hz1 hz2)))
  clear hi hz0 hz1 hz2 hg hn hkN
  go_enter Tryz.func16, Tryz.ntmps16
  go_wp2
  go_loopw [3, 11] (fun v i wr => ∃ (j : Nat) (vo : Value), j ≤ N ∧ i = .int .i64 j ∧ vo = v ∧ TInv nd O (w.heap.size + 1) (w.alloc (.cells #[.slice (some ⟨b, 0, none⟩) N cap] 29)) wr j vo) (fun _ i _ => N - (intOf i).toNat)
  case atStart => exact ⟨0, _, Nat.zero_le _, rfl, rfl, [], [], rfl, rfl, ⟨rfl, .inl ⟨rfl, rfl⟩⟩, fun i h => absurd h (Nat.not_lt_zero _), Below.refl _ _⟩
  case round =>
    obtain ⟨j, vo, hj, rfl, rfl, s, pvs, hkf, hpl, hown, hparts, hbw⟩ := hrel
    have HKF := hid hkf
    have HBW := hid hbw
    have HPL := hid hpl
    have HLEN := hid (kidsF_len nd _ _ _ hkf)
    have HPT := hid hparts
    have hsz : w.heap.size + 1 ≤ wr.heap.size := by have := hbw.size; simpa using this
    have HB0 := hid (btree hbw)
    clear hbw hparts hpl
    by_cases hlt : j < N
    · obtain ⟨a0, a1, a2, a3, a5, a4⟩ := (HN.out.below HB0.out hb) j hlt
      obtain ⟨s', hk1⟩ := kidsF_pre HKN.out (j + 1) (by omega)
      obtain ⟨o', sp, sk, hs1, hs2, _, hs4⟩ := kidsF_step hk1
      rw [hkf] at hs1
      injection hs1 with hs1
      injection hs1 with ho' hs
      subst hs
      have HOJ : Hid (O.getD j [] = sk) := by
        have hOl : j < O.length := by have := (kidsF_len nd _ _ _ HKN.out).1; omega
        have e : (O.take (j + 1))[j]? = (o' ++ [sk])[j]? := by rw [hs2]
        rw [List.getElem?_take_of_lt (by omega), ← ho', List.getElem?_append_right (by rw [List.length_take]; omega), List.length_take, Nat.min_eq_left (by omega), Nat.sub_self] at e
        show _ = _
        rw [List.getD_eq_getElem?_getD, e]; rfl
      obtain ⟨k, hsk⟩ : ∃ k, sk.length = k := ⟨_, rfl⟩
      obtain ⟨p, hp⟩ : ∃ p, sp.length = p := ⟨_, rfl⟩
      have hpk : (sp ++ sk).length = p + k := by rw [List.length_append, hp, hsk]
      have HK := hid hs4
      have hk : (nd j).kids = (k : Int) := by rw [← hsk]; exact hs4
      have hpj : p + k ≤ j := by have := HLEN.out.2.1; omega
      have hND : (⟨(nd j).kind, (nd j).op, (nd j).ty, (nd j).n, (nd j).text, (k : Int)⟩ : Nd) = nd j := by rw [← hk]
      rw [hk] at a4
      rw [hpk] at hown
      have HIF : Hid (Ifs sk (pf pvs)) := fun c hc => (HPT.out c (HLEN.out.2.2 c (by simp [hc]))).iface
      have HPO : Hid (∀ (V : World) (ad : Option Addr) (ck : Nat), RowP (Apart vo) V ad (sk.map (pf pvs)) → k ≤ ck → Calls Tryz.prog 35 #[.agg #[.int .i64 (nd j).kind, .int .i64 (nd j).op, .int .i64 (nd j).ty, .int .i64 (nd j).n, .string (nd j).text, .int .i64 (k : Int)], .slice ad k ck] V fun e w' => (∃ v, e = .returned v ∧ PartAt (Apart vo) w' (nd j) sk (pf pvs) v) ∧ Below V.heap.size V w') := fun V ad ck hr hck => by
        have hf := (HG.out.fit j hlt).2
        rw [HOJ.out] at hf
        have := partOf_any (Apart vo) (nd j) sk (pf pvs) ad ck _ V hr HIF.out hf (by omega) (by omega)
        rw [hsk, ← hND] at this
        rw [← hND]
        exact this
      clear hk hs2 hs4 hk1 ho' hkf
      have h63 : (p : Int) + (k : Int) - (k : Int) = (p : Int) := by omega
      rcases hown with ⟨hxl, ⟨rfl, h0⟩ | ⟨g, co, cur, rfl, hBg, hgh, hco1, hco2, hcs, hct⟩⟩
      · obtain rfl : k = 0 := by omega
        obtain rfl : p = 0 := by omega
        obtain rfl : sk = [] := List.eq_nil_of_length_eq_zero hsk
        have HPO : Hid (∀ (V : World) (ad : Option Addr) (ck : Nat), RowP (Apart (.slice none 0 0)) V ad [] → 0 ≤ ck → Calls Tryz.prog 35 #[.agg #[.int .i64 (nd j).kind, .int .i64 (nd j).op, .int .i64 (nd j).ty, .int .i64 (nd j).n, .string (nd j).text, .int .i64 0], .slice ad 0 ck] V fun e w' => (∃ v, e = .returned v ∧ PartAt (Apart (.slice none 0 0)) w' (nd j) [] (pf pvs) v) ∧ Below V.heap.size V w') := fun V ad ck h1 h2 => HPO.out V ad ck h1 h2
        have HBX := hid ((Below.refl wr.heap.size wr).alloc (Nat.le_refl _) (.cells #[.int .i64 (nd j).kind, .int .i64 (nd j).op, .int .i64 (nd j).ty, .int .i64 (nd j).n, .string (nd j).text, .int .i64 0] 63))
        go_wp2_with (go_at_call 34; refine (pclone_nil 0 _).mono ?_; rintro e w1 ⟨vk, rfl, ok1, hb1⟩)
        have HB1 := hid hb1
        obtain ⟨ad, ck, rfl, hck, hrk⟩ := RowP_of_own (S := Apart (.slice none 0 0)) ok1 (fun g' hg1 hg2 => by unfold Apart; simp [Value.ownBlock] at hg1 ⊢ <;> omega)
        have HRK := hid hrk
        obtain ⟨q0, q1, q2, q3, q4, q5⟩ := six_new hb1
        have hw1 : wr.heap.size < w1.heap.size := by have := hb1.size; simp at this; omega
        have HBR := hid (HBX.out.trans (hb1.mono (by simp)))
        clear ok1 hrk hb1
        go_wp2_with fail
        go_region_held3 (fun w' => w'.cell? ⟨wr.heap.size, 0, none⟩ = some (.int .i64 (nd j).kind) ∧ w'.cell? ⟨wr.heap.size, 1, none⟩ = some (.int .i64 (nd j).op) ∧ w'.cell? ⟨wr.heap.size, 2, none⟩ = some (.int .i64 (nd j).ty) ∧ w'.cell? ⟨wr.heap.size, 3, none⟩ = some (.int .i64 (nd j).n) ∧ w'.cell? ⟨wr.heap.size, 4, none⟩ = some (.string (nd j).text) ∧ w'.cell? ⟨wr.heap.size, 5, none⟩ = some (.int .i64 0)) (first | (exact six_keep HB2.out hw1 ⟨q0, q1, q2, q3, q4, q5⟩) | (exact S4) | go_keep) (first
          | (go_at_call 35; refine (HPO.out _ ad ck (HRK.out.below (Below.refl _ _).drew) hck).mono ?_; rintro e w2 ⟨⟨vj, rfl, hpj2⟩, hb2⟩; have hq2 := hpj2.iface; obtain ⟨Tj, yj, rfl⟩ := hq2; have HPJ := hid hpj2; have HB2 := hid hb2; have hw2 := Nat.lt_of_lt_of_le hw1 hb2.size; have hz2 := Nat.le_trans hsz (Nat.le_of_lt hw2); have HBB := hid (HBR.out.trans (((Below.refl w1.heap.size w1).drew.trans hb2).mono (Nat.le_of_lt hw1))); clear hpj2 hb2)
          | (refine step_append_own_at rfl (.tmp 26) (.tmp 30) 76 rfl (w.heap.size + 1) 55 i0 .nilIface 1 16 Tryz.underlying76 HHI.out.1 HHI.out.2.1 HHI.out.2.2.1 HHI.out.2.2.2 rfl (by decide) (.slice none 0 0) 0 (sp.map (pf pvs)) (by simp [Act.eval]) (⟨by simp [hp], .inl ⟨rfl, rfl⟩⟩) ⟨w2.heap.size, 0, none⟩ 1 1 [.iface Tj yj] (by simp [Act.eval]) rfl (cell_one_new _ _ _) (by simp [Value.oneCell']) (by unfold maxLen; omega) (by omega) (by rw [World.size_alloc]; exact Nat.le_succ_of_le hz2) ?_; intro v4 w4 o4 g4 n4 b4; have S4 := six_grown_none g4 hw2 (six_keep HB2.out hw1 ⟨q0, q1, q2, q3, q4, q5⟩)) | fail)
        have hb4 := ((HBW.out.trans (HBB.out.mono hsz)).alloc (by have := HBB.out.size; omega) (.cells #[.iface Tj yj] 55)).grown g4 (by have := HBB.out.size; simp; omega) (fun q e => by cases e)
        have NX := hid (TInv_step HG.out hlt HKF.out HK.out HOJ.out HPL.out hp HPT.out HBB.out HPJ.out rfl g4 o4 b4 hb4)
        clear o4 g4 n4 b4 hb4 S4
        go_wp2
        go_roundw
        case rel => exact ⟨j + 1, _, by omega, by go_num, rfl, NX.out⟩
        case measure => simp [intOf]; omega
      · have hgl := lt_blk hgh
        have HROW : Hid (RowAt wr 55 g co (p + k) ((sp ++ sk).map (pf pvs))) := ⟨by omega, hco1, hco2, cur, hgh, by omega, by rw [Nat.mul_one] at hct; exact hct⟩
        have HFR : Hid (RowAt wr 55 g co p (sp.map (pf pvs))) := by
          have h1 := HROW.out
          rw [List.map_append] at h1
          have h2 := h1.front
          rw [List.length_map, hp] at h2
          exact h2
        unfold maxLen at hco2
        clear hxl hgh hcs hct
        by_cases hcp : co = p
        · subst hcp
          obtain rfl : k = 0 := by omega
          simp only [Nat.add_zero] at *
          have HPO : Hid (∀ (V : World) (ad : Option Addr) (ck : Nat), RowP (Apart (.slice (some ⟨g, 0, none⟩) co co)) V ad (sk.map (pf pvs)) → 0 ≤ ck → Calls Tryz.prog 35 #[.agg #[.int .i64 (nd j).kind, .int .i64 (nd j).op, .int .i64 (nd j).ty, .int .i64 (nd j).n, .string (nd j).text, .int .i64 0], .slice ad 0 ck] V fun e w' => (∃ v, e = .returned v ∧ PartAt (Apart (.slice (some ⟨g, 0, none⟩) co co)) w' (nd j) sk (pf pvs) v) ∧ Below V.heap.size V w') := fun V ad ck h1 h2 => HPO.out V ad ck h1 h2
          have HBX := hid ((Below.refl wr.heap.size wr).alloc (Nat.le_refl _) (.cells #[.int .i64 (nd j).kind, .int .i64 (nd j).op, .int .i64 (nd j).ty, .int .i64 (nd j).n, .string (nd j).text, .int .i64 0] 63))
          go_wp2_with (go_at_call 34; refine (pclone_some ⟨g, 0, none⟩ 0 0 (sk.map (pf pvs)) _ (by rw [List.length_map, hsk]) (by omega) (fun i u h => by have := (List.getElem?_eq_some_iff.1 h).1; rw [List.length_map, hsk] at this; omega) (fun h => by omega) (fun u hu => by have hz := List.eq_nil_of_length_eq_zero hsk; subst hz; simp at hu)).mono ?_; rintro e w1 ⟨vk, rfl, ok1, hb1⟩)
          have HB1 := hid hb1
          obtain ⟨ad, ck, rfl, hck, hrk⟩ := RowP_of_own (S := Apart (.slice (some ⟨g, 0, none⟩) co co)) ok1 (fun g' hg1 hg2 => by unfold Apart; simp [Value.ownBlock] at hg1 ⊢ <;> omega)
          have HRK := hid hrk
          obtain ⟨q0, q1, q2, q3, q4, q5⟩ := six_new hb1
          have hw1 : wr.heap.size < w1.heap.size := by have := hb1.size; simp at this; omega
          have HBR := hid (HBX.out.trans (hb1.mono (by simp)))
          clear ok1 hrk hb1
          go_wp2_with fail
          go_region_held3 (fun w' => w'.cell? ⟨wr.heap.size, 0, none⟩ = some (.int .i64 (nd j).kind) ∧ w'.cell? ⟨wr.heap.size, 1, none⟩ = some (.int .i64 (nd j).op) ∧ w'.cell? ⟨wr.heap.size, 2, none⟩ = some (.int .i64 (nd j).ty) ∧ w'.cell? ⟨wr.heap.size, 3, none⟩ = some (.int .i64 (nd j).n) ∧ w'.cell? ⟨wr.heap.size, 4, none⟩ = some (.string (nd j).text) ∧ w'.cell? ⟨wr.heap.size, 5, none⟩ = some (.int .i64 0)) (first | (exact six_keep HB2.out hw1 ⟨q0, q1, q2, q3, q4, q5⟩) | (exact S4) | go_keep) (first
            | (go_at_call 35; refine (HPO.out _ ad ck (HRK.out.below (Below.refl _ _).drew) hck).mono ?_; rintro e w2 ⟨⟨vj, rfl, hpj2⟩, hb2⟩; have hq2 := hpj2.iface; obtain ⟨Tj, yj, rfl⟩ := hq2; have HPJ := hid hpj2; have HB2 := hid hb2; have hw2 := Nat.lt_of_lt_of_le hw1 hb2.size; have hz2 := Nat.le_trans hsz (Nat.le_of_lt hw2); have HBB := hid (HBR.out.trans (((Below.refl w1.heap.size w1).drew.trans hb2).mono (Nat.le_of_lt hw1))); clear hpj2 hb2)
            | (refine step_append_own_at rfl (.tmp 26) (.tmp 30) 76 rfl (w.heap.size + 1) 55 i0 .nilIface 1 16 Tryz.underlying76 HHI.out.1 HHI.out.2.1 HHI.out.2.2.1 HHI.out.2.2.2 rfl (by decide) (.slice (some ⟨g, 0, none⟩) co co) co (sp.map (pf pvs)) (by simp [Act.eval]) (((HFR.out.below (HBB.out.alloc (Nat.le_of_lt hw2) _) hgl).own hBg)) ⟨w2.heap.size, 0, none⟩ 1 1 [.iface Tj yj] (by simp [Act.eval]) rfl (cell_one_new _ _ _) (by simp [Value.oneCell']) (by unfold maxLen; omega) (by omega) (by rw [World.size_alloc]; exact Nat.le_succ_of_le hz2) ?_; intro v4 w4 o4 g4 n4 b4; have S4 := six_grown (r := g) g4 hw2 (Nat.ne_of_lt hgl) (six_keep HB2.out hw1 ⟨q0, q1, q2, q3, q4, q5⟩)) | fail)
          have hb4 := ((HBW.out.trans (HBB.out.mono hsz)).alloc (by have := HBB.out.size; omega) (.cells #[.iface Tj yj] 55)).grown g4 (by have := HBB.out.size; simp; omega) (fun q e => by cases e; exact hBg)
          have NX := hid (TInv_step HG.out hlt HKF.out HK.out HOJ.out HPL.out hp HPT.out HBB.out HPJ.out rfl g4 o4 b4 hb4)
          clear o4 g4 n4 b4 hb4 S4
          go_wp2
          go_roundw
          case rel => exact ⟨j + 1, _, by omega, by go_num, rfl, NX.out⟩
          case measure => simp [intOf]; omega
        · have i1 : (0 : Int) ≤ (p : Int) := by omega
          have i2 : (p : Int) ≤ (co : Int) := by omega
          have i3 : ¬ co = 0 := by omega
          have HKC : Hid (∀ i u, (sk.map (pf pvs))[i]? = some u → (wr.alloc (.cells #[.int .i64 (nd j).kind, .int .i64 (nd j).op, .int .i64 (nd j).ty, .int .i64 (nd j).n, .string (nd j).text, .int .i64 (k : Int)] 63)).cell? ((⟨g, p, none⟩ : Addr).add i) = some u) := fun i u h => by
            have hil := (List.getElem?_eq_some_iff.1 h).1
            rw [List.length_map, hsk] at hil
            have e : ((⟨g, p, none⟩ : Addr).add i) = ⟨g, p + i, none⟩ := by unfold Addr.add; simp
            rw [e, ((Below.refl wr.heap.size wr).alloc (Nat.le_refl _) (.cells #[.int .i64 (nd j).kind, .int .i64 (nd j).op, .int .i64 (nd j).ty, .int .i64 (nd j).n, .string (nd j).text, .int .i64 (k : Int)] 63)).cell (p := ⟨g, p + i, none⟩) hgl, HROW.out.cell (p + i) (by omega)]
            exact map_tail _ _ _ _ hp i u h
          have HBX := hid ((Below.refl wr.heap.size wr).alloc (Nat.le_refl _) (.cells #[.int .i64 (nd j).kind, .int .i64 (nd j).op, .int .i64 (nd j).ty, .int .i64 (nd j).n, .string (nd j).text, .int .i64 (k : Int)] 63))
          go_wp2_with (go_at_call 34; refine (pclone_some ⟨g, p, none⟩ k (co - p) (sk.map (pf pvs)) _ (by rw [List.length_map, hsk]) (by omega) (fun i u h => HKC.out i u h) (fun _ => by simp; omega) (fun u hu => by obtain ⟨c, hc, rfl⟩ := List.mem_map.1 hu; obtain ⟨T, y, e⟩ := HIF.out c hc; rw [e]; rfl)).mono ?_; rintro e w1 ⟨vk, rfl, ok1, hb1⟩)
          have HB1 := hid hb1
          obtain ⟨ad, ck, rfl, hck, hrk⟩ := RowP_of_own (S := Apart (.slice (some ⟨g, 0, none⟩) (p + k) co)) ok1 (fun g' hg1 hg2 => by unfold Apart; simp [Value.ownBlock] at hg1 ⊢ <;> omega)
          have HRK := hid hrk
          obtain ⟨q0, q1, q2, q3, q4, q5⟩ := six_new hb1
          have hw1 : wr.heap.size < w1.heap.size := by have := hb1.size; simp at this; omega
          have HBR := hid (HBX.out.trans (hb1.mono (by simp)))
          clear ok1 hrk hb1
          go_wp2_with fail
          go_region_held3 (fun w' => w'.cell? ⟨wr.heap.size, 0, none⟩ = some (.int .i64 (nd j).kind) ∧ w'.cell? ⟨wr.heap.size, 1, none⟩ = some (.int .i64 (nd j).op) ∧ w'.cell? ⟨wr.heap.size, 2, none⟩ = some (.int .i64 (nd j).ty) ∧ w'.cell? ⟨wr.heap.size, 3, none⟩ = some (.int .i64 (nd j).n) ∧ w'.cell? ⟨wr.heap.size, 4, none⟩ = some (.string (nd j).text) ∧ w'.cell? ⟨wr.heap.size, 5, none⟩ = some (.int .i64 (k : Int))) (first | (exact six_keep HB2.out hw1 ⟨q0, q1, q2, q3, q4, q5⟩) | (exact S4) | go_keep) (first
            | (go_at_call 35; refine (HPO.out _ ad ck (HRK.out.below (Below.refl _ _).drew) hck).mono ?_; rintro e w2 ⟨⟨vj, rfl, hpj2⟩, hb2⟩; have hq2 := hpj2.iface; obtain ⟨Tj, yj, rfl⟩ := hq2; have HPJ := hid hpj2; have HB2 := hid hb2; have hw2 := Nat.lt_of_lt_of_le hw1 hb2.size; have hz2 := Nat.le_trans hsz (Nat.le_of_lt hw2); have HBB := hid (HBR.out.trans (((Below.refl w1.heap.size w1).drew.trans hb2).mono (Nat.le_of_lt hw1))); clear hpj2 hb2)
            | (refine step_append_own_at rfl (.tmp 26) (.tmp 30) 76 rfl (w.heap.size + 1) 55 i0 .nilIface 1 16 Tryz.underlying76 HHI.out.1 HHI.out.2.1 HHI.out.2.2.1 HHI.out.2.2.2 rfl (by decide) (.slice (some ⟨g, 0, none⟩) p co) p (sp.map (pf pvs)) (by simp [Act.eval]) (((HFR.out.below (HBB.out.alloc (Nat.le_of_lt hw2) _) hgl).own hBg)) ⟨w2.heap.size, 0, none⟩ 1 1 [.iface Tj yj] (by simp [Act.eval]) rfl (cell_one_new _ _ _) (by simp [Value.oneCell']) (by unfold maxLen; omega) (by omega) (by rw [World.size_alloc]; exact Nat.le_succ_of_le hz2) ?_; intro v4 w4 o4 g4 n4 b4; have S4 := six_grown (r := g) g4 hw2 (Nat.ne_of_lt hgl) (six_keep HB2.out hw1 ⟨q0, q1, q2, q3, q4, q5⟩)) | fail)
          have hb4 := ((HBW.out.trans (HBB.out.mono hsz)).alloc (by have := HBB.out.size; omega) (.cells #[.iface Tj yj] 55)).grown g4 (by have := HBB.out.size; simp; omega) (fun q e => by cases e; exact hBg)
          have NX := hid (TInv_step HG.out hlt HKF.out HK.out HOJ.out HPL.out hp HPT.out HBB.out HPJ.out rfl g4 o4 b4 hb4)
          clear o4 g4 n4 b4 hb4 S4
          go_wp2
          go_roundw
          case rel => exact ⟨j + 1, _, by omega, by go_num, rfl, NX.out⟩
          case measure => simp [intOf]; omega
    · obtain rfl : j = N := by omega
      have hs : s = [x] := by
        have e := HKF.out
        rw [HKN.out] at e
        injection e with e
        injection e with _ e
        exact e.symm
      subst hs
      have hxj : x < j := HLEN.out.2.2 x (by simp)
      have HALL : Hid (∀ i, i < j → PartAt (fun _ => True) wr (nd i) (O.getD i []) (pf pvs) (pf pvs i)) := fun i hi => (HPT.out i hi).keep fun ad xs h => h.keep fun g _ _ _ _ => ⟨trivial, rfl⟩
      obtain ⟨T, y, hv⟩ := (HPT.out x hxj).iface
      have HV := hid hv
      rcases hown with ⟨hxl, ⟨rfl, h0⟩ | ⟨g, co, cur, rfl, hBg, hgh, hco1, hco2, hcs, hct⟩⟩
      · simp at h0
      · have c0 : wr.cell? ⟨g, 0, none⟩ = some (.iface T y) := by
          have HROW : RowAt wr 55 g co 1 ([x].map (pf pvs)) := ⟨rfl, hco1, hco2, cur, hgh, by omega, by rw [Nat.mul_one] at hct; exact hct⟩
          rw [HROW.cell 0 (by omega)]
          simp [hv]
        clear hxl hgh hcs hct hv
        go_wp2
        go_ret
        exact ⟨⟨pf pvs, by rw [HV.out]; rfl, HALL.out⟩, HB0.out⟩
end Go.Proofs.YtkngjbpbjjoneaaGreatDoor.Q
