import Derived.Test.YtcjgcipacfcjnaaGreatDoorJ24
import Derived.Test.YtcjgcipacfcjnaaGreatDoorJ26
namespace Go.Proofs.YtcjgcipacfcjnaaGreatDoor.C
open Go.RowKit
set_option maxRecDepth 20000
structure FnOkR (f : Fn) : Prop where
 few : f.params.length ≤ 8
 result : 0 ≤ f.result ∧ f.result ≤ 10
 slots : (f.params.length : Int) ≤ f.slots ∧ f.slots ≤ 200
 some_ : 1 ≤ f.ins.length ∧ f.ins.length ≤ 50000
 params : ∀ i, i < f.params.length → 1 ≤ f.params.getD i 0 ∧ f.params.getD i 0 ≤ 10
theorem fnOk_iff {fns : List Fn} {k : Nat} : FnOk fns k ↔ Q.NameOk (fns.getD k fn0).name ∧ FnOkR (fns.getD k fn0) ∧ ∀ i, i < k → ¬ (fns.getD i fn0).name = (fns.getD k fn0).name :=
 ⟨fun h => ⟨h.name, ⟨h.few, h.result, h.slots, h.some_, h.params⟩, h.once⟩, fun h => ⟨h.1, h.2.1.few, h.2.1.result, h.2.1.slots, h.2.1.some_, h.2.1.params, h.2.2⟩⟩
set_option maxHeartbeats 8000000 in
theorem fnRight_any {f : Fn} {pv iv : Value} {w : World} (h1 : IntRow w pv f.params) (h2 : InsRow w iv f.ins) :
  Calls Tryz.prog 96 #[.agg #[.string f.name, pv, .int .i64 f.result, .int .i64 f.slots, iv]] w fun e w' => Q.Says e (FnOkR f) ∧ Below w.heap.size w w' := by
 have HP := hid h1
 obtain ⟨aP, cP, rfl⟩ := h1.sl
 obtain ⟨aI, cI, rfl⟩ := h2.sl
 have HLO : Hid (Below w.heap.size w (w.alloc (fbox f (.slice aP f.params.length cP) (.slice aI f.ins.length cI)))) := hid ((Below.refl _ _).alloc (Nat.le_refl _) _)
 obtain ⟨q0, q1, q2, q3, q4⟩ := fx (heap_alloc_new w (fbox f (.slice aP f.params.length cP) (.slice aI f.ins.length cI)))
 clear h1 h2
 go_enter Tryz.func96, Tryz.ntmps96
 go_upto_region 1 with fail
 obtain ⟨W1, hW1⟩ : ∃ W, w.alloc (fbox f (.slice aP f.params.length cP) (.slice aI f.ins.length cI)) = W := ⟨_, rfl⟩
 rw [hW1] at HLO q0 q1 q2 q3 q4
 unfold fbox at hW1
 rw [hW1]
 clear hW1
 by_cases hfew : f.params.length ≤ 8
 ·have hfi : ¬ (8 : Int) < (f.params.length : Int) := by omega
  go_wp2_with fail
  go_loop [12] (fun i => ∃ j : Nat, j ≤ f.params.length ∧ i = .int .i64 j ∧ ∀ p, p < j → 1 ≤ f.params.getD p 0 ∧ f.params.getD p 0 ≤ 10) (fun i => f.params.length - (intOf i).toNat)
  case atStart => exact ⟨0, Nat.zero_le _, rfl, fun p hp => absurd hp (Nat.not_lt_zero _)⟩
  case round =>
   obtain ⟨j, hj, rfl, hall⟩ := hrel
   have HALL := hid hall
   clear hall
   by_cases hlt : j < f.params.length
   ·have hlti : (j : Int) < (f.params.length : Int) := by omega
    obtain ⟨gg, gc2, e9, _, _, hggl, hgc⟩ := (HP.out.next HLO.out).at (i := j) hlt
    injection e9 with e9 en ec
    clear en
    subst e9 ec
    have n0 := hgc j hlt
    clear hgc
    obtain ⟨y, hy⟩ : ∃ y, f.params.getD j 0 = y := ⟨_, rfl⟩
    rw [hy] at n0
    have HY := hid hy
    clear hy
    by_cases hr : 1 ≤ y ∧ y ≤ 10
    ·have hb : (decide (1 ≤ y) && decide (y ≤ 10)) = true := by simp [hr.1, hr.2]
     have HNX : Hid (∀ p, p < j + 1 → 1 ≤ f.params.getD p 0 ∧ f.params.getD p 0 ≤ 10) := hid fun p hp => by
      by_cases e : p = j
      ·subst e; rw [HY.out]; exact hr
      ·exact HALL.out p (by omega)
     clear hr
     go_wp2_with (go_at_call 118; refine (Q.millIsType_int _ _).mono ?_; rw [hb]; rintro e w' ⟨rfl, hw⟩; have hw2 := hw.symm; clear hw; subst hw2)
     go_round
     case rel => exact ⟨j + 1, by omega, by go_num, HNX.out⟩
     case measure => simp [intOf]; omega
    ·have hb : (decide (1 ≤ y) && decide (y ≤ 10)) = false := by
      cases h : (decide (1 ≤ y) && decide (y ≤ 10)) with
      | false => rfl
      | true => simp at h; exact absurd h hr
     have HNR := hid hr
     clear hr
     go_wp2_with (go_at_call 118; refine (Q.millIsType_int _ _).mono ?_; rw [hb]; rintro e w' ⟨rfl, hw⟩; have hw2 := hw.symm; clear hw; subst hw2)
     go_ret
     exact ⟨Q.says_f fun h => HNR.out (by have := h.params j hlt; rw [HY.out] at this; exact this), HLO.out⟩
   ·obtain rfl : j = f.params.length := by omega
    have hge : ¬ ((f.params.length : Int) < (f.params.length : Int)) := by omega
    go_upto_region 9 with fail
    obtain ⟨R, hR⟩ : ∃ R, f.result = R := ⟨_, rfl⟩
    have HRE := hid hR
    rw [hR] at q2
    clear hR hge
    by_cases hr : R = 0 ∨ (1 ≤ R ∧ R ≤ 10)
    ·have HRR : Hid (0 ≤ R ∧ R ≤ 10) := hid (by omega)
     have hs0 : f.slots = f.slots := rfl
     rcases hr with rfl | hr
     ·have hb : (decide (1 ≤ (0 : Int)) && decide ((0 : Int) ≤ 10)) = false := rfl
      by_cases hs1 : (f.params.length : Int) ≤ f.slots
      ·by_cases hs2 : f.slots ≤ 200
       ·by_cases hi1 : (0 : Int) < (f.ins.length : Int)
        ·by_cases hi2 : (f.ins.length : Int) ≤ 50000
         ·go_wp2_with (go_at_call 118; refine (Q.millIsType_int _ _).mono ?_; rw [hb]; rintro e w' ⟨rfl, hw⟩; have hw2 := hw.symm; clear hw; subst hw2)
          go_ret
          exact ⟨Q.says_t ⟨hfew, (by rw [HRE.out]; exact HRR.out), ⟨hs1, hs2⟩, ⟨by omega, by omega⟩, HALL.out⟩, HLO.out⟩
         ·go_wp2_with (go_at_call 118; refine (Q.millIsType_int _ _).mono ?_; rw [hb]; rintro e w' ⟨rfl, hw⟩; have hw2 := hw.symm; clear hw; subst hw2)
          go_ret
          exact ⟨Q.says_f (fun h => by have h8 := h.slots; have h9 := h.some_; omega), HLO.out⟩
        ·go_wp2_with (go_at_call 118; refine (Q.millIsType_int _ _).mono ?_; rw [hb]; rintro e w' ⟨rfl, hw⟩; have hw2 := hw.symm; clear hw; subst hw2)
         go_ret
         exact ⟨Q.says_f (fun h => by have h8 := h.slots; have h9 := h.some_; omega), HLO.out⟩
       ·go_wp2_with (go_at_call 118; refine (Q.millIsType_int _ _).mono ?_; rw [hb]; rintro e w' ⟨rfl, hw⟩; have hw2 := hw.symm; clear hw; subst hw2)
        go_ret
        exact ⟨Q.says_f (fun h => by have h8 := h.slots; have h9 := h.some_; omega), HLO.out⟩
      ·go_wp2_with (go_at_call 118; refine (Q.millIsType_int _ _).mono ?_; rw [hb]; rintro e w' ⟨rfl, hw⟩; have hw2 := hw.symm; clear hw; subst hw2)
       go_ret
       exact ⟨Q.says_f (fun h => by have h8 := h.slots; have h9 := h.some_; omega), HLO.out⟩
     ·have hb : (decide (1 ≤ R) && decide (R ≤ 10)) = true := by simp [hr.1, hr.2]
      have hr0 : (R == 0) = false := by simp; omega
      clear hr
      by_cases hs1 : (f.params.length : Int) ≤ f.slots
      ·by_cases hs2 : f.slots ≤ 200
       ·by_cases hi1 : (0 : Int) < (f.ins.length : Int)
        ·by_cases hi2 : (f.ins.length : Int) ≤ 50000
         ·go_wp2_with (go_at_call 118; refine (Q.millIsType_int _ _).mono ?_; rw [hb]; rintro e w' ⟨rfl, hw⟩; have hw2 := hw.symm; clear hw; subst hw2)
          go_ret
          exact ⟨Q.says_t ⟨hfew, (by rw [HRE.out]; exact HRR.out), ⟨hs1, hs2⟩, ⟨by omega, by omega⟩, HALL.out⟩, HLO.out⟩
         ·go_wp2_with (go_at_call 118; refine (Q.millIsType_int _ _).mono ?_; rw [hb]; rintro e w' ⟨rfl, hw⟩; have hw2 := hw.symm; clear hw; subst hw2)
          go_ret
          exact ⟨⟨decide ((f.ins.length : Int) ≤ 50000), rfl, by rw [decide_eq_true_iff]; exact ⟨fun h => by omega, fun h => by have h9 := h.some_; omega⟩⟩, HLO.out⟩
        ·go_wp2_with (go_at_call 118; refine (Q.millIsType_int _ _).mono ?_; rw [hb]; rintro e w' ⟨rfl, hw⟩; have hw2 := hw.symm; clear hw; subst hw2)
         go_ret
         exact ⟨Q.says_f (fun h => by have h8 := h.slots; have h9 := h.some_; omega), HLO.out⟩
       ·go_wp2_with (go_at_call 118; refine (Q.millIsType_int _ _).mono ?_; rw [hb]; rintro e w' ⟨rfl, hw⟩; have hw2 := hw.symm; clear hw; subst hw2)
        go_ret
        exact ⟨Q.says_f (fun h => by have h8 := h.slots; have h9 := h.some_; omega), HLO.out⟩
      ·go_wp2_with (go_at_call 118; refine (Q.millIsType_int _ _).mono ?_; rw [hb]; rintro e w' ⟨rfl, hw⟩; have hw2 := hw.symm; clear hw; subst hw2)
       go_ret
       exact ⟨Q.says_f (fun h => by have h8 := h.slots; have h9 := h.some_; omega), HLO.out⟩
    ·have hr0 : (R == 0) = false := by simp; intro h; exact hr (.inl h)
     have hb : (decide (1 ≤ R) && decide (R ≤ 10)) = false := by
      cases h : (decide (1 ≤ R) && decide (R ≤ 10)) with
      | false => rfl
      | true => simp at h; exact absurd (.inr h) hr
     have HNR := hid hr
     clear hr
     go_wp2_with (go_at_call 118; refine (Q.millIsType_int _ _).mono ?_; rw [hb]; rintro e w' ⟨rfl, hw⟩; have hw2 := hw.symm; clear hw; subst hw2)
     go_ret
     exact ⟨Q.says_f fun h => HNR.out (by have := h.result; rw [HRE.out] at this; omega), HLO.out⟩
 ·have hfi : (8 : Int) < (f.params.length : Int) := by omega
  go_wp2_with fail
  go_ret
  exact ⟨Q.says_f fun h => hfew h.few, HLO.out⟩
def ComeEnd (fns : List Fn) (f : Fn) (w : World) (b gL : Nat) (cv pv iv : Value) (A : Nat → Sh) (wk : List Nat) (wv : Value) (W : World) (p : Nat) (s : Sh) (e : Ending) (w' : World) : Prop := e = .returned (.tuple #[]) ∧ CK b gL wv.ownBlock W w' ∧ ∃ wv', OwnLater W wv wv' ∧ ((join (A p) s = A p ∧ SP fns f w b gL cv pv iv A wk wv' w') ∨ (¬ join (A p) s = A p ∧ SP fns f w b gL cv pv iv (upd A p (join (A p) s)) (ins1 wk p) wv' w'))
set_option maxHeartbeats 8000000 in
theorem come_any {fns : List Fn} {f : Fn} {w : World} {b gL : Nat} {cv pv iv : Value} {A : Nat → Sh} {wk : List Nat} {wv : Value} {W : World} (hP : SP fns f w b gL cv pv iv A wk wv W) {p : Nat} (hp : p < f.ins.length) (hIL : f.ins.length ≤ 50000) {s : Sh} (ha : OkSh f.S (A p)) (hs : OkSh f.S s) (h0 : ¬ s.st = 0) (hS : f.S ≤ 200) (hd : wk.Pairwise (· > ·)) (hw : ∀ q ∈ wk, q < f.ins.length) (hwl : wk.length ≤ 50000) :
  Calls Tryz.prog 100 #[.pointer (some ⟨b, 0, none⟩), .int .i64 p, lv s] W (ComeEnd fns f w b gL cv pv iv A wk wv W p s) := by
 have hpi : (p : Int) < (f.ins.length : Int) := by omega
 have HLO : Hid (Below W.heap.size W (W.alloc (lbox (s.st : Nat) (kt s.sl) (kt s.sk)))) := hid ((Below.refl _ _).alloc (Nat.le_refl _) _)
 have HP := hid (hP.next HLO.out)
 have HK0 : Hid (CK b gL wv.ownBlock W (W.alloc (lbox (s.st : Nat) (kt s.sl) (kt s.sk)))) := hid (.of_below HLO.out)
 have E5 : Hid ((W.alloc (lbox (s.st : Nat) (kt s.sl) (kt s.sk))).heap[W.heap.size]? = some (lbox (s.st : Nat) (kt s.sl) (kt s.sk))) := hid (heap_alloc_new _ _)
 have HJ : Hid (∀ V, Calls Tryz.prog 122 #[.agg #[.int .i64 ((A p).st : Nat), .string (kt (A p).sl), .string (kt (A p).sk)], .agg #[.int .i64 (s.st : Nat), .string (kt s.sl), .string (kt s.sk)]] V (JdEnd (A p) s V)) := hid fun V => joined_any ha hs h0 hS V
 have HJO := hid (join_ok ha hs h0)
 have HEQ := hid (eqLB_sh HJO.out ha)
 obtain ⟨J, hJ⟩ : ∃ J, join (A p) s = J := ⟨_, rfl⟩
 unfold JdEnd ComeEnd at *
 rw [hJ] at HJ HJO HEQ ⊢
 obtain ⟨a, hA⟩ : ∃ a, A p = a := ⟨_, rfl⟩
 have HAE := hid hA
 have HDD := hid hd
 have HWK := hid hw
 unfold lv at *
 rw [hA] at HJ HEQ ⊢
 clear hP ha hs h0 hd hw hJ
 go_enter Tryz.func100, Tryz.ntmps100
 go_upto_region 1 with fail
 obtain ⟨W1, hW1⟩ : ∃ W', W.alloc (lbox (s.st : Nat) (kt s.sl) (kt s.sk)) = W' := ⟨_, rfl⟩
 obtain ⟨b5, hb5⟩ : ∃ b5, W.heap.size = b5 := ⟨_, rfl⟩
 rw [hW1] at HLO HP E5 HK0
 rw [hb5] at E5
 unfold lbox at hW1
 rw [hW1, hb5]
 clear hW1
 have HS1 : Hid (∀ V, Below W1.heap.size W1 V → V.cell? ⟨b, 6, none⟩ = some (.slice (some ⟨gL, 0, none⟩) f.ins.length f.ins.length) ∧ V.cell? ⟨gL, p * 3, none⟩ = some (.int .i64 (a.st : Nat)) ∧ V.cell? ⟨gL, p * 3 + 1, none⟩ = some (.string (kt a.sl)) ∧ V.cell? ⟨gL, p * 3 + 2, none⟩ = some (.string (kt a.sk)) ∧ V.cell? ⟨b5, 0, none⟩ = some (.int .i64 (s.st : Nat)) ∧ V.cell? ⟨b5, 1, none⟩ = some (.string (kt s.sl)) ∧ V.cell? ⟨b5, 2, none⟩ = some (.string (kt s.sk))) := hid fun V hV => by
  obtain ⟨u0, u1, u2, _, _, _⟩ := (HP.out.next hV).ly.at hp
  rw [HAE.out] at u0 u1 u2
  obtain ⟨x0, x1, x2, _, _, _⟩ := six_l (hp_next E5.out hV)
  exact ⟨(cell_hp (HP.out.next hV).e 6).trans rfl, u0, u1, u2, x0, x1, x2⟩
 go_cut [6] (fun u wx => ∃ b6 : Nat, u = .pointer (some ⟨b6, 0, none⟩) ∧ wx.heap[b6]? = some (lbox (J.st : Nat) (kt J.sl) (kt J.sk)) ∧ SP fns f w b gL cv pv iv A wk wv wx ∧ ¬ b6 = gL ∧ Below W1.heap.size W1 wx)
 case first =>
  have hgl := HP.out.ly.lt
  go_region_held3 (fun V => V.cell? ⟨b, 6, none⟩ = some (.slice (some ⟨gL, 0, none⟩) f.ins.length f.ins.length) ∧ V.cell? ⟨gL, p * 3, none⟩ = some (.int .i64 (a.st : Nat)) ∧ V.cell? ⟨gL, p * 3 + 1, none⟩ = some (.string (kt a.sl)) ∧ V.cell? ⟨gL, p * 3 + 2, none⟩ = some (.string (kt a.sk)) ∧ V.cell? ⟨b5, 0, none⟩ = some (.int .i64 (s.st : Nat)) ∧ V.cell? ⟨b5, 1, none⟩ = some (.string (kt s.sl)) ∧ V.cell? ⟨b5, 2, none⟩ = some (.string (kt s.sk))) (first | (exact HS1.out _ (Below.refl _ _).drew) | (exact HS1.out _ ((Below.refl _ _).alloc (Nat.le_refl _) _)) | (exact HS1.out _ ((Below.refl _ _).alloc (Nat.le_refl _) _).drew) | (exact HS1.out _ HB9.out) | (exact HS1.out _ (HB9.out.alloc HB9.out.size _)) | (exact HS1.out _ (set_lo (set_lo (set_lo HB9.out _ _ (Nat.le_refl _) _) _ _ (Nat.le_refl _) _) _ _ (Nat.le_refl _) _)) | go_keep) (first
   | (go_at_call 122; refine (HJ.out _).mono ?_; rintro e w9 ⟨rfl, hb9⟩; have e9 : w9.heap[W1.heap.size]? = some (lbox 0 ⟨#[]⟩ ⟨#[]⟩) := hp_next (heap_alloc_new W1 _) (show Below (W1.alloc (lbox 0 ⟨#[]⟩ ⟨#[]⟩)).heap.size (W1.alloc (lbox 0 ⟨#[]⟩ ⟨#[]⟩)) w9 from (Below.refl _ _).drew.trans hb9); have HE9 := hid e9; obtain ⟨z0, z1, z2, y0, y1, y2⟩ := six_l e9; have HB9 := hid (((Below.refl W1.heap.size W1).alloc (Nat.le_refl _) (lbox 0 ⟨#[]⟩ ⟨#[]⟩)).drew.trans (hb9.mono (by simp))); clear e9 hb9)
   | (go_at_call 122; refine (HJ.out _).mono ?_; rintro e w9 ⟨rfl, hb9⟩; have HB9 := hid ((Below.refl W1.heap.size W1).drew.trans hb9); clear hb9))
  all_goals go_wp2_with fail
  all_goals go_meet
  all_goals first
   | (exact ⟨_, rfl, set3_l HE9.out _ _ _, (HP.out.next HB9.out).box3 HE9.out (Nat.le_of_lt (Nat.lt_of_le_of_lt HP.out.ng hgl)) (Nat.ne_of_lt hgl) _ _ _, fun e => absurd e.symm (Nat.ne_of_lt hgl), set_lo (set_lo (set_lo HB9.out _ _ (Nat.le_refl _) _) _ _ (Nat.le_refl _) _) _ _ (Nat.le_refl _) _⟩)
   | (exact ⟨_, rfl, heap_alloc_new _ _, (HP.out.next HB9.out).next ((Below.refl _ _).alloc (Nat.le_refl _) _), fun e => absurd e.symm (Nat.ne_of_lt (Nat.lt_of_lt_of_le hgl HB9.out.size)), HB9.out.alloc HB9.out.size _⟩)
 case rest =>
  obtain ⟨b6, rfl, e6, hp2, hn6, hb2⟩ := hcut
  obtain ⟨W2, hW2⟩ : ∃ W', wc = W' := ⟨_, rfl⟩
  rw [hW2] at e6 hp2 hb2 ⊢
  have HK2 := hid (HK0.out.trans (.of_below hb2))
  clear hb2 HK0
  have HP2 := hid hp2
  have E6 := hid e6
  clear hW2 hp2 e6 HS1 HP E5 HLO HJ
  obtain ⟨x0, x1, x2, _, _, _⟩ := six_l E6.out
  obtain ⟨u0, u1, u2, v0, v1, v2⟩ := HP2.out.ly.at hp
  rw [HAE.out] at u0 u1 u2
  have m6 : W2.cell? ⟨b, 6, none⟩ = some (.slice (some ⟨gL, 0, none⟩) f.ins.length f.ins.length) := (cell_hp HP2.out.e 6).trans rfl
  have heq : ∀ V, (binOp .eql 187 (.agg #[.int .i64 (J.st : Nat), .string (kt J.sl), .string (kt J.sk)]) (.agg #[.int .i64 (a.st : Nat), .string (kt a.sl), .string (kt a.sk)])).run Tryz.prog V = .ok (.bool (decide (J = a))) V := fun V => by rw [eqLBin, HEQ.out]
  by_cases hja : J = a
  ·have hdd : decide (J = a) = true := by simpa using hja
   rw [hdd] at heq
   have HJA := hid hja
   clear hja hdd
   go_wp2_with fail
   go_quiet (fail)
   go_wp2_with fail
   exact bodyPost_ret (v := .tuple #[]) (by simp [results, Tryz.results100, go_sem]) rfl ⟨rfl, HK2.out.trans (.of_below (below_drewN (Below.refl _ _) _)), wv, .inl rfl, .inl ⟨HJA.out, HP2.out.next (below_drewN (Below.refl _ _) _)⟩⟩
  ·have hdd : decide (J = a) = false := by simpa using hja
   rw [hdd] at heq
   have HJA := hid hja
   clear hja hdd
   go_wp2_with fail
   go_quiet (fail)
   go_wp2_with fail
   go_region
   have HP3 := hid (fun n : Nat => (HP2.out.next (below_drewN (Below.refl _ _) n)).put hp J)
   have HP4 := hid (HP3.out (nq + 1))
   have HK4 : Hid (CK b gL wv.ownBlock W ((((W2.drewN (nq + 1)).setCell ⟨gL, p * 3, none⟩ (.int .i64 (J.st : Nat))).setCell ⟨gL, p * 3 + 1, none⟩ (.string (kt J.sl))).setCell ⟨gL, p * 3 + 2, none⟩ (.string (kt J.sk)))) := hid ((((HK2.out.trans (.of_below (below_drewN (Below.refl _ _) _))).trans (.set_g _ _ _)).trans (.set_g _ _ _)).trans (.set_g _ _ _))
   obtain ⟨W3, hW3⟩ : ∃ W', ((((W2.drewN (nq + 1)).setCell ⟨gL, p * 3, none⟩ (.int .i64 (J.st : Nat))).setCell ⟨gL, p * 3 + 1, none⟩ (.string (kt J.sl))).setCell ⟨gL, p * 3 + 2, none⟩ (.string (kt J.sk))) = W' := ⟨_, rfl⟩
   rw [hW3] at HP4 HK4 ⊢
   clear hW3 HP3 HP2 E6 x0 x1 x2 u0 u1 u2 v0 v1 v2 m6 heq
   obtain ⟨adw, cw, hwv⟩ := own_form HP4.out.own
   subst hwv
   have m7 : W3.cell? ⟨b, 7, none⟩ = some (.slice adw wk.length cw) := (cell_hp HP4.out.e 7).trans rfl
   have hnl := nums_length wk
   have HSB : Hid (Calls Tryz.prog 123 #[.slice adw wk.length cw, .int .i64 p, .func (.func 124) #[] #[]] W3 (BsEnd (nums wk) p W3)) := hid (search_any (IntRow.own (B := w.heap.size) (by rw [hnl]; exact HP4.out.own)) (fun q r hq hr => by rw [hnl] at hr; rw [nums_getD wk hr, nums_getD wk (by omega)]; have := desc_get HDD.out hq hr; omega) (fun q hq => by rw [hnl] at hq; rw [nums_getD wk hq]; have := wk_lt HWK.out hq; omega) (by omega) (by rw [hnl]; omega))
   clear hnl
   go_upto_region 5 with (go_at_call 123; refine HSB.out.mono ?_; rintro e W4 ⟨i, hil, he, h1, h2, hb4⟩; obtain ⟨F, hF⟩ : ∃ F, decide (i < (nums wk).length ∧ (nums wk).getD i 0 = (p : Int)) = F := ⟨_, rfl⟩; rw [hF] at he; have HFF := hid hF; clear hF; subst he; have HP5 := hid (HP4.out.next hb4); have HK5 := hid (HK4.out.trans (.of_below hb4)); have H1 := hid h1; have H2 := hid h2; clear h1 h2 hb4)
   rw [nums_length] at hil
   have HA1 : Hid (∀ q, q < i → p < wk.getD q 0) := hid fun q hq => by have := H1.out q hq; rw [nums_getD wk (by omega)] at this; omega
   have HA2 : Hid (∀ q, i ≤ q → q < wk.length → wk.getD q 0 ≤ p) := hid fun q h1 h2 => by have := H2.out q h1 (by rw [nums_length]; exact h2); rw [nums_getD wk h2] at this; omega
   clear HSB H1 H2 HP4 m7
   cases F with
   | true =>
    have hf : i < (nums wk).length ∧ (nums wk).getD i 0 = (p : Int) := by have := HFF.out; rw [decide_eq_true_iff] at this; exact this
    have hil2 : i < wk.length := by have := hf.1; rw [nums_length] at this; exact this
    have HIN : Hid (ins1 wk p = wk) := hid (ins1_in HDD.out HA1.out HA2.out hil2 (by have := hf.2; rw [nums_getD wk hil2] at this; omega))
    clear hf HFF
    go_wp2_with fail
    go_end0
    exact ⟨rfl, HK5.out, _, .inl rfl, .inr ⟨HJA.out, by rw [HIN.out]; exact HP5.out⟩⟩
   | false =>
    have hf : ¬ (i < (nums wk).length ∧ (nums wk).getD i 0 = (p : Int)) := by have := HFF.out; rw [decide_eq_false_iff_not] at this; exact this
    have HIN := hid (ins1_new HDD.out HA1.out HA2.out hil (fun h => hf ⟨by rw [nums_length]; exact h.1, by rw [nums_getD wk h.1, h.2]⟩))
    clear hf HFF
    have HAL : Hid (Below W4.heap.size W4 (W4.alloc (.cells #[.int .i64 (p : Int)] 3))) := hid ((Below.refl _ _).alloc (Nat.le_refl _) _)
    have HP6 := hid (HP5.out.next HAL.out)
    have m7 : W4.cell? ⟨b, 7, none⟩ = some (.slice adw wk.length cw) := (cell_hp HP5.out.e 7).trans rfl
    have HNE : Hid (some W4.heap.size ≠ (Value.slice adw wk.length cw).ownBlock) := hid fun e => by
     have := (HP5.out.own.lt _ e.symm).2
     omega
    have HINS : Hid (Calls Tryz.prog 125 #[.slice adw wk.length cw, .int .i64 i, .slice (some ⟨W4.heap.size, 0, none⟩) 1 1] (W4.alloc (.cells #[.int .i64 (p : Int)] 3)) fun e w' => ∃ v', e = .returned v' ∧ w'.ownsRow w.heap.size 3 1 v' (ins1 wk p).length ((nums (ins1 wk p)).map fun x => Value.int .i64 x) ∧ (W4.alloc (.cells #[.int .i64 (p : Int)] 3)).grownBy w' (Value.slice adw wk.length cw).ownBlock ∧ (v'.ownBlock = (Value.slice adw wk.length cw).ownBlock ∨ v'.ownBlock = some (W4.alloc (.cells #[.int .i64 (p : Int)] 3)).heap.size)) := hid (by
     have := insert_any (l := nums wk) (i := i) (x := p) (vb := W4.heap.size) (v := .slice adw wk.length cw) (B := w.heap.size) (W := W4.alloc (.cells #[.int .i64 (p : Int)] 3)) (by rw [nums_length]; exact HP6.out.own) (by rw [nums_length]; exact hil) (by rw [nums_length]; omega) (by have := HP6.out.lo.size; exact this) (heap_alloc_new _ _) HNE.out
     have hll : (nums wk).length + 1 = (ins1 wk p).length := by rw [← nums_length (ins1 wk p), HIN.out, insAt_length (by rw [nums_length]; exact hil)]
     rw [hll, ← HIN.out] at this
     exact this)
    go_wp2_with (go_at_call 125; refine HINS.out.mono ?_; rintro e W6 ⟨v', rfl, hov, hgv, hol⟩; have HK6 := hid ((HK5.out.trans (.of_below HAL.out)).trans (.of_grown hgv)); have HOL := hid hol; have HW := hid (HP6.out.work hgv hov); obtain ⟨ad9, c9, hv9⟩ := own_form hov; subst hv9; have kb : W6.heap[b]? = _ := (hgv.block b (lt_hp HP6.out.e) (own_neS HP6.out.own (by decide) HP6.out.e)).trans HP6.out.e; have kc := cell_hp kb 7; have kf := frozen_hp kb 7; clear hov hgv kb hol)
    go_end0
    refine ⟨rfl, HK6.out.trans (.set_b _ _ _), _, ?_, .inr ⟨HJA.out, HW.out⟩⟩
    rcases HOL.out with h | h
    ·exact .inl h
    ·exact .inr ⟨_, h, by have h1 := HK5.out.size; have h2 := HAL.out.size; omega⟩
end Go.Proofs.YtcjgcipacfcjnaaGreatDoor.C
