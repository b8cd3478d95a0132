import Derived.Test.YtfookokepnnmoaaDoorJDStep
namespace Go.Proofs.YtfookokepnnmoaaDoor
open Go.RowKit
set_option maxRecDepth 20000
theorem draw3 : DrawOk 3 877 2960 := by
  have h0 : DrawOk 0 1 20 := draw_low 0 1 20 (by omega) (by omega) (by omega)
  have h1 : DrawOk 1 13 160 := draw_step 1 1 20 (by omega) (by omega) (by omega) (by omega) (by omega) (by omega) h0
  have h2 : DrawOk 2 109 720 := draw_step 2 13 160 (by omega) (by omega) (by omega) (by omega) (by omega) (by omega) h1
  exact draw_step 3 109 720 (by omega) (by omega) (by omega) (by omega) (by omega) (by omega) h2
/-- A cell of its own that holds a value. -/
def VAt (W : World) (b : Nat) (s : Value) : Prop := W.heap[b]? = some (.cells #[s] 25 (0, 0))
theorem VAt.lt {W : World} {b : Nat} {s : Value} (h : VAt W b s) : b < W.heap.size := (Array.getElem?_eq_some_iff.1 h).1
theorem VAt.next {W W' : World} {b : Nat} {s : Value} (h : VAt W b s) (hb : Below W.heap.size W W') : VAt W' b s := (hb.block b h.lt).trans h
theorem VAt.sv {R : Nat} {W W' : World} {b : Nat} {s : Value} (h : VAt W b s) (hs : Sv (fun k => k = R) W W') (hb : b ≠ R) : VAt W' b s := (hs.block b h.lt hb).trans h
theorem VAt.cells {W : World} {b : Nat} {s : Value} (h : VAt W b s) : W.cell? ⟨b, 0, none⟩ = some s ∧ W.frozen? ⟨b, 0, none⟩ = false := ⟨cell_hp h 0, frozen_hp h 0⟩
theorem VAt.set {W : World} {b : Nat} {s : Value} (h : VAt W b s) (u : Value) : VAt (W.setCell ⟨b, 0, none⟩ u) b u := by
  have := set_at (i := 0) u h
  unfold VAt
  simpa using this
theorem VAt.other {W : World} {b c i : Nat} {s v : Value} (h : VAt W b s) (hb : b ≠ c) : VAt (W.setCell ⟨c, i, none⟩ v) b s := (Below.heap_setCell _ _ _ _ hb).trans h
theorem Inn.set {R p q b i : Nat} {w W : World} {v : Value} (h : Inn R w W p q) (hb : w.heap.size < b) : Inn R w (W.setCell ⟨b, i, none⟩ v) p q :=
  ⟨h.1.setCell (p := ⟨b, i, none⟩) (.inr (by show w.heap.size ≤ b; omega)) v, h.rd.set (by have := h.2.2.2.2; omega), (Below.heap_setCell _ _ _ _ (by show w.heap.size ≠ b; omega)).trans h.2.2.1, h.2.2.2⟩
theorem Sv.grow {R : Nat} {w W W2 : World} {row : Option Nat} (h : Sv (fun k => k = R) w W) (hg : W.grownBy W2 row) (hr : ∀ k, row = some k → w.heap.size ≤ k) : Sv (fun k => k = R) w W2 :=
  ⟨hg.os.trans h.os, hg.tape.trans h.tape, hg.output.trans h.output, Nat.le_trans h.size hg.size, fun k hk hs => (hg.block k (Nat.lt_of_lt_of_le hk h.size) (fun e => by have := hr k e.symm; omega)).trans (h.block k hk hs)⟩
theorem one_kids {R : Nat} {w : World} {s : Value} {l : List At} (hR : R < w.heap.size) (hv : ValIn R w s l) (hl : l ≠ []) : KidsIn R (w.alloc (.cells #[s] 25)) (some ⟨w.heap.size, 0, none⟩) [s] [l] := by
  refine ⟨rfl, .inr ⟨w.heap.size, 0, rfl, by simp, by omega, fun j u hu => ?_⟩, ?_⟩
  · have := one_cells w s j u hu
    rwa [add_none] at this
  · exact one_vals (hv.next ((Below.refl _ _).alloc (Nat.le_refl _) _)) hl
theorem AtOk.list {A m : Nat} {ls : List (List At)} (h : ∀ l ∈ ls, AtOk A l) (hm : ls.length ≤ m) (k : Int) (n B : Nat) (hn : n ≤ 1000) (hB : m * A + 1 ≤ B) : AtOk B (ls.flatten ++ [⟨k, 0, ⟨#[]⟩, n⟩]) :=
  (AtOk.flat h hm).snoc k 0 n ⟨#[]⟩ (by decide) (by omega) (by omega) hB
set_option maxHeartbeats 16000000 in
theorem l5Edge_any (R p : Nat) (w : World) (hp : p ≤ 700000000) (hr : Rd R w p) :
    Calls Tryd.prog 26 #[.pointer (some ⟨R, 0, none⟩)] w fun e w' => DrawEnd R 2000 2000 p w e w' := by
  have HR := hid hr
  obtain ⟨i0, hi, hz0, hz1, hz2⟩ := info_parts info_va
  have HHI := hid (And.intro hi (And.intro hz0 (And.intro hz1 hz2)))
  clear hr hi hz0 hz1 hz2
  go_enter Tryd.func26, Tryd.ntmps26
  go_wp2_with fail
  have HI0 := hid (Inn.start HR.out)
  refine (l5None_any _).mono ?_
  rintro e w1 hq1
  obtain ⟨s1, rfl, hv1, hb1⟩ := OneMade.val (R := R) hq1 HI0.out.rd.lt
  have HV1 := hid hv1
  have HI1 := hid (HI0.out.next hb1)
  obtain ⟨g1, o1, N1, c1, rfl, _⟩ := hv1
  clear hq1 hb1
  go_wp2_with fail
  have HA1 := hid ((Below.refl w1.heap.size w1).alloc (Nat.le_refl _) (.cells #[.slice (some ⟨g1, o1, none⟩) N1 c1] 25))
  have HI1a := hid (HI1.out.next HA1.out)
  have HC1 : Hid (VAt (w1.alloc (.cells #[.slice (some ⟨g1, o1, none⟩) N1 c1] 25)) w1.heap.size (.slice (some ⟨g1, o1, none⟩) N1 c1)) := heap_alloc_new w1 _
  have HV1a := hid (HV1.out.next HA1.out)
  have hbv := HI1.out.lt
  have hbR : w1.heap.size ≠ R := by have := HI1.out.rd.lt; omega
  refine (pick_any R p 3 _ (by omega) (by omega) HI1a.out.rd).mono ?_
  rintro e w2 ⟨⟨z2, rfl, hz2⟩, hr2, hs2⟩
  have HI2 := hid (HI1a.out.drew hs2 hr2 (by omega))
  have HC2 := hid (HC1.out.sv hs2 hbR)
  have HV2 := hid (HV1a.out.sv hs2)
  clear hr2 hs2 HC1 HV1a HA1
  obtain rfl | rfl | rfl : z2 = 0 ∨ z2 = 1 ∨ z2 = 2 := by omega
  · go_wp2_with fail
    refine (pick_any R (p + 1) 2 _ (by omega) (by omega) HI2.out.rd).mono ?_
    rintro e w3 ⟨⟨z3, rfl, hz3⟩, hr3, hs3⟩
    have HI3 := hid (HI2.out.drew hs3 hr3 (by omega))
    have HC3 := hid (HC2.out.sv hs3 hbR)
    have HV3 := hid (HV2.out.sv hs3)
    clear hr3 hs3
    go_wp2_with fail
    go_loopw [4] (fun i wr => ∃ (k : Nat) (s : Value) (l : List At), i = .int .i64 k ∧ k ≤ 13 ∧ VAt wr w1.heap.size s ∧ ValIn R wr s l ∧ l ≠ [] ∧ AtOk (14 - k) l ∧ Inn R w wr p (p + 1 + 1)) (fun i _ => (intOf i).toNat)
    case atStart => exact ⟨12 + z3, _, _, by go_num, by omega, HC3.out, HV3.out, by simp, (AtOk.one _ _ _ _ (by decide) (by omega) (by omega)).mono (by omega), HI3.out⟩
    case round =>
      obtain ⟨k, s, l, rfl, hk, hc, hv, hl, ha, hin⟩ := hrel
      have HC := hid hc
      have HV := hid hv
      have HA := hid ha
      have HIN := hid hin
      obtain ⟨t1, t2⟩ := hc.cells
      obtain ⟨g, o, N, c, rfl, _⟩ := hv
      clear hc ha hin
      by_cases hk0 : 0 < k
      · go_wp2_with fail
        have HKI := hid (one_kids HIN.out.rd.lt HV.out hl)
        have HAW := hid ((Below.refl wr.heap.size wr).alloc (Nat.le_refl _) (.cells #[.slice (some ⟨g, o, none⟩) N c] 25))
        have hll := HA.out.1
        refine (l5Make_any R 5 _ 1 1 _ _ _ (HIN.out.next HAW.out).rd.lt rfl (by omega) HKI.out (by simp; omega)).mono ?_
        rintro e w6 ⟨s6, rfl, hv6, hb6⟩
        have HB6 := hid (HAW.out.trans (hb6.mono HAW.out.size))
        have HI6 := hid (HIN.out.next HB6.out)
        have HC6 := hid (HC.out.next HB6.out)
        have HV6 := hid hv6
        obtain ⟨u1, u2⟩ := HC6.out.cells
        obtain ⟨g6, o6, N6, c6, rfl, _⟩ := hv6
        clear hb6 t1 t2
        go_wp2
        go_roundw
        case rel => exact ⟨k - 1, _, _, by go_num, by omega, HC6.out.set _, HV6.out.set HC6.out, by simp, AtOk.list (A := 14 - k) (m := 1) (by intro l' hl'; simp at hl'; subst hl'; exact HA.out) (by simp) 5 1 _ (by omega) (by omega), HI6.out.set hbv⟩
        case measure => simp [intOf]; omega
      · obtain ⟨y1, y2⟩ := HIN.out.cells
        go_wp2
        exact bodyPost_ret (v := .agg #[.slice (some ⟨g, o, none⟩) N c]) (by simp [results, Tryd.results26, go_sem, y1]) rfl (HIN.out.fin HV.out hl (HA.out.mono (by omega)) (by omega))
  · go_wp2_with fail
    have HLW := hid ((Below.refl w2.heap.size w2).alloc (Nat.le_refl _) (.cells #[] 25))
    have HIL := hid (HI2.out.next HLW.out)
    have HK2 := hid (OwnK.lit R (w.heap.size + 1) w2 HI2.out.lt)
    refine (pick_any R (p + 1) 3 _ (by omega) (by omega) HIL.out.rd).mono ?_
    rintro e w3 ⟨⟨z3, rfl, hz3⟩, hr3, hs3⟩
    have HI3 := hid (HIL.out.drew hs3 hr3 (by omega))
    have HK3 := hid (HK2.out.sv hs3 (by have := HR.out.lt; omega))
    have hz3' : z3 ≤ 2 := by omega
    clear hr3 hs3 HK2
    go_wp2_with fail
    go_loopw [5, 6] (fun kv i wr => ∃ (k : Nat) (xs : List Value) (ls : List (List At)), i = .int .i64 k ∧ k ≤ 201 ∧ OwnK R (w.heap.size + 1) wr kv xs ls ∧ xs.length + k ≤ 201 ∧ (∀ l ∈ ls, AtOk 1 l) ∧ Inn R w wr p (p + 1 + 1)) (fun _ i _ => (intOf i).toNat)
    case atStart => exact ⟨199 + z3, [], [], by go_num, by omega, HK3.out, by simp; omega, by simp, HI3.out⟩
    case round =>
      obtain ⟨k, xs, ls, rfl, hk, hok, hxl, hal, hin⟩ := hrel
      have HOK := hid hok
      have HAL := hid hal
      have HIN := hid hin
      clear hok hal hin
      by_cases hk0 : 0 < k
      · go_wp2_with fail
        refine (l5Int_any _ _).mono ?_
        rintro e w5 hq5
        obtain ⟨s5, rfl, hv5, hb5⟩ := OneMade.val (R := R) hq5 HIN.out.rd.lt
        have HV5 := hid hv5
        have HI5 := hid (HIN.out.next hb5)
        have HK5 := hid (HOK.out.next hb5)
        obtain ⟨g5, o5, N5, c5, rfl, _⟩ := hv5
        have HA5 := hid ((Below.refl w5.heap.size w5).alloc (Nat.le_refl _) (.cells #[.slice (some ⟨g5, o5, none⟩) N5 c5] 25))
        have HOA := hid (HK5.out.1.alloc (.cells #[.slice (some ⟨g5, o5, none⟩) N5 c5] 25))
        have HCA := hid (one_cells w5 (.slice (some ⟨g5, o5, none⟩) N5 c5))
        have hz9 := HI5.out.lt
        clear hq5 hb5
        go_wp2_with (at_builtin; refine wpList_append_own_at _ rfl (.tmp 37) (.tmp 41) 81 rfl (w.heap.size + 1) 25 i0 (.agg #[.slice none 0 0]) 1 24 Tryd.underlying81 HHI.out.1 HHI.out.2.1 HHI.out.2.2.1 HHI.out.2.2.2 rfl (by decide) u5 xs.length xs rfl HOA.out ⟨w5.heap.size, 0, none⟩ 1 1 [.slice (some ⟨g5, o5, none⟩) N5 c5] rfl rfl HCA.out (by simp [Value.oneCell']) (by unfold maxLen; omega) (by omega) (by simp; omega) ?_; intro v' w' h2 h3 h4 h5; have HM := hid (OwnK.more (HK5.out.next HA5.out) h2 (by simp) h3 rfl (one_vals (HV5.out.next HA5.out) (by simp))); have HIW := hid (HI5.out.app HA5.out h3 (own_bl HK5.out.1)); clear h2 h3 h4 h5)
        go_roundw
        case rel => exact ⟨k - 1, _, _, by go_num, by omega, HM.out, by simp; omega, by intro l hl; simp only [List.mem_append, List.mem_cons, List.not_mem_nil, or_false] at hl; rcases hl with hl | rfl; exact HAL.out l hl; exact AtOk.one _ _ _ _ (by decide) (by omega) (by omega), HIW.out⟩
        case measure => simp [intOf]; omega
      · obtain ⟨ad, ck, rfl, hkin⟩ := HOK.out.kids (by have := HR.out.lt; omega)
        have HKI := hid hkin
        have hfl := hid (AtOk.flat HAL.out (m := 201) (by rw [← HOK.out.2.1]; omega))
        have hfl1 := hfl.out.1
        obtain ⟨nx, hnx⟩ : ∃ nx, xs.length = nx := ⟨_, rfl⟩
        rw [hnx] at hxl ⊢
        have HNX := hid hnx
        clear hkin hnx
        go_wp2_with fail
        refine (l5Make_any R 5 ad nx ck xs ls _ HIN.out.rd.lt HNX.out (by omega) HKI.out (by omega)).mono ?_
        rintro e w6 ⟨s6, rfl, hv6, hb6⟩
        have HV6 := hid hv6
        have HI6 := hid (HIN.out.next hb6)
        obtain ⟨t1, t2⟩ := HI6.out.cells
        obtain ⟨g6, o6, N6, c6, rfl, _⟩ := hv6
        clear hb6
        go_wp2
        exact bodyPost_ret (v := .agg #[.slice (some ⟨g6, o6, none⟩) N6 c6]) (by simp [results, Tryd.results26, go_sem, t1]) rfl (HI6.out.fin HV6.out (by simp) (hfl.out.snoc _ _ _ _ (by decide) (by omega) (by omega) (by omega)) (by omega))
  · go_wp2_with fail
    have HLW := hid ((Below.refl w2.heap.size w2).alloc (Nat.le_refl _) (.cells #[] 25))
    have HIL := hid (HI2.out.next HLW.out)
    have HK2 := hid (OwnK.lit R (w.heap.size + 1) w2 HI2.out.lt)
    have hRw := HR.out.lt
    go_loopw [7, 8] (fun kv i wr => ∃ (j q : Nat) (xs : List Value) (ls : List (List At)), i = .int .i64 j ∧ j ≤ 5 ∧ OwnK R (w.heap.size + 1) wr kv xs ls ∧ xs.length = j ∧ (∀ l ∈ ls, AtOk 201 l) ∧ Inn R w wr p q ∧ q ≤ p + 1 + j * 202) (fun _ i _ => 5 - (intOf i).toNat)
    case atStart => exact ⟨0, p + 1, [], [], rfl, by omega, HK2.out, rfl, by simp, HIL.out, by omega⟩
    case round =>
      obtain ⟨j, q, xs, ls, rfl, hj, hok, hxl, hal, hin, hq⟩ := hrel
      have HOK := hid hok
      have HAL := hid hal
      have HIN := hid hin
      have hx5 : xs.length ≤ 5 := by omega
      have HXL := hid hxl
      clear hok hal hin hxl
      by_cases hlt : j < 5
      · obtain ⟨m, hm, hm1⟩ : ∃ m : Nat, (j : Int) / 4 = (m : Int) ∧ m ≤ 1 := ⟨j / 4, by omega, by omega⟩
        have hlti : (j : Int) < 5 := by omega
        go_wp2_with fail
        have HKi := hid (OwnK.lit R wr.heap.size wr (Nat.le_refl _))
        have HAi := hid ((Below.refl wr.heap.size wr).alloc (Nat.le_refl _) (.cells #[] 25))
        have HIi := hid (HIN.out.next HAi.out)
        have hRr := HIN.out.rd.lt
        have hwr := HIN.out.lt
        go_loopw [9, 10] (fun iv i wi => ∃ (k : Nat) (ys : List Value) (ms : List (List At)), i = .int .i64 k ∧ k ≤ 200 ∧ OwnK R wr.heap.size wi iv ys ms ∧ ys.length = k ∧ (∀ l ∈ ms, AtOk 1 l) ∧ Inn R w wi p (q + k) ∧ Sv (fun k => k = R) wr wi) (fun _ i _ => 201 - (intOf i).toNat)
        case atStart => exact ⟨0, [], [], rfl, by omega, HKi.out, rfl, by simp, HIi.out, Sv.of_below HAi.out⟩
        case round =>
          obtain ⟨k, ys, ms, rfl, hk, hok2, hyl, hal2, hin2, hsv2⟩ := hrel
          have HOK2 := hid hok2
          have HAL2 := hid hal2
          have HIN2 := hid hin2
          have HSV2 := hid hsv2
          have hy5 : ys.length ≤ 200 := by omega
          have HYL := hid hyl
          clear hok2 hal2 hin2 hsv2 hyl
          go_wp2_with fail
          refine (pick_any R (q + k) 3 _ (by omega) (by omega) HIN2.out.rd).mono ?_
          rintro e w3 ⟨⟨z3, rfl, hz3⟩, hr3, hs3⟩
          have HI3 := hid (HIN2.out.drew hs3 hr3 (by omega))
          have HK3 := hid (HOK2.out.sv hs3 hRr)
          have HS3 := hid (HSV2.out.trans hs3)
          clear hr3 hs3
          have hz3' : z3 ≤ 2 := by omega
          obtain ⟨mm, hmm, hmm2⟩ : ∃ mm : Nat, (z3 : Int) * (m : Int) = (mm : Int) ∧ mm ≤ 2 := by
            rcases (show m = 0 ∨ m = 1 by omega) with h | h
            · exact ⟨0, by rw [h]; simp, by omega⟩
            · exact ⟨z3, by rw [h]; simp, hz3'⟩
          by_cases hk0 : k < 198 + mm
          · have hk0' : (k : Int) < 198 + (mm : Int) := by omega
            go_wp2_with fail
            refine (l5None_any _).mono ?_
            rintro e w5 hq5
            obtain ⟨s5, rfl, hv5, hb5⟩ := OneMade.val (R := R) hq5 HI3.out.rd.lt
            have HV5 := hid hv5
            have HI5 := hid (HI3.out.next hb5)
            have HK5 := hid (HK3.out.next hb5)
            have HS5 := hid (HS3.out.trans (Sv.of_below hb5))
            obtain ⟨g5, o5, N5, c5, rfl, _⟩ := hv5
            have HA5 := hid ((Below.refl w5.heap.size w5).alloc (Nat.le_refl _) (.cells #[.slice (some ⟨g5, o5, none⟩) N5 c5] 25))
            have HOA := hid (HK5.out.1.alloc (.cells #[.slice (some ⟨g5, o5, none⟩) N5 c5] 25))
            have HCA := hid (one_cells w5 (.slice (some ⟨g5, o5, none⟩) N5 c5))
            have hz9 := HS5.out.size
            clear hq5 hb5
            go_wp2_with (at_builtin; refine wpList_append_own_at _ rfl (.tmp 61) (.tmp 63) 81 rfl _ 25 i0 (.agg #[.slice none 0 0]) 1 24 Tryd.underlying81 HHI.out.1 HHI.out.2.1 HHI.out.2.2.1 HHI.out.2.2.2 rfl (by decide) u9 ys.length ys rfl HOA.out ⟨w5.heap.size, 0, none⟩ 1 1 [.slice (some ⟨g5, o5, none⟩) N5 c5] rfl rfl HCA.out (by simp [Value.oneCell']) (by unfold maxLen; omega) (by omega) (by simp; omega) ?_; intro v' w' h2 h3 h4 h5; have HM := hid (OwnK.more (HK5.out.next HA5.out) h2 (by simp) h3 rfl (one_vals (HV5.out.next HA5.out) (by simp))); have HIW := hid (HI5.out.app HA5.out h3 (fun k e => by have := own_bl HK5.out.1 k e; omega)); have HSW := hid ((HS5.out.trans (Sv.of_below HA5.out)).grow h3 (own_bl HK5.out.1)); clear h2 h3 h4 h5)
            go_roundw
            case rel => exact ⟨k + 1, _, _, by go_num, by omega, HM.out, by have := HYL.out; simp; omega, by intro l hl; simp only [List.mem_append, List.mem_cons, List.not_mem_nil, or_false] at hl; rcases hl with hl | rfl; exact HAL2.out l hl; exact AtOk.one _ _ _ _ (by decide) (by omega) (by omega), HIW.out, HSW.out⟩
            case measure => simp [intOf]; omega
          · have hk0' : ¬ (k : Int) < 198 + (mm : Int) := by omega
            obtain ⟨ad, ck, rfl, hkin⟩ := HK3.out.kids hRr
            have HKI := hid hkin
            have hfl := hid (AtOk.flat HAL2.out (m := 200) (by rw [← HK3.out.2.1]; omega))
            have hfl1 := hfl.out.1
            clear hkin
            rw [HYL.out]
            go_wp2_with fail
            refine (l5Make_any R 5 ad k ck ys ms _ HI3.out.rd.lt HYL.out (by omega) HKI.out (by omega)).mono ?_
            rintro e w6 ⟨s6, rfl, hv6, hb6⟩
            have HV6 := hid hv6
            have HI6 := hid (HI3.out.next hb6)
            have HK6 := hid ((HOK.out.sv HS3.out (by omega)).next hb6)
            obtain ⟨g6, o6, N6, c6, rfl, _⟩ := hv6
            have HA6 := hid ((Below.refl w6.heap.size w6).alloc (Nat.le_refl _) (.cells #[.slice (some ⟨g6, o6, none⟩) N6 c6] 25))
            have HOA := hid (HK6.out.1.alloc (.cells #[.slice (some ⟨g6, o6, none⟩) N6 c6] 25))
            have HCA := hid (one_cells w6 (.slice (some ⟨g6, o6, none⟩) N6 c6))
            have hz9 := HI6.out.lt
            have HOKL : Hid (AtOk 201 (ms.flatten ++ [⟨5, 0, ⟨#[]⟩, k⟩])) := hfl.out.snoc _ _ _ _ (by decide) (by omega) (by omega) (by omega)
            clear hb6
            go_wp2_with (at_builtin; refine wpList_append_own_at _ rfl (.tmp 65) (.tmp 68) 81 rfl (w.heap.size + 1) 25 i0 (.agg #[.slice none 0 0]) 1 24 Tryd.underlying81 HHI.out.1 HHI.out.2.1 HHI.out.2.2.1 HHI.out.2.2.2 rfl (by decide) u7 xs.length xs rfl HOA.out ⟨w6.heap.size, 0, none⟩ 1 1 [.slice (some ⟨g6, o6, none⟩) N6 c6] rfl rfl HCA.out (by simp [Value.oneCell']) (by unfold maxLen; omega) (by omega) (by simp; omega) ?_; intro v' w' h2 h3 h4 h5; have HM := hid (OwnK.more (HK6.out.next HA6.out) h2 (by simp) h3 rfl (one_vals (HV6.out.next HA6.out) (by simp))); have HIW := hid (HI6.out.app HA6.out h3 (own_bl HK6.out.1)); clear h2 h3 h4 h5)
            go_roundw
            case rel => exact ⟨j + 1, _, _, _, by go_num, by omega, HM.out, by have := HXL.out; simp; omega, by intro l hl; simp only [List.mem_append, List.mem_cons, List.not_mem_nil, or_false] at hl; rcases hl with hl | rfl; exact HAL.out l hl; exact HOKL.out, HIW.out, by omega⟩
            case measure => simp [intOf]; omega
      · obtain ⟨ad, ck, rfl, hkin⟩ := HOK.out.kids (by omega)
        have HKI := hid hkin
        have hfl := hid (AtOk.flat HAL.out (m := 5) (by rw [← HOK.out.2.1]; omega))
        have hfl1 := hfl.out.1
        clear hkin
        rw [HXL.out]
        go_wp2_with fail
        refine (l5Make_any R 5 ad j ck xs ls _ HIN.out.rd.lt HXL.out (by omega) HKI.out (by omega)).mono ?_
        rintro e w6 ⟨s6, rfl, hv6, hb6⟩
        have HV6 := hid hv6
        have HI6 := hid (HIN.out.next hb6)
        obtain ⟨t1, t2⟩ := HI6.out.cells
        obtain ⟨g6, o6, N6, c6, rfl, _⟩ := hv6
        clear hb6
        go_wp2
        exact bodyPost_ret (v := .agg #[.slice (some ⟨g6, o6, none⟩) N6 c6]) (by simp [results, Tryd.results26, go_sem, t1]) rfl (HI6.out.fin HV6.out (by simp) (hfl.out.snoc _ _ _ _ (by decide) (by omega) (by omega) (by omega)) (by omega))
end Go.Proofs.YtfookokepnnmoaaDoor
