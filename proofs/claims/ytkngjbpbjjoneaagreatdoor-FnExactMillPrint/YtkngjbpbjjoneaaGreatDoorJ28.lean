import Derived.Deep.RegionHeld3
import Derived.Test.YtkngjbpbjjoneaaGreatDoorJ07
import Derived.Test.YtkngjbpbjjoneaaGreatDoorJ22
import Derived.Test.YtkngjbpbjjoneaaGreatDoorJ04
import Derived.Test.YtkngjbpbjjoneaaGreatDoorJ12
/-! Printed by gen_sp.py. -/
namespace Go.Proofs.YtkngjbpbjjoneaaGreatDoor.Q
open Go.RowKit Go.Shelf
set_option maxRecDepth 20000
/-- The kinds of kids, as a row. -/
def kindRow (nd : Nat → Nd) (ks : List Nat) : List Value := ks.map fun k => Value.int .i64 (nd k).kind
theorem kindRow_length (nd : Nat → Nd) (ks : List Nat) : (kindRow nd ks).length = ks.length := by simp [kindRow]
theorem kindRow_take (nd : Nat → Nd) (ks : List Nat) (q : Nat) (hq : q < ks.length) : kindRow nd (ks.take (q + 1)) = kindRow nd (ks.take q) ++ [.int .i64 (nd ks[q]).kind] := by
  rw [List.take_succ_eq_append_getElem hq]; unfold kindRow; rw [List.map_append]; rfl
theorem RowAt.kinds {W : World} {g c : Nat} {nd : Nat → Nd} {ks : List Nat} (h : RowAt W 3 g c ks.length (kindRow nd ks)) : IntsAt W g ks.length (fun i => (nd (ks.getD i 0)).kind) := fun i hi => by
  rw [h.cell i hi]
  simp [kindRow, hi]
/-- The cells that the model's last test reads. -/
def Seven (W : World) (a b j : Nat) (x : Nd) (v : Value) : Prop := W.cell? ⟨a, 0, none⟩ = some v ∧ NodeAt W b j x
/-- What the outer loop of the model holds behind j nodes. -/
def SInv (nd : Nat → Nd) (O : List (List Nat)) (B : Nat) (W1 W : World) (j : Nat) (vh : Value) : Prop := ∃ g c, vh = .slice (some ⟨g, 0, none⟩) j c ∧ B ≤ g ∧ RowAt W 3 g c j (intRow (highs (O.take j))) ∧ (∀ x, x < j → (highs O).getD x 0 ≤ 60 ∧ FitAt nd O x) ∧ Below B W1 W
theorem SInv_step {nd : Nat → Nd} {O : List (List Nat)} {B : Nat} {W1 W : World} {j : Nat} {ks : List Nat} {v : Value} (hO : j < O.length) (hks : O.getD j [] = ks) (hnn : ¬ v = .slice none 0 0)
    (hown : W.ownsRow B 3 1 v (j + 1) (intRow (highs (O.take j)) ++ [.int .i64 (upK (kidHighs (highs (O.take j)) ks) : Nat)])) (hfit : ∀ x, x < j → (highs O).getD x 0 ≤ 60 ∧ FitAt nd O x)
    (h50 : upK (kidHighs (highs (O.take j)) ks) ≤ 60) (hP : PlainNd (nd j)) (hK : KidsOk (nd j) ks.length (fun i => (nd (ks.getD i 0)).kind)) (hb : Below B W1 W) : SInv nd O B W1 W (j + 1) v := by
  obtain ⟨g, c, rfl, hB, hr⟩ := RowAt.of_own hown hnn
  have e : highs (O.take (j + 1)) = highs (O.take j) ++ [upK (kidHighs (highs (O.take j)) ks)] := by rw [highs_take O j hO, hks]
  refine ⟨g, c, rfl, hB, ?_, ?_, hb⟩
  · rw [e, intRow_append]; exact hr
  · intro x hx
    rcases Nat.lt_or_eq_of_le (Nat.lt_succ_iff.1 hx) with h | h
    · exact hfit x h
    · subst h
      refine ⟨?_, ?_⟩
      · rw [← highs_pre O (x + 1) x (by omega) (by omega), e, List.getD_eq_getElem?_getD, List.getElem?_append_right (by rw [highs_length, List.length_take]; omega)]
        rw [highs_length, List.length_take, Nat.min_eq_left (by omega), Nat.sub_self]
        simpa using h50
      · unfold FitAt
        rw [hks]
        exact ⟨hP, hK⟩
theorem spec_bad {nd : Nat → Nd} {N j : Nat} {O : List (List Nat)} {x : Nat} {ks : List Nat} (h : kidsF nd N = some (O, [x])) (hj : j < N) (hks : O.getD j [] = ks) (hb : ¬ (upK (kidHighs (highs (O.take j)) ks) ≤ 60 ∧ PlainNd (nd j) ∧ KidsOk (nd j) ks.length (fun i => (nd (ks.getD i 0)).kind))) : ¬ ValidT nd N := by
  rintro ⟨_, _, _, O2, x2, h4, h5⟩
  rw [h] at h4
  cases h4
  have hO := (kidsF_len nd _ _ _ h).1
  obtain ⟨f1, f2⟩ := h5 j hj
  unfold FitAt at f2
  rw [hks] at f2
  refine hb ⟨?_, f2.1, f2.2⟩
  rw [← highs_pre O (j + 1) j (by omega) (by omega), highs_take O j (by omega), List.getD_eq_getElem?_getD, List.getElem?_append_right (by rw [highs_length, List.length_take]; omega)] at f1
  rw [highs_length, List.length_take, Nat.min_eq_left (by omega), Nat.sub_self, hks] at f1
  simpa using f1
set_option maxHeartbeats 4000000 in
theorem specValid_any (b N cap : Nat) (nd : Nat → Nd) (w : World) (hN1 : 1 ≤ N) (hN : N ≤ 12001) (hb : b < w.heap.size) (hn : NodesAt w b N nd) (hx : ∀ i, i < N → (nd i).text.size ≤ maxLen) :
    Calls Tryz.prog 10 #[.agg #[.slice (some ⟨b, 0, none⟩) N cap]] w fun e w' => Says e (ValidT nd N) ∧ Below w.heap.size w w' := by
  have HX := hid hx
  have HBT := hid ((Below.refl w.heap.size w).alloc (Nat.le_refl _) (.cells #[.slice (some ⟨b, 0, none⟩) N cap] 29))
  have HNT := hid (hn.below HBT.out hb)
  have HN := hid hn
  have hb0 := hb
  clear hn hx
  go_enter Tryz.func10, Tryz.ntmps10
  go_wp2_with (go_at_call 11; refine (l11Kids_any b N cap nd _ hN1 hN (by simp; omega) HNT.out).mono ?_; rintro e w1 ⟨hb1, ⟨v, rfl, hno⟩ | ⟨L, x, go, co, rfl, hkf, hrow, hgo, hall⟩⟩)
  · have HF : Hid (¬ ValidT nd N) := fun ⟨_, _, _, O, x, h4, _⟩ => hno O x h4
    clear hno
    go_ret
    exact ⟨says_f HF.out, HBT.out.trans (hb1.mono (by simp))⟩
  · have HKF := hid hkf
    have HROW := hid hrow
    have HALL := hid hall
    have hLl : L.length = N := by have := (kidsF_len nd _ _ _ hkf).1; rwa [List.length_map] at this
    have hgo1 := hrow.lt
    have hw1 : w.heap.size + 1 ≤ w1.heap.size := by have := hb1.size; simpa using this
    obtain ⟨O, hO⟩ : ∃ O, L.map (fun x => x.2.2) = O := ⟨_, rfl⟩
    rw [hO] at HKF
    have HO := hid hO
    have hOl : O.length = N := by rw [← hO, List.length_map]; exact hLl
    obtain ⟨i0, hi, hz0, hz1, hz2⟩ := info_parts info_int
    have HHI := hid (And.intro hi (And.intro hz0 (And.intro hz1 hz2)))
    have HBB := hid (HBT.out.trans (hb1.mono (B' := w.heap.size) (by simp)))
    have HTC := hid (tree_cell (w := w) (wr := w1) (by simpa using hb1))
    have HLL := hid hLl
    have HOL := hid hOl
    have hLs : (L.length : Int) = N := by omega
    clear hkf hrow hall hb1 hgo hO hi hz0 hz1 hz2 hOl
    rw [hLl]
    clear hLl hLs
    go_loopw [5, 6] (fun vh i wr => ∃ j : Nat, j ≤ N ∧ i = .int .i64 j ∧ SInv nd O w1.heap.size w1 wr j vh) (fun _ i _ => N - (intOf i).toNat)
    case atStart =>
      refine ⟨0, Nat.zero_le _, rfl, w1.heap.size, 0, rfl, Nat.le_refl _, ?_, fun x h => absurd h (Nat.not_lt_zero _), (Below.refl _ _).alloc (Nat.le_refl _) _⟩
      exact ⟨rfl, Nat.le_refl _, by unfold maxLen; omega, #[], heap_alloc_new w1 _, rfl, rfl⟩
    case round =>
      rename World => wo
      obtain ⟨j, hj, rfl, gh, c, rfl, hBg, hrh, hfit, hbw⟩ := hrel
      have HRH := hid hrh
      have HFIT := hid hfit
      have HBW := hid hbw
      have hghl := hrh.lt
      have hwo := hbw.size
      clear hrh hfit hbw
      have HBE : Hid (∀ W, Below w1.heap.size w1 W → Below w.heap.size w W) := fun W hb => HBB.out.trans (hb.mono (by omega))
      have HTW : Hid (∀ W, Below w1.heap.size w1 W → W.cell? ⟨w.heap.size, 0, none⟩ = some (.slice (some ⟨b, 0, none⟩) N cap)) := fun W hb => (hb.cell (p := ⟨w.heap.size, 0, none⟩) hw1).trans HTC.out
      by_cases hlt : j < N
      · have hjL : j < L.length := by have := HLL.out; omega
        obtain ⟨⟨gk, ck, ks⟩, hLj⟩ : ∃ y, L[j]? = some y := ⟨L[j], List.getElem?_eq_getElem hjL⟩
        have hmem : (gk, ck, ks) ∈ L := List.mem_of_getElem? hLj
        obtain ⟨hgk0, hrk⟩ := HALL.out _ hmem
        have hgk1 := hrk.lt
        have HKS : Hid (O.getD j [] = ks) := by
          show _ = _
          rw [← HO.out, List.getD_eq_getElem?_getD, List.getElem?_map, hLj]; rfl
        have HLT := hid (kids_lt HKF.out j hlt)
        rw [HKS.out] at HLT
        have HG : Hid ((gridRow L)[j]? = some (.slice (some ⟨gk, 0, none⟩) ks.length ck)) := by
          show _ = _
          simp [gridRow, hLj]
        have hksl : ks.length ≤ 12001 := by have := kids_len_le HKF.out j hlt; rw [HKS.out] at this; omega
        have HC1 : Hid (∀ W, Below wo.heap.size wo W → W.cell? ⟨go, j, none⟩ = some (.slice (some ⟨gk, 0, none⟩) ks.length ck)) := fun W hb => by
          have hbb := HBW.out.trans (hb.mono hwo)
          rw [hbb.cell (p := ⟨go, j, none⟩) hgo1, HROW.out.cell j hjL]
          exact HG.out
        have HCQ : Hid (∀ q (hq : q < ks.length), ∀ W, Below wo.heap.size wo W → W.cell? ⟨go, j, none⟩ = some (.slice (some ⟨gk, 0, none⟩) ks.length ck) ∧ W.cell? ⟨gk, q, none⟩ = some (.int .i64 (ks[q] : Nat)) ∧ W.cell? ⟨w.heap.size, 0, none⟩ = some (.slice (some ⟨b, 0, none⟩) N cap) ∧ W.cell? ⟨b, ks[q] * 6, none⟩ = some (.int .i64 (nd ks[q]).kind) ∧ W.cell? ⟨gh, ks[q], none⟩ = some (.int .i64 ((highs (O.take j)).getD ks[q] 0 : Nat))) := fun q hq W hb => by
          have hbb := HBW.out.trans (hb.mono hwo)
          have hyj : ks[q] < j := HLT.out _ (List.getElem_mem hq)
          refine ⟨HC1.out W hb, ?_, HTW.out W hbb, ?_, ?_⟩
          · rw [hbb.cell (p := ⟨gk, q, none⟩) hgk1, hrk.cell q hq]
            simp [intRow, hq]
          · exact ((HN.out.below (HBE.out W hbb) hb0) ks[q] (by omega)).1
          · have hl : (highs (O.take j)).length = j := by rw [highs_length, List.length_take]; have := HOL.out; omega
            rw [hb.cell (p := ⟨gh, ks[q], none⟩) hghl, HRH.out.cell ks[q] hyj]
            simp [intRow, hl, hyj]
        have HUB : Hid (∀ q, upK ((kidHighs (highs (O.take j)) ks).take q) ≤ 12002) := fun q => upK_bound _ 12001 (fun x hx => by
          obtain ⟨y, _, rfl⟩ := List.mem_map.1 (List.mem_of_mem_take hx)
          have := highs_le (O.take j) y
          rw [List.length_take] at this
          show (highs (O.take j)).getD y 0 ≤ 12001
          omega)
        clear hrk hmem hLj
        have c0 := HC1.out _ ((Below.refl wo.heap.size wo).alloc (Nat.le_refl _) (.cells #[] 3))
        go_wp2
        go_loopw [7, 8, 9] (fun vk h i wr => ∃ (q gq cq : Nat), q ≤ ks.length ∧ i = .int .i64 q ∧ h = .int .i64 (upK ((kidHighs (highs (O.take j)) ks).take q) : Nat) ∧ vk = .slice (some ⟨gq, 0, none⟩) q cq ∧ wo.heap.size ≤ gq ∧ RowAt wr 3 gq cq q (kindRow nd (ks.take q)) ∧ Below wo.heap.size wo wr) (fun _ _ i _ => ks.length - (intOf i).toNat)
        case atStart =>
          refine ⟨0, wo.heap.size, 0, Nat.zero_le _, rfl, rfl, rfl, Nat.le_refl _, ?_, (Below.refl _ _).alloc (Nat.le_refl _) _⟩
          exact ⟨rfl, Nat.le_refl _, by unfold maxLen; omega, #[], heap_alloc_new wo _, rfl, rfl⟩
        case round =>
          clear c0
          obtain ⟨q, gq, cq, hq, rfl, rfl, rfl, hBq, hrq, hbi⟩ := hrel
          have HRQ := hid hrq
          have HBI := hid hbi
          have hgql := hrq.lt
          have c0 := HC1.out _ hbi
          clear hrq hbi
          by_cases hql : q < ks.length
          · obtain ⟨d1, d2, d3, d4, d5⟩ := HCQ.out q hql _ HBI.out
            have HCS := hid (HCQ.out q hql)
            have hyj : ks[q] < j := HLT.out _ (List.getElem_mem hql)
            have hyN : (ks[q] : Int) < (N : Int) := by omega
            have HKR := hid (kindRow_take nd ks q hql)
            have hkl : q < (kidHighs (highs (O.take j)) ks).length := by simp [kidHighs]; exact hql
            have HS := hid (upK_take _ q hkl)
            have hkg : (kidHighs (highs (O.take j)) ks)[q] = (highs (O.take j)).getD ks[q] 0 := by simp [kidHighs]
            rw [hkg] at HS
            have hub := HUB.out q
            have hub2 : (highs (O.take j)).getD ks[q] 0 ≤ 12001 := by
              have := highs_le (O.take j) ks[q]
              rw [List.length_take] at this
              omega
            clear hkg hkl d1
            generalize (highs (O.take j)).getD ks[q] 0 = hy at *
            generalize ks[q] = y at *
            generalize upK ((kidHighs (highs (O.take j)) ks).take q) = u at *
            by_cases hgt : u < hy + 1
            · go_wp2
              go_region_held3 (fun w' => w'.cell? ⟨go, j, none⟩ = some (.slice (some ⟨gk, 0, none⟩) ks.length ck) ∧ w'.cell? ⟨gk, q, none⟩ = some (.int .i64 (y : Nat)) ∧ w'.cell? ⟨w.heap.size, 0, none⟩ = some (.slice (some ⟨b, 0, none⟩) N cap) ∧ w'.cell? ⟨b, y * 6, none⟩ = some (.int .i64 (nd y).kind) ∧ w'.cell? ⟨gh, y, none⟩ = some (.int .i64 (hy : Nat))) (first | (exact ⟨x1, x2, x3, x4, x5⟩) | go_keep) (first | (refine step_append_own_at rfl (.tmp 34) (.tmp 47) 42 rfl wo.heap.size 3 i0 (.int .i64 0) 1 8 Tryz.underlying42 HHI.out.1 HHI.out.2.1 HHI.out.2.2.1 HHI.out.2.2.2 rfl (by decide) (.slice (some ⟨gq, 0, none⟩) q cq) q (kindRow nd (ks.take q)) (by simp [Act.eval]) (((show RowAt wr.drew 3 gq cq q (kindRow nd (ks.take q)) from HRQ.out).alloc _).own hBq) ⟨wr.heap.size, 0, none⟩ 1 1 [.int .i64 (nd y).kind] (by simp [Act.eval]) rfl (cell_one_new _ _ _) (by simp [Value.oneCell']) (by unfold maxLen; omega) (by omega) (by have := HBI.out.size; simp; omega) ?_; intro v2 w2 o2 g2 nn2 b2; have O2 := hid o2; have NN2 := hid (some_not_nil nn2); have HB2 := hid ((HBI.out.drew.alloc (by have := HBI.out.size; simp; omega) _).grown g2 (by have := HBI.out.size; simp; omega) (fun q e => by injection e with e; exact e ▸ hBq)); obtain ⟨x1, x2, x3, x4, x5⟩ := HCS.out _ HB2.out; clear o2 g2 nn2 b2))
              go_wp2
              have ⟨g3, c3, e3, b3, r3⟩ := RowAt.of_own O2.out NN2.out
              have HR3 := hid r3
              subst e3
              clear r3 x1 x2 x3 x4 x5
              go_roundw
              case rel => exact ⟨q + 1, g3, c3, by omega, by go_num, by rw [HS.out]; congr 1; omega, rfl, b3, by rw [HKR.out]; exact HR3.out, HB2.out⟩
              case measure => simp [intOf]; omega
            · go_wp2
              go_region_held3 (fun w' => w'.cell? ⟨go, j, none⟩ = some (.slice (some ⟨gk, 0, none⟩) ks.length ck) ∧ w'.cell? ⟨gk, q, none⟩ = some (.int .i64 (y : Nat)) ∧ w'.cell? ⟨w.heap.size, 0, none⟩ = some (.slice (some ⟨b, 0, none⟩) N cap) ∧ w'.cell? ⟨b, y * 6, none⟩ = some (.int .i64 (nd y).kind) ∧ w'.cell? ⟨gh, y, none⟩ = some (.int .i64 (hy : Nat))) (first | (exact ⟨x1, x2, x3, x4, x5⟩) | go_keep) (first | (refine step_append_own_at rfl (.tmp 34) (.tmp 47) 42 rfl wo.heap.size 3 i0 (.int .i64 0) 1 8 Tryz.underlying42 HHI.out.1 HHI.out.2.1 HHI.out.2.2.1 HHI.out.2.2.2 rfl (by decide) (.slice (some ⟨gq, 0, none⟩) q cq) q (kindRow nd (ks.take q)) (by simp [Act.eval]) (((show RowAt wr.drew 3 gq cq q (kindRow nd (ks.take q)) from HRQ.out).alloc _).own hBq) ⟨wr.heap.size, 0, none⟩ 1 1 [.int .i64 (nd y).kind] (by simp [Act.eval]) rfl (cell_one_new _ _ _) (by simp [Value.oneCell']) (by unfold maxLen; omega) (by omega) (by have := HBI.out.size; simp; omega) ?_; intro v2 w2 o2 g2 nn2 b2; have O2 := hid o2; have NN2 := hid (some_not_nil nn2); have HB2 := hid ((HBI.out.drew.alloc (by have := HBI.out.size; simp; omega) _).grown g2 (by have := HBI.out.size; simp; omega) (fun q e => by injection e with e; exact e ▸ hBq)); obtain ⟨x1, x2, x3, x4, x5⟩ := HCS.out _ HB2.out; clear o2 g2 nn2 b2))
              go_wp2
              have ⟨g3, c3, e3, b3, r3⟩ := RowAt.of_own O2.out NN2.out
              have HR3 := hid r3
              subst e3
              clear r3 x1 x2 x3 x4 x5
              go_roundw
              case rel => exact ⟨q + 1, g3, c3, by omega, by go_num, by rw [HS.out]; congr 1; omega, rfl, b3, by rw [HKR.out]; exact HR3.out, HB2.out⟩
              case measure => simp [intOf]; omega
          · obtain rfl : q = ks.length := by omega
            have HUF : Hid ((kidHighs (highs (O.take j)) ks).take ks.length = kidHighs (highs (O.take j)) ks) := List.take_of_length_le (by simp [kidHighs])
            rw [HUF.out]
            obtain ⟨h, hh⟩ : ∃ h, upK (kidHighs (highs (O.take j)) ks) = h := ⟨_, rfl⟩
            rw [hh]
            have hh50 : h ≤ 12002 := by have := HUB.out ks.length; rw [HUF.out, hh] at this; exact this
            have HKT : Hid (ks.take ks.length = ks) := List.take_of_length_le (Nat.le_refl _)
            rw [HKT.out] at HRQ
            have HBAD := hid (spec_bad HKF.out hlt HKS.out)
            rw [hh] at HBAD
            have HBJ := hid (HBW.out.trans (HBI.out.mono hwo))
            have HSV : Hid (∀ W, Below w1.heap.size w1 W → Seven W w.heap.size b j (nd j) (.slice (some ⟨b, 0, none⟩) N cap)) := fun W hb => ⟨HTW.out W hb, (HN.out.below (HBE.out W hb) hb0) j hlt⟩
            by_cases h5 : h ≤ 60
            · have hd : decide ((60 : Int) < (h : Int)) = false := by simp; omega
              by_cases hP : PlainNd (nd j)
              · have HP := hid hP
                by_cases hK : KidsOk (nd j) ks.length (fun i => (nd (ks.getD i 0)).kind)
                · have HK := hid hK
                  clear hP hK
                  go_wp2_with (first | (at_builtin; refine wpList_append_own_at _ rfl (.tmp 73) (.tmp 75) 42 rfl w1.heap.size 3 i0 (.int .i64 0) 1 8 Tryz.underlying42 HHI.out.1 HHI.out.2.1 HHI.out.2.2.1 HHI.out.2.2.2 rfl (by decide) (.slice (some ⟨gh, 0, none⟩) j c) j (intRow (highs (O.take j))) rfl (((HRH.out.below HBI.out hghl).alloc _).own hBg) ⟨wr.heap.size, 0, none⟩ 1 1 [.int .i64 h] rfl rfl (cell_one_new _ _ _) (by simp [Value.oneCell']) (by unfold maxLen; omega) (by omega) (by have := HBJ.out.size; simp; omega) ?_; intro v2 w2 o2 g2 nn2 b2; have O2 := hid o2; have NN2 := hid (some_not_nil nn2); have HB2 := hid ((HBJ.out.alloc HBJ.out.size _).grown g2 (by have := HBJ.out.size; simp; omega) (fun q e => by injection e with e; exact e ▸ hBg)); have hw2 := HB2.out.size; have HK2 := hid (((HRQ.out.alloc _).grown g2 (by intro e; injection e with e; have e' : gh = gq := e; omega)).kinds); have hgq2 := ((HRQ.out.alloc (.cells #[.int .i64 h] 3)).grown g2 (by intro e; injection e with e; have e' : gh = gq := e; omega)).lt; obtain ⟨s1, s2, s3, s4, s5, s6, s7⟩ := HSV.out _ HB2.out; clear o2 g2 nn2 b2) | (go_at_call 21; refine (l11Fields_any (nd j) _ (HX.out j hlt)).mono ?_; rintro e w3 ⟨hs3, hb3⟩; have HB3 := hid (HB2.out.trans (hb3.mono hw2)); have HW3 := hid hb3; obtain ⟨y1, y2, y3, y4, y5, y6, y7⟩ := HSV.out _ HB3.out; obtain rfl := hs3.pos HP.out; clear hb3 hs3) | (go_at_call 22; refine (l11Fits_any (nd j) gq ks.length cq (fun i => (nd (ks.getD i 0)).kind) _ (by omega) (fun h => HP.out.2.2.2.2.2.2.2.2.2.2.1 h) (Nat.lt_of_lt_of_le hgq2 HW3.out.size) (HK2.out.below HW3.out hgq2)).mono ?_; rintro e w4 ⟨hs4, hb4⟩; have HB4 := hid (HB3.out.trans (hb4.mono (Nat.le_trans hw2 HW3.out.size))); have HO4 := hid (own_below (own_below O2.out HW3.out) hb4); obtain rfl := hs4.pos HK.out; clear hb4 hs4))
                  have NX := hid (SInv_step (by have := HOL.out; omega) HKS.out NN2.out (by rw [hh]; exact HO4.out) HFIT.out (by rw [hh]; exact h5) HP.out HK.out HB4.out)
                  go_roundw
                  case rel => exact ⟨j + 1, by omega, by go_num, NX.out⟩
                  case measure => simp [intOf]; omega
                · have HF := hid (HBAD.out (fun h => hK h.2.2))
                  have HK := hid hK
                  clear hP hK
                  go_wp2_with (first | (at_builtin; refine wpList_append_own_at _ rfl (.tmp 73) (.tmp 75) 42 rfl w1.heap.size 3 i0 (.int .i64 0) 1 8 Tryz.underlying42 HHI.out.1 HHI.out.2.1 HHI.out.2.2.1 HHI.out.2.2.2 rfl (by decide) (.slice (some ⟨gh, 0, none⟩) j c) j (intRow (highs (O.take j))) rfl (((HRH.out.below HBI.out hghl).alloc _).own hBg) ⟨wr.heap.size, 0, none⟩ 1 1 [.int .i64 h] rfl rfl (cell_one_new _ _ _) (by simp [Value.oneCell']) (by unfold maxLen; omega) (by omega) (by have := HBJ.out.size; simp; omega) ?_; intro v2 w2 o2 g2 nn2 b2; have O2 := hid o2; have NN2 := hid (some_not_nil nn2); have HB2 := hid ((HBJ.out.alloc HBJ.out.size _).grown g2 (by have := HBJ.out.size; simp; omega) (fun q e => by injection e with e; exact e ▸ hBg)); have hw2 := HB2.out.size; have HK2 := hid (((HRQ.out.alloc _).grown g2 (by intro e; injection e with e; have e' : gh = gq := e; omega)).kinds); have hgq2 := ((HRQ.out.alloc (.cells #[.int .i64 h] 3)).grown g2 (by intro e; injection e with e; have e' : gh = gq := e; omega)).lt; obtain ⟨s1, s2, s3, s4, s5, s6, s7⟩ := HSV.out _ HB2.out; clear o2 g2 nn2 b2) | (go_at_call 21; refine (l11Fields_any (nd j) _ (HX.out j hlt)).mono ?_; rintro e w3 ⟨hs3, hb3⟩; have HB3 := hid (HB2.out.trans (hb3.mono hw2)); have HW3 := hid hb3; obtain ⟨y1, y2, y3, y4, y5, y6, y7⟩ := HSV.out _ HB3.out; obtain rfl := hs3.pos HP.out; clear hb3 hs3) | (go_at_call 22; refine (l11Fits_any (nd j) gq ks.length cq (fun i => (nd (ks.getD i 0)).kind) _ (by omega) (fun h => HP.out.2.2.2.2.2.2.2.2.2.2.1 h) (Nat.lt_of_lt_of_le hgq2 HW3.out.size) (HK2.out.below HW3.out hgq2)).mono ?_; rintro e w4 ⟨hs4, hb4⟩; have HB4 := hid (HB3.out.trans (hb4.mono (Nat.le_trans hw2 HW3.out.size))); have HO4 := hid (own_below (own_below O2.out HW3.out) hb4); obtain rfl := hs4.neg HK.out; clear hb4 hs4))
                  go_ret
                  exact ⟨says_f HF.out, HBE.out _ HB4.out⟩
              · have HF := hid (HBAD.out (fun h => hP h.2.1))
                have HP := hid hP
                clear hP
                go_wp2_with (first | (at_builtin; refine wpList_append_own_at _ rfl (.tmp 73) (.tmp 75) 42 rfl w1.heap.size 3 i0 (.int .i64 0) 1 8 Tryz.underlying42 HHI.out.1 HHI.out.2.1 HHI.out.2.2.1 HHI.out.2.2.2 rfl (by decide) (.slice (some ⟨gh, 0, none⟩) j c) j (intRow (highs (O.take j))) rfl (((HRH.out.below HBI.out hghl).alloc _).own hBg) ⟨wr.heap.size, 0, none⟩ 1 1 [.int .i64 h] rfl rfl (cell_one_new _ _ _) (by simp [Value.oneCell']) (by unfold maxLen; omega) (by omega) (by have := HBJ.out.size; simp; omega) ?_; intro v2 w2 o2 g2 nn2 b2; have O2 := hid o2; have NN2 := hid (some_not_nil nn2); have HB2 := hid ((HBJ.out.alloc HBJ.out.size _).grown g2 (by have := HBJ.out.size; simp; omega) (fun q e => by injection e with e; exact e ▸ hBg)); have hw2 := HB2.out.size; have HK2 := hid (((HRQ.out.alloc _).grown g2 (by intro e; injection e with e; have e' : gh = gq := e; omega)).kinds); have hgq2 := ((HRQ.out.alloc (.cells #[.int .i64 h] 3)).grown g2 (by intro e; injection e with e; have e' : gh = gq := e; omega)).lt; obtain ⟨s1, s2, s3, s4, s5, s6, s7⟩ := HSV.out _ HB2.out; clear o2 g2 nn2 b2) | (go_at_call 21; refine (l11Fields_any (nd j) _ (HX.out j hlt)).mono ?_; rintro e w3 ⟨hs3, hb3⟩; have HB3 := hid (HB2.out.trans (hb3.mono hw2)); have HW3 := hid hb3; obtain ⟨y1, y2, y3, y4, y5, y6, y7⟩ := HSV.out _ HB3.out; obtain rfl := hs3.neg HP.out; clear hb3 hs3))
                go_ret
                exact ⟨says_f HF.out, HBE.out _ HB3.out⟩
            · have HF := hid (HBAD.out (fun h => h5 h.1))
              have hd : (60 : Int) < (h : Int) := by omega
              go_wp2_with (at_builtin; refine wpList_append_own_at _ rfl (.tmp 73) (.tmp 75) 42 rfl w1.heap.size 3 i0 (.int .i64 0) 1 8 Tryz.underlying42 HHI.out.1 HHI.out.2.1 HHI.out.2.2.1 HHI.out.2.2.2 rfl (by decide) (.slice (some ⟨gh, 0, none⟩) j c) j (intRow (highs (O.take j))) rfl (((HRH.out.below HBI.out hghl).alloc _).own hBg) ⟨wr.heap.size, 0, none⟩ 1 1 [.int .i64 h] rfl rfl (cell_one_new _ _ _) (by simp [Value.oneCell']) (by unfold maxLen; omega) (by omega) (by have := HBJ.out.size; simp; omega) ?_; intro v2 w2 o2 g2 nn2 b2; have O2 := hid o2; have NN2 := hid (some_not_nil nn2); have HB2 := hid ((HBJ.out.alloc HBJ.out.size _).grown g2 (by have := HBJ.out.size; simp; omega) (fun q e => by injection e with e; exact e ▸ hBg)); have hw2 := HB2.out.size; have HK2 := hid (((HRQ.out.alloc _).grown g2 (by intro e; injection e with e; have e' : gh = gq := e; omega)).kinds); have hgq2 := ((HRQ.out.alloc (.cells #[.int .i64 h] 3)).grown g2 (by intro e; injection e with e; have e' : gh = gq := e; omega)).lt; obtain ⟨s1, s2, s3, s4, s5, s6, s7⟩ := HSV.out _ HB2.out; clear o2 g2 nn2 b2)
              go_ret
              exact ⟨says_f HF.out, HBE.out _ HB2.out⟩
      · obtain rfl : j = N := by omega
        have t0 := HTW.out _ HBW.out
        have t1 := ((HN.out.below (HBE.out _ HBW.out) hb0) (j - 1) (by omega)).1
        by_cases h24 : (nd (j - 1)).kind = 24
        · have e1 : ((nd (j - 1)).kind == 24) = true := by rw [h24]; rfl
          have HT : Hid (ValidT nd j) := ⟨hN1, hN, h24, O, x, HKF.out, HFIT.out⟩
          clear h24
          go_wp2
          go_ret
          exact ⟨says_t HT.out, HBE.out _ HBW.out⟩
        · have e1 : ((nd (j - 1)).kind == 24) = false := by rw [beq_eq_false_iff_ne]; exact h24
          have HT : Hid (¬ ValidT nd j) := fun h => h24 h.2.2.1
          clear h24
          go_wp2
          go_ret
          exact ⟨says_f HT.out, HBE.out _ HBW.out⟩
set_option maxHeartbeats 1000000 in
theorem specValid_out (b N cap : Nat) (nd : Nat → Nd) (w : World) (hN : N ≤ 1048576) (ho : N = 0 ∨ 12001 < N) :
    Calls Tryz.prog 10 #[.agg #[.slice (some ⟨b, 0, none⟩) N cap]] w fun e w' => Says e (ValidT nd N) ∧ Below w.heap.size w w' := by
  have HF : Hid (¬ ValidT nd N) := fun ⟨h1, h2, _⟩ => by omega
  go_enter Tryz.func10, Tryz.ntmps10
  go_wp2_with (go_at_call 11; refine (l11Kids_out b N cap _ hN ho).mono ?_; rintro e w1 ⟨⟨v, rfl⟩, hb1⟩; have HB1 := hid (((Below.refl w.heap.size w).alloc (Nat.le_refl _) _).trans (hb1.mono (by simp))); clear hb1)
  go_ret
  exact ⟨says_f HF.out, HB1.out⟩
theorem specValid_all (b N cap : Nat) (nd : Nat → Nd) (w : World) (hN : N ≤ 1048576) (hb : b < w.heap.size) (hn : NodesAt w b N nd) (hx : ∀ i, i < N → (nd i).text.size ≤ maxLen) :
    Calls Tryz.prog 10 #[.agg #[.slice (some ⟨b, 0, none⟩) N cap]] w fun e w' => Says e (ValidT nd N) ∧ Below w.heap.size w w' := by
  by_cases ho : N = 0 ∨ 12001 < N
  · exact specValid_out b N cap nd w hN ho
  · exact specValid_any b N cap nd w (by omega) (by omega) hb hn hx
end Go.Proofs.YtkngjbpbjjoneaaGreatDoor.Q
