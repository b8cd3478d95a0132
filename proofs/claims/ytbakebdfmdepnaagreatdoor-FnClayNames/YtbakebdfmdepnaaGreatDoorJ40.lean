import Derived.Deep.RegionHeld3
import Derived.Test.YtbakebdfmdepnaaGreatDoorJ10
import Derived.Test.YtbakebdfmdepnaaGreatDoorJ39
import Derived.Test.YtbakebdfmdepnaaGreatDoorJ05
import Derived.Test.YtbakebdfmdepnaaGreatDoorJ07
import Derived.Test.YtbakebdfmdepnaaGreatDoorJ09
namespace Go.Proofs.YtbakebdfmdepnaaGreatDoor
open Go.RowKit
set_option maxRecDepth 20000
theorem kids_lt {nd : Nat → Nd} {N : Nat} {O : List (List Nat)} {s : List Nat} (h : kidsF nd N = some (O, s)) (j : Nat) (hj : j < N) : ∀ y ∈ O.getD j [], y < j := by
 obtain ⟨s', h6⟩ := kidsF_pre h (j + 1) (by omega)
 obtain ⟨o', sp, sk, h1, h2, _, _⟩ := kidsF_step h6
 have hl := kidsF_len nd _ _ _ h1
 have hO := (kidsF_len nd _ _ _ h).1
 have e : O.getD j [] = sk := by
  have : (O.take (j + 1))[j]? = (o' ++ [sk])[j]? := by rw [h2]
  rw [List.getElem?_take_of_lt (by omega), List.getElem?_append_right (by omega), hl.1] at this
  rw [List.getD_eq_getElem?_getD, this]; simp
 intro y hy
 rw [e] at hy
 exact hl.2.2 y (by simp [hy])
theorem kids_len_le {nd : Nat → Nd} {N : Nat} {O : List (List Nat)} {s : List Nat} (h : kidsF nd N = some (O, s)) (j : Nat) (hj : j < N) : (O.getD j []).length ≤ j := by
 obtain ⟨s', h6⟩ := kidsF_pre h (j + 1) (by omega)
 obtain ⟨o', sp, sk, h1, h2, _, _⟩ := kidsF_step h6
 have hl := kidsF_len nd _ _ _ h1
 have hO := (kidsF_len nd _ _ _ h).1
 have e : O.getD j [] = sk := by
  have : (O.take (j + 1))[j]? = (o' ++ [sk])[j]? := by rw [h2]
  rw [List.getElem?_take_of_lt (by omega), List.getElem?_append_right (by omega), hl.1] at this
  rw [List.getD_eq_getElem?_getD, this]; simp
 rw [e]
 have := hl.2.1
 rw [List.length_append] at this
 omega
def Seven (W : World) (a b go j : Nat) (x : Nd) (v u : Value) : Prop := W.cell? ⟨a, 0, none⟩ = some v ∧ W.cell? ⟨b, j * 5, none⟩ = some (.int .i64 x.kind) ∧ W.cell? ⟨b, j * 5 + 1, none⟩ = some (.int .i64 x.op) ∧ W.cell? ⟨b, j * 5 + 2, none⟩ = some (.int .i64 x.n) ∧ W.cell? ⟨b, j * 5 + 3, none⟩ = some (.string x.text) ∧ W.cell? ⟨b, j * 5 + 4, none⟩ = some (.int .i64 x.kids) ∧ W.cell? ⟨go, j, none⟩ = some u
theorem Seven.below {W W' : World} {a b go j B : Nat} {x : Nd} {v u : Value} (h : Seven W a b go j x v u) (hb : Below B W W') (h1 : a < B) (h2 : b < B) (h3 : go < B) : Seven W' a b go j x v u := by
 obtain ⟨c1, c2, c3, c4, c5, c6, c7⟩ := h
 exact ⟨(hb.cell (p := ⟨a, _, none⟩) h1).trans c1, (hb.cell (p := ⟨b, _, none⟩) h2).trans c2, (hb.cell (p := ⟨b, _, none⟩) h2).trans c3, (hb.cell (p := ⟨b, _, none⟩) h2).trans c4, (hb.cell (p := ⟨b, _, none⟩) h2).trans c5, (hb.cell (p := ⟨b, _, none⟩) h2).trans c6, (hb.cell (p := ⟨go, _, none⟩) h3).trans c7⟩
def SInv (nd : Nat → Nd) (O : List (List Nat)) (B : Nat) (W1 W : World) (j : Nat) (vh : Value) : Prop := ∃ g c, vh = .slice (some ⟨g, 0, none⟩) j c ∧ B ≤ g ∧ RowAt W 3 g c j (intRow (highs (O.take j))) ∧ (∀ x, x < j → (highs O).getD x 0 ≤ 50 ∧ FitAt nd O x) ∧ Below B W1 W
theorem below_drewN {B : Nat} {w w' : World} (h : Below B w w') (n : Nat) : Below B w (w'.drewN n) := by
 induction n with
 | zero => exact h
 | succ n ih => exact ih.drew
theorem Says.pos {e : Ending} {P : Prop} (h : Says e P) (hp : P) : e = .returned (.bool true) := by
 rcases h.get with ⟨h1, _⟩ | ⟨_, h2⟩
 ·exact h1
 ·exact absurd hp h2
theorem Says.neg {e : Ending} {P : Prop} (h : Says e P) (hp : ¬ P) : e = .returned (.bool false) := by
 rcases h.get with ⟨_, h2⟩ | ⟨h1, _⟩
 ·exact absurd h2 hp
 ·exact h1
theorem upK_take (l : List Nat) (q : Nat) (hq : q < l.length) : upK (l.take (q + 1)) = max (upK (l.take q)) (l[q] + 1) := by
 rw [List.take_succ_eq_append_getElem hq, upK_snoc]
theorem upK_bound (l : List Nat) (b : Nat) (h : ∀ x ∈ l, x ≤ b) : upK l ≤ b + 1 := by
 have : ∀ n, ∀ l : List Nat, l.length = n → (∀ x ∈ l, x ≤ b) → upK l ≤ b + 1 := by
  intro n
  induction n with
  | zero => intro l h _; rw [List.length_eq_zero_iff.1 h]; simp [upK]
  | succ n ih =>
   intro l h hx
   obtain ⟨l', y, rfl⟩ := (List.eq_nil_or_concat l).resolve_left (by rintro rfl; cases h)
   rw [List.concat_eq_append] at h hx ⊢
   rw [upK_snoc]
   have h1 := ih l' (by simp at h; exact h) (fun x hm => hx x (by simp [hm]))
   have h2 := hx y (by simp)
   omega
 exact this _ l rfl h
theorem SInv_step {nd : Nat → Nd} {O : List (List Nat)} {B : Nat} {W1 W : World} {j : Nat} {ks : List Nat} {v : Value} (hO : j < O.length) (hks : O.getD j [] = ks) (hnn : ¬ v = .slice none 0 0)
  (hown : W.ownsRow B 3 1 v (j + 1) (intRow (highs (O.take j)) ++ [.int .i64 (upK (kidHighs (highs (O.take j)) ks) : Nat)])) (hfit : ∀ x, x < j → (highs O).getD x 0 ≤ 50 ∧ FitAt nd O x)
  (h50 : upK (kidHighs (highs (O.take j)) ks) ≤ 50) (hP : PlainNd (nd j)) (hK : KidsOk (nd j).kind ks.length (fun i => nd (ks.getD i 0))) (hb : Below B W1 W) : SInv nd O B W1 W (j + 1) v := by
 obtain ⟨g, c, rfl, hB, hr⟩ := RowAt.of_own hown hnn
 have e : highs (O.take (j + 1)) = highs (O.take j) ++ [upK (kidHighs (highs (O.take j)) ks)] := by rw [highs_take O j hO, hks]
 refine ⟨g, c, rfl, hB, ?_, ?_, hb⟩
 ·rw [e, intRow_append]; exact hr
 ·intro x hx
  rcases Nat.lt_or_eq_of_le (Nat.lt_succ_iff.1 hx) with h | h
  ·exact hfit x h
  ·subst h
   refine ⟨?_, ?_⟩
   ·rw [← highs_pre O (x + 1) x (by omega) (by omega), e, List.getD_eq_getElem?_getD, List.getElem?_append_right (by rw [highs_length, List.length_take]; omega)]
    rw [highs_length, List.length_take, Nat.min_eq_left (by omega), Nat.sub_self]
    simpa using h50
   ·unfold FitAt
    rw [hks]
    exact ⟨hP, hK⟩
theorem spec_bad {nd : Nat → Nd} {N j : Nat} {O : List (List Nat)} {x : Nat} {ks : List Nat} (h : kidsF nd N = some (O, [x])) (hj : j < N) (hks : O.getD j [] = ks) (hb : ¬ (upK (kidHighs (highs (O.take j)) ks) ≤ 50 ∧ PlainNd (nd j) ∧ KidsOk (nd j).kind ks.length (fun i => nd (ks.getD i 0)))) : ¬ ValidT nd N := by
 rintro ⟨_, _, _, O2, x2, h4, h5⟩
 rw [h] at h4
 cases h4
 have hO := (kidsF_len nd _ _ _ h).1
 obtain ⟨f1, f2⟩ := h5 j hj
 unfold FitAt at f2
 rw [hks] at f2
 refine hb ⟨?_, f2.1, f2.2⟩
 rw [← highs_pre O (j + 1) j (by omega) (by omega), highs_take O j (by omega), List.getD_eq_getElem?_getD, List.getElem?_append_right (by rw [highs_length, List.length_take]; omega)] at f1
 rw [highs_length, List.length_take, Nat.min_eq_left (by omega), Nat.sub_self, hks] at f1
 simpa using f1
set_option maxHeartbeats 4000000 in
theorem specValid_any (b N cap : Nat) (nd : Nat → Nd) (w : World) (hN1 : 1 ≤ N) (hN : N ≤ 5000) (h24 : (nd (N - 1)).kind = 24) (hb : b < w.heap.size) (hn : NodesAt w b N nd) (hx : ∀ i, i < N → (nd i).text.size ≤ maxLen) :
  Calls Tryz.prog 12 #[.agg #[.slice (some ⟨b, 0, none⟩) N cap]] w fun e w' => Says e (ValidT nd N) ∧ Below w.heap.size w w' := by
 have HX := hid hx
 have HBT := hid ((Below.refl w.heap.size w).alloc (Nat.le_refl _) (.cells #[.slice (some ⟨b, 0, none⟩) N cap] 25))
 have HNT := hid (hn.below HBT.out hb)
 have HN := hid hn
 have hb0 := hb
 have HIN : Hid ((decide ((1 : Int) ≤ (N : Int)) && decide ((N : Int) ≤ 5000)) = true) := by show _ = _; simp; omega
 have a0 := ((hn.below HBT.out hb) (N - 1) (by omega)).1
 rw [h24] at a0
 clear hn hx
 go_enter Tryz.func12, Tryz.ntmps12
 go_wp2_with (first
  | (go_at_call 23; refine (l1In_dec _ _ _ _).mono ?_; rintro e w' ⟨rfl, hw⟩; have hw2 := hw.symm; clear hw; subst hw2; rw [HIN.out])
  | (go_at_call 24; refine (l2Kids_any b N cap nd _ hN (by simp; omega) HNT.out).mono ?_; rintro e w1 ⟨hb1, ⟨v, rfl, hno⟩ | ⟨L, x, go, co, rfl, hkf, hrow, hgo, hall⟩⟩))
 ·have HF : Hid (¬ ValidT nd N) := fun ⟨_, _, _, O, x, h4, _⟩ => hno O x h4
  clear hno
  go_ret
  exact ⟨says_f HF.out, HBT.out.trans (hb1.mono (by simp))⟩
 ·have HKF := hid hkf
  have HROW := hid hrow
  have HALL := hid hall
  have HB1 := hid hb1
  have hLl : L.length = N := by have := (kidsF_len nd _ _ _ hkf).1; rwa [List.length_map] at this
  have hgo1 := hrow.lt
  have hw1 : w.heap.size + 1 ≤ w1.heap.size := by have := hb1.size; simpa using this
  have hgo2 : w.heap.size + 1 ≤ go := by simpa using hgo
  obtain ⟨O, hO⟩ : ∃ O, L.map (fun x => x.2.2) = O := ⟨_, rfl⟩
  rw [hO] at HKF
  have HO := hid hO
  have hOl : O.length = N := by rw [← hO, List.length_map]; exact hLl
  obtain ⟨i0, hi, hz0, hz1, hz2⟩ := info_parts info_int
  have HHI := hid (And.intro hi (And.intro hz0 (And.intro hz1 hz2)))
  have HBB := hid (HBT.out.trans (hb1.mono (B' := w.heap.size) (by simp)))
  have HTC := hid (tree_cell (w := w) (wr := w1) (by simpa using hb1))
  have HLL := hid hLl
  have HOL := hid hOl
  clear hkf hrow hall hb1 hgo hO hi hz0 hz1 hz2 hLl hOl a0
  go_loopw [6, 7] (fun vh i wr => ∃ j : Nat, j ≤ N ∧ i = .int .i64 j ∧ SInv nd O w1.heap.size w1 wr j vh) (fun _ i _ => N - (intOf i).toNat)
  case atStart =>
   refine ⟨0, Nat.zero_le _, rfl, w1.heap.size, 0, rfl, Nat.le_refl _, ?_, fun x h => absurd h (Nat.not_lt_zero _), (Below.refl _ _).alloc (Nat.le_refl _) _⟩
   exact ⟨rfl, Nat.le_refl _, by unfold maxLen; omega, #[], heap_alloc_new w1 _, rfl, rfl⟩
  case round =>
   obtain ⟨j, hj, rfl, gh, c, rfl, hBg, hrh, hfit, hbw⟩ := hrel
   have HRH := hid hrh
   have HFIT := hid hfit
   have HBW := hid hbw
   have hghl := hrh.lt
   clear hrh hfit hbw
   by_cases hlt : j < N
   ·have hjL : j < L.length := by have := HLL.out; omega
    obtain ⟨⟨gk, ck, ks⟩, hLj⟩ : ∃ y, L[j]? = some y := ⟨L[j], List.getElem?_eq_getElem hjL⟩
    have hmem : (gk, ck, ks) ∈ L := List.mem_of_getElem? hLj
    obtain ⟨hgk0, hrk⟩ := HALL.out _ hmem
    have hgk1 := hrk.lt
    have HKS : Hid (O.getD j [] = ks) := by
     show _ = _
     rw [← HO.out, List.getD_eq_getElem?_getD, List.getElem?_map, hLj]; rfl
    have HLT := hid (kids_lt HKF.out j hlt)
    rw [HKS.out] at HLT
    have hbx : ∀ p : Addr, p.block < w1.heap.size → wr.cell? p = w1.cell? p := fun p hp => HBW.out.cell hp
    have c1 : wr.cell? ⟨go, j, none⟩ = some (.slice (some ⟨gk, 0, none⟩) ks.length ck) := by
     rw [hbx _ hgo1, HROW.out.cell j hjL]
     simp [gridRow, hLj]
    have HG : Hid ((gridRow L)[j]? = some (.slice (some ⟨gk, 0, none⟩) ks.length ck)) := by
     show _ = _
     simp [gridRow, hLj]
    have HC2 : Hid (∀ q (hq : q < ks.length), wr.cell? ⟨gk, q, none⟩ = some (.int .i64 (ks[q] : Nat))) := fun q hq => by
     rw [hbx _ hgk1, hrk.cell q hq]
     simp [intRow, hq]
    have HC3 : Hid (∀ y, y < j → wr.cell? ⟨gh, y, none⟩ = some (.int .i64 ((highs (O.take j)).getD y 0 : Nat))) := fun y hy => by
     have hl : (highs (O.take j)).length = j := by rw [highs_length, List.length_take]; have := HOL.out; omega
     rw [HRH.out.cell y hy]
     simp [intRow, hl, hy]
    have HUB : Hid (∀ q, upK ((kidHighs (highs (O.take j)) ks).take q) ≤ 5001) := fun q => upK_bound _ 5000 (fun x hx => by
     obtain ⟨y, _, rfl⟩ := List.mem_map.1 (List.mem_of_mem_take hx)
     have := highs_le (O.take j) y
     rw [List.length_take] at this
     show (highs (O.take j)).getD y 0 ≤ 5000
     omega)
    have hksl : ks.length ≤ 5000 := by have := kids_len_le HKF.out j hlt; rw [HKS.out] at this; omega
    have HRK := hid hrk
    clear hrk hmem hLj hbx
    go_wp2
    go_loop [8, 9] (fun h i => ∃ q : Nat, q ≤ ks.length ∧ i = .int .i64 q ∧ h = .int .i64 (upK ((kidHighs (highs (O.take j)) ks).take q) : Nat)) (fun _ i => ks.length - (intOf i).toNat)
    case atStart => exact ⟨0, Nat.zero_le _, rfl, rfl⟩
    case round =>
     obtain ⟨q, hq, rfl, rfl⟩ := hrel
     by_cases hql : q < ks.length
     ·have d2 := HC2.out q hql
      have hyj : ks[q] < j := HLT.out _ (List.getElem_mem hql)
      have d3 := HC3.out ks[q] hyj
      have hkl : q < (kidHighs (highs (O.take j)) ks).length := by simp [kidHighs]; exact hql
      have HS := hid (upK_take _ q hkl)
      have hkg : (kidHighs (highs (O.take j)) ks)[q] = (highs (O.take j)).getD ks[q] 0 := by simp [kidHighs]
      rw [hkg] at HS
      have hub := HUB.out q
      have hub2 : (highs (O.take j)).getD ks[q] 0 ≤ 5000 := by
       have := highs_le (O.take j) ks[q]
       rw [List.length_take] at this
       omega
      clear hkg hkl
      generalize (highs (O.take j)).getD ks[q] 0 = hy at *
      generalize ks[q] = y at *
      generalize upK ((kidHighs (highs (O.take j)) ks).take q) = u at *
      by_cases hgt : u < hy + 1
      ·go_wp2
       go_round
       case rel => exact ⟨q + 1, by omega, by go_num, by rw [HS.out]; congr 1; omega⟩
       case measure => simp [intOf]; omega
      ·go_wp2
       go_round
       case rel => exact ⟨q + 1, by omega, by go_num, by rw [HS.out]; congr 1; omega⟩
       case measure => simp [intOf]; omega
     ·obtain rfl : q = ks.length := by omega
      have HUF : Hid ((kidHighs (highs (O.take j)) ks).take ks.length = kidHighs (highs (O.take j)) ks) := List.take_of_length_le (by simp [kidHighs])
      rw [HUF.out]
      obtain ⟨h, hh⟩ : ∃ h, upK (kidHighs (highs (O.take j)) ks) = h := ⟨_, rfl⟩
      rw [hh]
      have hh50 : h ≤ 5001 := by have := HUB.out ks.length; rw [HUF.out, hh] at this; exact this
      have HBAD := hid (spec_bad HKF.out hlt HKS.out)
      rw [hh] at HBAD
      have HBE : Hid (∀ W, Below w1.heap.size w1 W → Below w.heap.size w W) := fun W hb => HBB.out.trans (hb.mono (by omega))
      have HSV : Hid (∀ W, Below w1.heap.size w1 W → Seven W w.heap.size b go j (nd j) (.slice (some ⟨b, 0, none⟩) N cap) (.slice (some ⟨gk, 0, none⟩) ks.length ck)) := fun W hb => by
       obtain ⟨f0, f1, f2, f3, f4⟩ := (HN.out.below (HBE.out W hb) hb0) j hlt
       refine ⟨(hb.cell (p := ⟨w.heap.size, 0, none⟩) hw1).trans HTC.out, f0, f1, f2, f3, f4, ?_⟩
       rw [hb.cell (p := ⟨go, j, none⟩) hgo1, HROW.out.cell j hjL]
       exact HG.out
      have HPL : Hid (∀ W, Below w1.heap.size w1 W → PlacesAt W gk 0 ks.length N (fun i => ks.getD i 0)) := fun W hb i hi => by
       refine ⟨?_, ?_⟩
       ·rw [hb.cell (p := ⟨gk, 0 + i, none⟩) hgk1, Nat.zero_add, HRK.out.cell i hi]
        simp [intRow, hi]
       ·show ks.getD i 0 < N
        rw [List.getD_eq_getElem?_getD, List.getElem?_eq_getElem hi]
        have := HLT.out _ (List.getElem_mem hi)
        simp; omega
      have hbw1 : b < w1.heap.size := by omega
      by_cases h5 : h ≤ 50
      ·have hd : decide ((50 : Int) < (h : Int)) = false := by simp; omega
       by_cases hP : PlainNd (nd j)
       ·have HP := hid hP
        by_cases hK : KidsOk (nd j).kind ks.length (fun i => nd (ks.getD i 0))
        ·have HK := hid hK
         clear hP hK
         go_wp2_with (at_builtin; refine wpList_append_own_at _ rfl (.tmp 72) (.tmp 74) 30 rfl w1.heap.size 3 i0 (.int .i64 0) 1 8 Tryz.underlying30 HHI.out.1 HHI.out.2.1 HHI.out.2.2.1 HHI.out.2.2.2 rfl (by decide) (.slice (some ⟨gh, 0, none⟩) j c) j (intRow (highs (O.take j))) rfl ((HRH.out.alloc _).own hBg) ⟨wr.heap.size, 0, none⟩ 1 1 [.int .i64 h] rfl rfl (cell_one_new _ _ _) (by simp [Value.oneCell']) (by unfold maxLen; omega) (by omega) (by have := HBW.out.size; simp; omega) ?_; intro v2 w2 o2 g2 nn2 b2; have O2 := hid o2; have NN2 := hid (some_not_nil nn2); have HB2 := hid ((HBW.out.alloc HBW.out.size _).grown g2 (by have := HBW.out.size; simp; omega) (fun q e => by injection e with e; exact e ▸ hBg)); have hw2 := HB2.out.size; clear o2 g2 nn2 b2)
         obtain ⟨s1, s2, s3, s4, s5, s6, s7⟩ := HSV.out _ HB2.out
         go_region_held3 (fun w' => w'.cell? ⟨w.heap.size, 0, none⟩ = some (.slice (some ⟨b, 0, none⟩) N cap) ∧ w'.cell? ⟨b, j * 5, none⟩ = some (.int .i64 (nd j).kind) ∧ w'.cell? ⟨b, j * 5 + 1, none⟩ = some (.int .i64 (nd j).op) ∧ w'.cell? ⟨b, j * 5 + 2, none⟩ = some (.int .i64 (nd j).n) ∧ w'.cell? ⟨b, j * 5 + 3, none⟩ = some (.string (nd j).text) ∧ w'.cell? ⟨b, j * 5 + 4, none⟩ = some (.int .i64 (nd j).kids) ∧ w'.cell? ⟨go, j, none⟩ = some (.slice (some ⟨gk, 0, none⟩) ks.length ck)) (first | (exact Seven.below ⟨s1, s2, s3, s4, s5, s6, s7⟩ (W := w2.drew) hb3 (by simp; omega) (by simp; omega) (by simp; omega)) | (exact HSV.out _ HB4.out) | go_keep) (first | (go_at_call 25; refine (l2Plain_any (nd j) _ (HX.out j hlt)).mono ?_; rintro e w3 ⟨hs3, hb3⟩; have HB3 := hid (HB2.out.drew.trans (hb3.mono (by simpa using hw2))); obtain rfl := hs3.pos HP.out) | (go_at_call 26; refine (l2KidsOk_any (nd j).kind b N cap gk 0 ks.length ck nd (fun i => ks.getD i 0) _ (by omega) HRK.out.2.1 (Nat.lt_of_lt_of_le (Nat.lt_of_lt_of_le hbw1 hw2) hb3.size) (Nat.lt_of_lt_of_le (Nat.lt_of_lt_of_le hgk1 hw2) hb3.size) (HN.out.below (HBE.out _ HB3.out) hb0) (HPL.out _ HB3.out)).mono ?_; rintro e w4 ⟨hs4, hb4⟩; have HB4 := hid (HB3.out.trans (hb4.mono (Nat.le_trans hw2 hb3.size))); have HO4 := hid (own_below (own_below (show w2.drew.ownsRow w1.heap.size 3 1 v2 (j + 1) _ from O2.out) hb3) hb4); obtain rfl := hs4.pos HK.out))
         have NX := hid (SInv_step (by have := HOL.out; omega) HKS.out NN2.out (by rw [hh]; exact HO4.out) HFIT.out (by rw [hh]; exact h5) HP.out HK.out HB4.out)
         go_wp2
         go_roundw
         case rel => exact ⟨j + 1, by omega, by go_num, NX.out⟩
         case measure => simp [intOf]; omega
        ·have HF := hid (HBAD.out (fun h => hK h.2.2))
         have HK := hid hK
         clear hP hK
         go_wp2_with (at_builtin; refine wpList_append_own_at _ rfl (.tmp 72) (.tmp 74) 30 rfl w1.heap.size 3 i0 (.int .i64 0) 1 8 Tryz.underlying30 HHI.out.1 HHI.out.2.1 HHI.out.2.2.1 HHI.out.2.2.2 rfl (by decide) (.slice (some ⟨gh, 0, none⟩) j c) j (intRow (highs (O.take j))) rfl ((HRH.out.alloc _).own hBg) ⟨wr.heap.size, 0, none⟩ 1 1 [.int .i64 h] rfl rfl (cell_one_new _ _ _) (by simp [Value.oneCell']) (by unfold maxLen; omega) (by omega) (by have := HBW.out.size; simp; omega) ?_; intro v2 w2 o2 g2 nn2 b2; have O2 := hid o2; have NN2 := hid (some_not_nil nn2); have HB2 := hid ((HBW.out.alloc HBW.out.size _).grown g2 (by have := HBW.out.size; simp; omega) (fun q e => by injection e with e; exact e ▸ hBg)); have hw2 := HB2.out.size; clear o2 g2 nn2 b2)
         obtain ⟨s1, s2, s3, s4, s5, s6, s7⟩ := HSV.out _ HB2.out
         go_region_held3 (fun w' => w'.cell? ⟨w.heap.size, 0, none⟩ = some (.slice (some ⟨b, 0, none⟩) N cap) ∧ w'.cell? ⟨b, j * 5, none⟩ = some (.int .i64 (nd j).kind) ∧ w'.cell? ⟨b, j * 5 + 1, none⟩ = some (.int .i64 (nd j).op) ∧ w'.cell? ⟨b, j * 5 + 2, none⟩ = some (.int .i64 (nd j).n) ∧ w'.cell? ⟨b, j * 5 + 3, none⟩ = some (.string (nd j).text) ∧ w'.cell? ⟨b, j * 5 + 4, none⟩ = some (.int .i64 (nd j).kids) ∧ w'.cell? ⟨go, j, none⟩ = some (.slice (some ⟨gk, 0, none⟩) ks.length ck)) (first | (exact Seven.below ⟨s1, s2, s3, s4, s5, s6, s7⟩ (W := w2.drew) hb3 (by simp; omega) (by simp; omega) (by simp; omega)) | (exact HSV.out _ HB4.out) | go_keep) (first | (go_at_call 25; refine (l2Plain_any (nd j) _ (HX.out j hlt)).mono ?_; rintro e w3 ⟨hs3, hb3⟩; have HB3 := hid (HB2.out.drew.trans (hb3.mono (by simpa using hw2))); obtain rfl := hs3.pos HP.out) | (go_at_call 26; refine (l2KidsOk_any (nd j).kind b N cap gk 0 ks.length ck nd (fun i => ks.getD i 0) _ (by omega) HRK.out.2.1 (Nat.lt_of_lt_of_le (Nat.lt_of_lt_of_le hbw1 hw2) hb3.size) (Nat.lt_of_lt_of_le (Nat.lt_of_lt_of_le hgk1 hw2) hb3.size) (HN.out.below (HBE.out _ HB3.out) hb0) (HPL.out _ HB3.out)).mono ?_; rintro e w4 ⟨hs4, hb4⟩; have HB4 := hid (HB3.out.trans (hb4.mono (Nat.le_trans hw2 hb3.size))); have HO4 := hid (own_below (own_below (show w2.drew.ownsRow w1.heap.size 3 1 v2 (j + 1) _ from O2.out) hb3) hb4); obtain rfl := hs4.neg HK.out))
         go_wp2
         go_ret
         exact ⟨says_f HF.out, HBE.out _ HB4.out⟩
       ·have HF := hid (HBAD.out (fun h => hP h.2.1))
        have HP := hid hP
        clear hP
        go_wp2_with (at_builtin; refine wpList_append_own_at _ rfl (.tmp 72) (.tmp 74) 30 rfl w1.heap.size 3 i0 (.int .i64 0) 1 8 Tryz.underlying30 HHI.out.1 HHI.out.2.1 HHI.out.2.2.1 HHI.out.2.2.2 rfl (by decide) (.slice (some ⟨gh, 0, none⟩) j c) j (intRow (highs (O.take j))) rfl ((HRH.out.alloc _).own hBg) ⟨wr.heap.size, 0, none⟩ 1 1 [.int .i64 h] rfl rfl (cell_one_new _ _ _) (by simp [Value.oneCell']) (by unfold maxLen; omega) (by omega) (by have := HBW.out.size; simp; omega) ?_; intro v2 w2 o2 g2 nn2 b2; have O2 := hid o2; have NN2 := hid (some_not_nil nn2); have HB2 := hid ((HBW.out.alloc HBW.out.size _).grown g2 (by have := HBW.out.size; simp; omega) (fun q e => by injection e with e; exact e ▸ hBg)); have hw2 := HB2.out.size; clear o2 g2 nn2 b2)
        have HSW : ∀ p : Gr w2, Seven p.W w.heap.size b go j (nd j) (.slice (some ⟨b, 0, none⟩) N cap) (.slice (some ⟨gk, 0, none⟩) ks.length ck) := fun p => HSV.out _ (HB2.out.trans (p.h.mono hw2))
        have t0 := fun p : Gr w2 => (HSW p).1
        have t1 := fun p : Gr w2 => (HSW p).2.1
        have t2 := fun p : Gr w2 => (HSW p).2.2.1
        have t3 := fun p : Gr w2 => (HSW p).2.2.2.1
        have t4 := fun p : Gr w2 => (HSW p).2.2.2.2.1
        have t5 := fun p : Gr w2 => (HSW p).2.2.2.2.2.1
        have t6 := fun p : Gr w2 => (HSW p).2.2.2.2.2.2
        clear HSW
        have hne : Nonempty (Gr w2) := ⟨⟨w2, Below.refl _ _⟩⟩
        refine wp_region_gr (by kernel_rfl) (by kernel_rfl) ?_
        repeat (go_big_quiet_step (first | (go_at_call 25; refine Calls.gr_of (v := .bool false) fun _ => ?_; refine (l2Plain_any (nd j) _ (HX.out j hlt)).mono ?_; rintro e w3 ⟨hs3, hb3⟩; exact ⟨hs3.neg HP.out, hb3⟩)))
        refine wpQuiet_nil ?_
        intro _ hw'
        obtain ⟨pw, rfl⟩ := hw'
        have HB4 := hid (HB2.out.trans (pw.h.mono hw2))
        clear t0 t1 t2 t3 t4 t5 t6
        go_wp2
        go_ret
        exact ⟨says_f HF.out, HBE.out _ HB4.out⟩
      ·have HF := hid (HBAD.out (fun h => h5 h.1))
       have hd : (50 : Int) < (h : Int) := by omega
       go_wp2_with (at_builtin; refine wpList_append_own_at _ rfl (.tmp 72) (.tmp 74) 30 rfl w1.heap.size 3 i0 (.int .i64 0) 1 8 Tryz.underlying30 HHI.out.1 HHI.out.2.1 HHI.out.2.2.1 HHI.out.2.2.2 rfl (by decide) (.slice (some ⟨gh, 0, none⟩) j c) j (intRow (highs (O.take j))) rfl ((HRH.out.alloc _).own hBg) ⟨wr.heap.size, 0, none⟩ 1 1 [.int .i64 h] rfl rfl (cell_one_new _ _ _) (by simp [Value.oneCell']) (by unfold maxLen; omega) (by omega) (by have := HBW.out.size; simp; omega) ?_; intro v2 w2 o2 g2 nn2 b2; have O2 := hid o2; have NN2 := hid (some_not_nil nn2); have HB2 := hid ((HBW.out.alloc HBW.out.size _).grown g2 (by have := HBW.out.size; simp; omega) (fun q e => by injection e with e; exact e ▸ hBg)); have hw2 := HB2.out.size; clear o2 g2 nn2 b2)
       go_quiet (fail)
       go_wp2
       go_ret
       exact ⟨says_f HF.out, HBE.out _ (below_drewN HB2.out _)⟩
   ·obtain rfl : j = N := by omega
    have HT : Hid (ValidT nd j) := ⟨hN1, hN, h24, O, x, HKF.out, HFIT.out⟩
    go_wp2
    go_ret
    exact ⟨says_t HT.out, HBB.out.trans (HBW.out.mono (by omega))⟩
end Go.Proofs.YtbakebdfmdepnaaGreatDoor
