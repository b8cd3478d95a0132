import Derived.Test.YtbakebdfmdepnaaGreatDoorJ02
import Derived.Test.YtbakebdfmdepnaaGreatDoorJ35
namespace Go.Proofs.YtbakebdfmdepnaaGreatDoor
open Go.RowKit
set_option maxRecDepth 20000
set_option maxHeartbeats 4000000 in
theorem KO_B (kind : Int) (hkind : kind = 2 ∨ kind = 3 ∨ kind = 4 ∨ kind = 5 ∨ kind = 7 ∨ kind = 8) : KO kind := by
 intro b N cap g o m c nd ks w hm hb hg hn hk
 have HN := hid hn
 have HK := hid hk
 clear hn hk
 go_enter Tryz.func26, Tryz.ntmps26
 go_wp2
 go_loopw [8, 10] (fun es i wr => ∃ j e : Nat, j ≤ m ∧ e ≤ j ∧ i = .int .i64 j ∧ es = .int .i64 e ∧ (e = j ↔ AllE j (fun i => nd (ks i))) ∧ Below (w.heap.size + 1) (w.alloc (.cells #[.slice (some ⟨b, 0, none⟩) N cap] 25)) wr) (fun _ i _ => m - (intOf i).toNat)
 case atStart => exact ⟨0, 0, Nat.zero_le _, Nat.zero_le _, rfl, rfl, ⟨fun _ i h => absurd h (Nat.not_lt_zero _), fun _ => rfl⟩, Below.refl _ _⟩
 case round =>
  obtain ⟨j, e, hj, he, rfl, rfl, hall, hbw⟩ := hrel
  have HALL := hid hall
  have HBW := hid hbw
  clear hall hbw
  by_cases hlt : j < m
  ·have t0 := tree_cell HBW.out
   obtain ⟨a0, a1⟩ := (HK.out.below (btree HBW.out) hg) j hlt
   obtain ⟨a2, _⟩ := (HN.out.below (btree HBW.out) hb) (ks j) a1
   have HS := hid (AllE_step HALL.out he)
   cases hE : isE (nd (ks j)).kind
   ·have NX := hid (HS.out.2 hE)
    clear HS
    go_wp2
    go_region_with (go_at_call 47; refine (l2E_any _ _).mono ?_; rintro e w' ⟨rfl, hw⟩; have hw2 := hw.symm; clear hw; subst hw2)
    all_goals go_wp2
    all_goals
     go_roundw
     case rel => exact ⟨j + 1, e, by omega, by omega, by go_num, rfl, NX.out, HBW.out.drew⟩
     case measure => simp [intOf]; omega
   ·have NX := hid (HS.out.1 hE)
    clear HS
    go_wp2
    go_region_with (go_at_call 47; refine (l2E_any _ _).mono ?_; rintro e w' ⟨rfl, hw⟩; have hw2 := hw.symm; clear hw; subst hw2)
    all_goals go_wp2
    all_goals
     go_roundw
     case rel => exact ⟨j + 1, e + 1, by omega, by omega, by go_num, by go_num, NX.out, HBW.out.drew⟩
     case measure => simp [intOf]; omega
  ·obtain rfl : j = m := by omega
   rcases hkind with rfl | rfl | rfl | rfl | rfl | rfl
   all_goals go_wp2
   all_goals go_ret
   all_goals refine ⟨⟨_, rfl, ?_⟩, btree HBW.out⟩
   all_goals simp [KidsOk, ← HALL.out, *]
   all_goals omega
end Go.Proofs.YtbakebdfmdepnaaGreatDoor
namespace Go.Proofs.YtbakebdfmdepnaaGreatDoor.K
open Go.RowKit
set_option maxRecDepth 20000
theorem unq_text (s : ByteArray) (n : Nat) (hn : n < s.size) : unqF ((s.data.toList.drop (n + 1)).length + 1) (s.data.toList.drop (n + 1)) = (unqAt (s.size - n) s.data.toList (n + 1) []).map fun x => (x.1, x.2 - (n + 1)) := by
 have hl : (s.data.toList.drop (n + 1)).length + 1 = s.size - n := by rw [List.length_drop, len_size]; omega
 rw [hl]; unfold unqAt
 cases unqF (s.size - n) (s.data.toList.drop (n + 1)) with
 | none => rfl
 | some x => simp
theorem text_one (s : ByteArray) (n : Nat) (hn : n < s.size) :
  (unqAt (s.size - n) s.data.toList (n + 1) [] = none → textOne (s.data.toList.drop (n + 1)) = One.bad 4) ∧
  (∀ o q, unqAt (s.size - n) s.data.toList (n + 1) [] = some (o, q) → n + 1 < q ∧ q ≤ s.size ∧ (1000 < o.length → textOne (s.data.toList.drop (n + 1)) = One.bad 5) ∧ (o.length ≤ 1000 → textOne (s.data.toList.drop (n + 1)) = ⟨4, o, 0, q - n, 0⟩)) := by
 have hu := unq_text s n hn
 constructor
 ·intro h; rw [h] at hu; unfold textOne; rw [hu]; rfl
 ·intro o q h
  rw [h] at hu
  have hq := unqF_pos hu
  rw [List.length_drop, len_size] at hq
  have h1 : n + 1 < q := by omega
  have h2 : q ≤ s.size := by omega
  refine ⟨h1, h2, fun h3 => ?_, fun h3 => ?_⟩
  ·unfold textOne; rw [hu]; exact if_pos h3
  ·unfold textOne; rw [hu]
   have e : q - (n + 1) + 1 = q - n := by omega
   show (if 1000 < o.length then One.bad 5 else ⟨4, o, 0, q - (n + 1) + 1, 0⟩) = _
   rw [if_neg (by omega), e]
theorem markS_size (k : Nat) : (markS k).size = (marks.getD k []).length := by simp [markS, ByteArray.size]
theorem mark_first (L : List UInt8) (k : Nat) (hk : k < 23) (hp : (marks.getD k []).isPrefixOf L = true) (hn : ∀ j, j < k → (marks.getD j []).isPrefixOf L = false) : markOne L = ⟨5, marks.getD k [], 0, (marks.getD k []).length, 0⟩ := by
 have hk' : k < marks.length := hk
 have e : marks.find? (fun m => m.isPrefixOf L) = some (marks.getD k []) := by
  rw [List.find?_eq_some_iff_getElem]
  refine ⟨hp, k, hk', by simp [hk'], fun j hj => ?_⟩
  have := hn j hj
  have hj' : j < marks.length := by omega
  simp [hj'] at this
  simp [this]
 unfold markOne; rw [e]
theorem mark_none (L : List UInt8) (hn : ∀ j, j < 23 → (marks.getD j []).isPrefixOf L = false) : markOne L = One.bad 2 := by
 have e : marks.find? (fun m => m.isPrefixOf L) = none := by
  rw [List.find?_eq_none]
  intro x hx
  obtain ⟨j, hj, rfl⟩ := List.getElem_of_mem hx
  have := hn j hj
  simp [hj] at this
  simp [this]
 unfold markOne; rw [e]
theorem mark_at (s : ByteArray) (n k : Nat) (hn : n < s.size) :
  ((marks.getD k []).isPrefixOf (s.data.toList.drop n) = true → ((markS k).size : Int) ≤ (s.size : Int) - (n : Int) ∧ (n : Int) + ((markS k).size : Int) ≤ s.size ∧ ((s.extract n (n + (markS k).size)).toList == (markS k).toList) = true) ∧
  ((marks.getD k []).isPrefixOf (s.data.toList.drop n) = false → n + (markS k).size ≤ s.size → ((s.extract n (n + (markS k).size)).toList == (markS k).toList) = false) := by
 have e1 : (markS k).toList = marks.getD k [] := by rw [Lib.toList_data]; simp [markS]
 have e2 : (s.extract n (n + (markS k).size)).toList = (s.data.toList.drop n).take (marks.getD k []).length := by rw [Lib.toList_data, extract_list, markS_size]
 rw [e1, e2, markS_size]
 constructor
 ·intro h
  have h := List.isPrefixOf_iff_prefix.1 h
  have hl := h.length_le
  rw [List.length_drop, len_size] at hl
  refine ⟨by omega, by omega, ?_⟩
  rw [beq_iff_eq]; exact (List.prefix_iff_eq_take.1 h).symm
 ·intro h hl
  rw [beq_eq_false_iff_ne]
  intro e
  have : (marks.getD k []) <+: (s.data.toList.drop n) := List.prefix_iff_eq_take.2 e.symm
  rw [List.isPrefixOf_iff_prefix.2 this] at h; cases h
theorem markS_cell1 (w : World) (X : Obj) (i : Nat) (h : i < 23) : ((w.alloc X).alloc (.cells (marks.map fun x => Value.string ⟨x.toArray⟩).toArray 9)).cell? ⟨w.heap.size + 1, i, none⟩ = some (.string (markS i)) := by
 have h := markS_cell (w.alloc X) i h
 rw [World.size_alloc] at h
 exact h
set_option maxHeartbeats 1000000 in
theorem l1One_text (s : ByteArray) (n : Nat) (w : World) (hs : s.size ≤ 8000) (hn : n < s.size) (hd : dig (s[n].toNat : Int) = false) (hbg : beg (s[n].toNat : Int) = false) (hq : ((s[n].toNat : Int) == 34) = true) :
  Calls Tryz.prog 77 #[.string s, .int .i64 n] w fun e w' => e = .returned (oneV (textOne (s.data.toList.drop (n + 1))) n) ∧ Below w.heap.size w w' := by
 have HT := hid (text_one s n hn)
 generalize hU : unqAt (s.size - n) s.data.toList (n + 1) [] = U
 rw [hU] at HT
 have HU := hid hU
 clear hU
 cases U with
 | none =>
  have HE := hid (oneV_bad (HT.out.1 rfl) (by decide) n)
  clear HT
  go_enter Tryz.func77, Tryz.ntmps77
  go_wp2_with (first
   | (go_at_call 70; refine (l1Digit_any _ _).mono ?_; rintro e w' ⟨rfl, hw⟩; have hw2 := hw.symm; clear hw; subst hw2)
   | (go_at_call 71; refine (l1Begins_any _ _).mono ?_; rintro e w' ⟨rfl, hw⟩; have hw2 := hw.symm; clear hw; subst hw2)
   | (go_at_call 95; refine (l1Unquote_any s n _ hs hn).mono ?_; rintro e w1 ⟨rfl, hb⟩; rw [HU.out]; unfold unqV; obtain ⟨hc, hf⟩ := bcell hb; have hz : w.heap.size + 1 ≤ w1.heap.size := by (have := hb.size; simp at this; omega)))
  have HBB := hid hb
  refine bodyPost_ret (v := .tuple #[.agg #[.int .i64 0, .string ⟨#[]⟩, .int .i64 0, .int .i64 0], .int .i64 0, .int .i64 4]) (by simp [results, Tryz.results77, go_sem, hc]) rfl ⟨by rw [HE.out]; rfl, ?_⟩
  exact below_set4 (Below.trans ((Below.refl w.heap.size w).alloc (Nat.le_refl _) _) (HBB.out.mono (B' := w.heap.size) (by simp)))
 | some x =>
  obtain ⟨o, q⟩ := x
  obtain ⟨hq1, hq2, h5, h4⟩ := HT.out.2 o q rfl
  by_cases hl : 1000 < o.length
  ·have HE := hid (oneV_bad (h5 hl) (by decide) n)
   clear HT h5 h4
   have hl' : 1000 < (o.length : Int) := by omega
   clear hl
   go_enter Tryz.func77, Tryz.ntmps77
   go_wp2_with (first
    | (go_at_call 70; refine (l1Digit_any _ _).mono ?_; rintro e w' ⟨rfl, hw⟩; have hw2 := hw.symm; clear hw; subst hw2)
    | (go_at_call 71; refine (l1Begins_any _ _).mono ?_; rintro e w' ⟨rfl, hw⟩; have hw2 := hw.symm; clear hw; subst hw2)
    | (go_at_call 95; refine (l1Unquote_any s n _ hs hn).mono ?_; rintro e w1 ⟨rfl, hb⟩; rw [HU.out]; unfold unqV; obtain ⟨hc, hf⟩ := bcell hb; have hz : w.heap.size + 1 ≤ w1.heap.size := by (have := hb.size; simp at this; omega)))
   have HBB := hid hb
   refine bodyPost_ret (v := .tuple #[.agg #[.int .i64 0, .string ⟨#[]⟩, .int .i64 0, .int .i64 0], .int .i64 0, .int .i64 5]) (by simp [results, Tryz.results77, go_sem, hc]) rfl ⟨by rw [HE.out]; rfl, ?_⟩
   exact below_set4 (Below.trans ((Below.refl w.heap.size w).alloc (Nat.le_refl _) _) (HBB.out.mono (B' := w.heap.size) (by simp)))
  ·have HE := hid (oneV_good (h4 (by omega)) n)
   clear HT h5 h4
   have hl' : (o.length : Int) ≤ 1000 := by omega
   have HQ : Hid ((n : Int) + ((q - n : Nat) : Int) = (q : Int)) := by show _ = _; omega
   clear hl
   go_enter Tryz.func77, Tryz.ntmps77
   go_wp2_with (first
    | (go_at_call 70; refine (l1Digit_any _ _).mono ?_; rintro e w' ⟨rfl, hw⟩; have hw2 := hw.symm; clear hw; subst hw2)
    | (go_at_call 71; refine (l1Begins_any _ _).mono ?_; rintro e w' ⟨rfl, hw⟩; have hw2 := hw.symm; clear hw; subst hw2)
    | (go_at_call 95; refine (l1Unquote_any s n _ hs hn).mono ?_; rintro e w1 ⟨rfl, hb⟩; rw [HU.out]; unfold unqV; obtain ⟨hc, hf⟩ := bcell hb; have hz : w.heap.size + 1 ≤ w1.heap.size := by (have := hb.size; simp at this; omega)))
   have HBB := hid hb
   refine bodyPost_ret (v := .tuple #[.agg #[.int .i64 4, .string ⟨o.toArray⟩, .int .i64 0, .int .i64 n], .int .i64 q, .int .i64 0]) (by simp [results, Tryz.results77, go_sem, hc]) rfl ⟨by rw [HE.out, HQ.out]; rfl, ?_⟩
   exact below_set4 (Below.trans ((Below.refl w.heap.size w).alloc (Nat.le_refl _) _) (HBB.out.mono (B' := w.heap.size) (by simp)))
set_option maxHeartbeats 1000000 in
theorem l1One_mark (s : ByteArray) (n : Nat) (w : World) (hs : s.size ≤ 8000) (hn : n < s.size) (hd : dig (s[n].toNat : Int) = false) (hbg : beg (s[n].toNat : Int) = false) (hq : ((s[n].toNat : Int) == 34) = false) :
  Calls Tryz.prog 77 #[.string s, .int .i64 n] w fun e w' => e = .returned (oneV (markOne (s.data.toList.drop n)) n) ∧ Below w.heap.size w w' := by
 go_enter Tryz.func77, Tryz.ntmps77
 go_wp2_with (first
  | (go_at_call 70; refine (l1Digit_any _ _).mono ?_; rintro e w' ⟨rfl, hw⟩; have hw2 := hw.symm; clear hw; subst hw2)
  | (go_at_call 71; refine (l1Begins_any _ _).mono ?_; rintro e w' ⟨rfl, hw⟩; have hw2 := hw.symm; clear hw; subst hw2)
  | (go_at_call 96; refine (l1Marks_any _).mono ?_; rintro e w' ⟨rfl, rfl⟩))
 go_loop [13] (fun i => ∃ k : Nat, k ≤ 23 ∧ i = .int .i64 k ∧ ∀ j, j < k → (marks.getD j []).isPrefixOf (s.data.toList.drop n) = false) (fun i => 23 - (intOf i).toNat)
 case atStart => exact ⟨0, Nat.zero_le _, rfl, fun j h => absurd h (Nat.not_lt_zero _)⟩
 case round =>
  obtain ⟨k, hk, rfl, hno⟩ := hrel
  have HNO := hid hno
  clear hno
  by_cases hlt : k < 23
  ·have hcell := markS_cell1 w (.cells #[.int .i64 0, .string ⟨#[]⟩, .int .i64 0, .int .i64 0] 120) k hlt
   have HM := hid (mark_at s n k hn)
   by_cases hp : (marks.getD k []).isPrefixOf (s.data.toList.drop n) = true
   ·obtain ⟨hz, hz2, he⟩ := HM.out.1 hp
    have HE := hid (oneV_good (mark_first _ k hlt hp HNO.out) n)
    clear HM hp
    go_wp2
    refine bodyPost_ret (v := .tuple #[.agg #[.int .i64 5, .string (markS k), .int .i64 0, .int .i64 n], .int .i64 (n + (markS k).size), .int .i64 0]) (by simp [results, Tryz.results77, go_sem]) rfl ⟨by rw [HE.out, ← markS_size]; rfl, ?_⟩
    exact ((Below.refl w.heap.size w).alloc (Nat.le_refl _) _).alloc (by simp) _
   ·have hp' : (marks.getD k []).isPrefixOf (s.data.toList.drop n) = false := Bool.eq_false_iff.2 hp
    have HN2 : Hid (∀ j, j < k + 1 → (marks.getD j []).isPrefixOf (s.data.toList.drop n) = false) := fun j hj => by
     rcases Nat.lt_or_eq_of_le (Nat.lt_succ_iff.1 hj) with h | h
     ·exact HNO.out j h
     ·subst h; exact hp'
    by_cases hz : ((markS k).size : Int) ≤ (s.size : Int) - (n : Int)
    ·have hz2 : (n : Int) + ((markS k).size : Int) ≤ s.size := by omega
     have he := HM.out.2 hp' (by omega)
     clear HM hp hp'
     go_wp2
     go_round
     case rel => exact ⟨k + 1, by omega, by go_num, HN2.out⟩
     case measure => simp [intOf]; omega
    ·clear HM hp hp'
     go_wp2
     go_round
     case rel => exact ⟨k + 1, by omega, by go_num, HN2.out⟩
     case measure => simp [intOf]; omega
  ·have HE := hid (oneV_bad (mark_none _ (fun j hj => HNO.out j (by omega))) (by decide) n)
   go_wp2
   refine bodyPost_ret (v := .tuple #[.agg #[.int .i64 0, .string ⟨#[]⟩, .int .i64 0, .int .i64 0], .int .i64 0, .int .i64 2]) (by simp [results, Tryz.results77, go_sem]) rfl ⟨by rw [HE.out]; rfl, ?_⟩
   exact ((Below.refl w.heap.size w).alloc (Nat.le_refl _) _).alloc (by simp) _
theorem l1One_any (s : ByteArray) (n : Nat) (w : World) (hs : s.size ≤ 8000) (hn : n < s.size) :
  Calls Tryz.prog 77 #[.string s, .int .i64 n] w fun e w' => e = .returned (oneV (one (s.data.toList.drop n)) n) ∧ Below w.heap.size w w' := by
 have hl : n < s.data.toList.length := by rw [len_size]; exact hn
 have hd : s.data.toList.drop n = s[n] :: s.data.toList.drop (n + 1) := List.drop_eq_getElem_cons hl
 rw [hd]
 simp only [one]
 by_cases h1 : s[n].toNat = 34
 ·rw [if_pos h1]
  exact l1One_text s n w hs hn (by unfold dig; simp; omega) (by unfold beg; rw [Bool.eq_false_iff]; simp; omega) (by rw [beq_iff_eq]; omega)
 ·rw [if_neg h1]
  have h1' : ((s[n].toNat : Int) == 34) = false := by rw [beq_eq_false_iff_ne]; omega
  by_cases h2 : digB s[n] = true
  ·rw [if_pos h2, ← hd]; exact l1One_num s n w hs hn h2
  ·rw [if_neg h2]
   have h2' : dig (s[n].toNat : Int) = false := by simpa [digB] using h2
   by_cases h3 : letB s[n] = true
   ·rw [if_pos h3, ← hd]
    have h3' : beg (s[n].toNat : Int) = true := by
     unfold letB let_ at h3; rw [h2'] at h3; simpa using h3
    exact l1One_name s n w hs hn h2' h3'
   ·rw [if_neg h3, ← hd]
    have h3' : beg (s[n].toNat : Int) = false := by
     unfold letB let_ at h3; rw [h2'] at h3; simpa using h3
    exact l1One_mark s n w hs hn h2' h3' h1'
end Go.Proofs.YtbakebdfmdepnaaGreatDoor.K
