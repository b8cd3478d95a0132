import Derived.Test.YtbakebdfmdepnaaGreatDoorJ34
namespace Go.Proofs.YtbakebdfmdepnaaGreatDoor.K
open Go.RowKit
set_option maxRecDepth 20000
theorem bcell {W w1 : World} (hb : Below W.heap.size W w1) : (∀ b o, b < W.heap.size → w1.cell? ⟨b, o, none⟩ = W.cell? ⟨b, o, none⟩) ∧ (∀ b o, b < W.heap.size → w1.frozen? ⟨b, o, none⟩ = W.frozen? ⟨b, o, none⟩) :=
 ⟨fun b o h => hb.cell (p := ⟨b, o, none⟩) h, fun b o h => hb.frozen (p := ⟨b, o, none⟩) h⟩
theorem below_set4 {w w1 : World} {a b c d : Value} (h : Below w.heap.size w w1) : Below w.heap.size w ((((w1.setCell ⟨w.heap.size, 0, none⟩ a).setCell ⟨w.heap.size, 1, none⟩ b).setCell ⟨w.heap.size, 2, none⟩ c).setCell ⟨w.heap.size, 3, none⟩ d) :=
 (((h.setCell (p := ⟨w.heap.size, 0, none⟩) (Nat.le_refl _) _).setCell (p := ⟨w.heap.size, 1, none⟩) (Nat.le_refl _) _).setCell (p := ⟨w.heap.size, 2, none⟩) (Nat.le_refl _) _).setCell (p := ⟨w.heap.size, 3, none⟩) (Nat.le_refl _) _
set_option maxHeartbeats 1000000 in
theorem l1One_num (s : ByteArray) (n : Nat) (w : World) (hs : s.size ≤ 8000) (hn : n < s.size) (hd : dig (s[n].toNat : Int) = true) :
  Calls Tryz.prog 77 #[.string s, .int .i64 n] w fun e w' => e = .returned (oneV (numOne (s.data.toList.drop n)) n) ∧ Below w.heap.size w w' := by
 generalize hO : numOne (s.data.toList.drop n) = O
 have HO := hid hO
 clear hO
 by_cases hc : O.code = 0
 ·have HV : Hid (oneV O n = .tuple #[.agg #[.int .i64 O.kind, .string ⟨O.text.toArray⟩, .int .i64 O.n, .int .i64 n], .int .i64 (n + O.size), .int .i64 0]) := if_pos hc
  clear hc
  go_enter Tryz.func77, Tryz.ntmps77
  go_wp2_with (first
   | (go_at_call 70; refine (l1Digit_any _ _).mono ?_; rintro e w' ⟨rfl, hw⟩; have hw2 := hw.symm; clear hw; subst hw2)
   | (go_at_call 94; refine (l1Number_any s n _ hs hn).mono ?_; rintro e w1 ⟨rfl, hb⟩; rw [HO.out, HV.out]; obtain ⟨hc, hf⟩ := bcell hb; have hz : w.heap.size + 1 ≤ w1.heap.size := by (have := hb.size; simp at this; omega)))
  have HBB := hid hb
  refine bodyPost_ret (v := .tuple #[.agg #[.int .i64 O.kind, .string ⟨O.text.toArray⟩, .int .i64 O.n, .int .i64 n], .int .i64 (n + O.size), .int .i64 0]) (by simp [results, Tryz.results77, go_sem, hc]) rfl ⟨by rw [HV.out], ?_⟩
  exact below_set4 (Below.trans ((Below.refl w.heap.size w).alloc (Nat.le_refl _) _) (HBB.out.mono (B' := w.heap.size) (by simp)))
 ·have HV : Hid (oneV O n = .tuple #[.agg #[.int .i64 0, .string ⟨#[]⟩, .int .i64 0, .int .i64 0], .int .i64 0, .int .i64 O.code]) := if_neg hc
  clear hc
  go_enter Tryz.func77, Tryz.ntmps77
  go_wp2_with (first
   | (go_at_call 70; refine (l1Digit_any _ _).mono ?_; rintro e w' ⟨rfl, hw⟩; have hw2 := hw.symm; clear hw; subst hw2)
   | (go_at_call 94; refine (l1Number_any s n _ hs hn).mono ?_; rintro e w1 ⟨rfl, hb⟩; rw [HO.out, HV.out]; obtain ⟨hc, hf⟩ := bcell hb; have hz : w.heap.size + 1 ≤ w1.heap.size := by (have := hb.size; simp at this; omega)))
  have HBB := hid hb
  refine bodyPost_ret (v := .tuple #[.agg #[.int .i64 0, .string ⟨#[]⟩, .int .i64 0, .int .i64 0], .int .i64 0, .int .i64 O.code]) (by simp [results, Tryz.results77, go_sem, hc]) rfl ⟨by rw [HV.out], ?_⟩
  exact below_set4 (Below.trans ((Below.refl w.heap.size w).alloc (Nat.le_refl _) _) (HBB.out.mono (B' := w.heap.size) (by simp)))
theorem wordS_cell1 (w : World) (X : Obj) (i : Nat) (h : i < 17) : ((w.alloc X).alloc (.cells (words.map fun x => Value.string ⟨x.toArray⟩).toArray 9)).cell? ⟨w.heap.size + 1, i, none⟩ = some (.string (wordS i)) := by
 have h := wordS_cell (w.alloc X) i h
 rw [World.size_alloc] at h
 exact h
theorem extract_list (s : ByteArray) (n k : Nat) : (s.extract n (n + k)).data.toList = (s.data.toList.drop n).take k := by
 have e := ByteArray.data_extract (a := s) (b := n) (e := n + k)
 rw [e, Array.toList_extract]
 simp [List.extract_eq_take_drop]
set_option maxHeartbeats 1000000 in
theorem l1One_name (s : ByteArray) (n : Nat) (w : World) (hs : s.size ≤ 8000) (hn : n < s.size) (hd : dig (s[n].toNat : Int) = false) (hbg : beg (s[n].toNat : Int) = true) :
  Calls Tryz.prog 77 #[.string s, .int .i64 n] w fun e w' => e = .returned (oneV (nameOne (s.data.toList.drop n)) n) ∧ Below w.heap.size w w' := by
 obtain ⟨L, hL⟩ : ∃ L, s.data.toList.drop n = L := ⟨_, rfl⟩
 rw [hL]
 have HL : Hid (s.data.toList.drop n = L) := hL
 clear hL
 have HLEN : Hid (L.length = s.size - n) := by show _ = _; rw [← HL.out, List.length_drop, len_size]
 have HRL := hid (run_le letB L)
 go_enter Tryz.func77, Tryz.ntmps77
 go_wp2_with (first
   | (go_at_call 70; refine (l1Digit_any _ _).mono ?_; rintro e w' ⟨rfl, hw⟩; have hw2 := hw.symm; clear hw; subst hw2)
   | (go_at_call 71; refine (l1Begins_any _ _).mono ?_; rintro e w' ⟨rfl, hw⟩; have hw2 := hw.symm; clear hw; subst hw2))
 go_loop [7] (fun e => ∃ k : Nat, k ≤ run letB L ∧ n + k ≤ s.size ∧ e = .int .i64 ((n + k : Nat) : Int)) (fun e => s.size - (intOf e).toNat)
 case atStart => exact ⟨0, Nat.zero_le _, by omega, rfl⟩
 case round =>
  obtain ⟨k, hk, hks, rfl⟩ := hrel
  by_cases hq : k < run letB L
  ·have hlt : n + k < s.size := by have := HLEN.out; have := HRL.out; omega
   have hp : let_ (s[n + k].toNat : Int) = true := by
    have h1 := run_all letB L (run letB L) (Nat.le_refl _) k hq (by have := HLEN.out; omega)
    rw [drop_get _ L n k HL.out (by rw [len_size]; exact hlt)] at h1
    exact h1
   go_wp2_with (go_at_call 74; refine (l1Letter_any _ _).mono ?_; rintro e w' ⟨rfl, hw⟩; have hw2 := hw.symm; clear hw; subst hw2)
   go_round
   case rel => exact ⟨k + 1, by omega, by omega, by go_num⟩
   case measure => simp [intOf]; omega
  ·have hke : k = run letB L := by omega
   have HTL : Hid ((s.extract n (n + k)).data.toList = L.take k) := by show _ = _; rw [extract_list s n k, HL.out]
   have HTX : Hid ((⟨(L.take k).toArray⟩ : ByteArray) = s.extract n (n + k)) := by show _ = _; rw [← HTL.out]
   have hsz : (s.extract n (n + k)).size = k := by simp; omega
   have HKE := hid hke
   clear hke
   by_cases hlt : n + k < s.size
   ·have hp : let_ (s[n + k].toNat : Int) = false := by
     cases h : let_ (s[n + k].toNat : Int)
     ·rfl
     ·have h1 := run_step letB L k hk (by have := HLEN.out; omega) (by rw [drop_get _ L n k HL.out (by rw [len_size]; exact hlt)]; exact h)
      have := HKE.out; omega
    clear hk hq
    by_cases hw : L.take k ∈ words
    ·have HDEC : Hid (decide ((s.extract n (n + k)).data.toList ∈ words) = true) := by show _ = _; rw [HTL.out]; simpa using hw
     have HE : Hid (oneV (nameOne L) n = .tuple #[.agg #[.int .i64 2, .string (s.extract n (n + k)), .int .i64 0, .int .i64 n], .int .i64 ((n + k : Nat) : Int), .int .i64 0]) := by
      show _ = _; rw [oneV_good (k := 2) (t := L.take k) (n := 0) (z := k) (by unfold nameOne; rw [← HKE.out, if_pos hw])]
      rw [HTX.out]; rfl
     clear hw HKE
     go_wp2_with (first
      | (go_at_call 74; refine (l1Letter_any _ _).mono ?_; rintro e w' ⟨rfl, hw⟩; have hw2 := hw.symm; clear hw; subst hw2)
      | (go_at_call 73; refine (l1Words_any _).mono ?_; rintro e w' ⟨rfl, rfl⟩)
      | (go_at_call 72; refine (l1Has_words _ _ (w.heap.size + 1) (fun i hi => wordS_cell1 w _ i hi)).mono ?_; rintro e w' ⟨rfl, rfl⟩; rw [HDEC.out]))
     refine bodyPost_ret (v := .tuple #[.agg #[.int .i64 2, .string (s.extract n (n + k)), .int .i64 0, .int .i64 n], .int .i64 ((n + k : Nat) : Int), .int .i64 0]) (by simp [results, Tryz.results77, go_sem]) rfl ⟨by rw [HE.out], ?_⟩
     repeat (refine Below.setCell ?_ (Nat.le_refl _) _)
     exact ((Below.refl w.heap.size w).alloc (Nat.le_refl _) _).alloc (by simp) _
    ·have HDEC : Hid (decide ((s.extract n (n + k)).data.toList ∈ words) = false) := by show _ = _; rw [HTL.out]; simpa using hw
     by_cases h30 : 30 < k
     ·have HE : Hid (oneV (nameOne L) n = .tuple #[.agg #[.int .i64 0, .string ⟨#[]⟩, .int .i64 0, .int .i64 0], .int .i64 0, .int .i64 5]) := by
       show _ = _; rw [oneV_bad (c := 5) (by unfold nameOne; rw [← HKE.out, if_neg hw, if_pos h30]) (by decide)]; rfl
      clear hw HKE
      go_wp2_with (first
      | (go_at_call 74; refine (l1Letter_any _ _).mono ?_; rintro e w' ⟨rfl, hw⟩; have hw2 := hw.symm; clear hw; subst hw2)
      | (go_at_call 73; refine (l1Words_any _).mono ?_; rintro e w' ⟨rfl, rfl⟩)
      | (go_at_call 72; refine (l1Has_words _ _ (w.heap.size + 1) (fun i hi => wordS_cell1 w _ i hi)).mono ?_; rintro e w' ⟨rfl, rfl⟩; rw [HDEC.out]))
      refine bodyPost_ret (v := .tuple #[.agg #[.int .i64 0, .string ⟨#[]⟩, .int .i64 0, .int .i64 0], .int .i64 0, .int .i64 5]) (by simp [results, Tryz.results77, go_sem]) rfl ⟨by rw [HE.out], ?_⟩
      repeat (refine Below.setCell ?_ (Nat.le_refl _) _)
      exact ((Below.refl w.heap.size w).alloc (Nat.le_refl _) _).alloc (by simp) _
     ·have HE : Hid (oneV (nameOne L) n = .tuple #[.agg #[.int .i64 1, .string (s.extract n (n + k)), .int .i64 0, .int .i64 n], .int .i64 ((n + k : Nat) : Int), .int .i64 0]) := by
       show _ = _; rw [oneV_good (k := 1) (t := L.take k) (n := 0) (z := k) (by unfold nameOne; rw [← HKE.out, if_neg hw, if_neg h30])]
       rw [HTX.out]; rfl
      clear hw HKE
      go_wp2_with (first
      | (go_at_call 74; refine (l1Letter_any _ _).mono ?_; rintro e w' ⟨rfl, hw⟩; have hw2 := hw.symm; clear hw; subst hw2)
      | (go_at_call 73; refine (l1Words_any _).mono ?_; rintro e w' ⟨rfl, rfl⟩)
      | (go_at_call 72; refine (l1Has_words _ _ (w.heap.size + 1) (fun i hi => wordS_cell1 w _ i hi)).mono ?_; rintro e w' ⟨rfl, rfl⟩; rw [HDEC.out]))
      refine bodyPost_ret (v := .tuple #[.agg #[.int .i64 1, .string (s.extract n (n + k)), .int .i64 0, .int .i64 n], .int .i64 ((n + k : Nat) : Int), .int .i64 0]) (by simp [results, Tryz.results77, go_sem]) rfl ⟨by rw [HE.out], ?_⟩
      repeat (refine Below.setCell ?_ (Nat.le_refl _) _)
      exact ((Below.refl w.heap.size w).alloc (Nat.le_refl _) _).alloc (by simp) _
   ·clear hk hq
    by_cases hw : L.take k ∈ words
    ·have HDEC : Hid (decide ((s.extract n (n + k)).data.toList ∈ words) = true) := by show _ = _; rw [HTL.out]; simpa using hw
     have HE : Hid (oneV (nameOne L) n = .tuple #[.agg #[.int .i64 2, .string (s.extract n (n + k)), .int .i64 0, .int .i64 n], .int .i64 ((n + k : Nat) : Int), .int .i64 0]) := by
      show _ = _; rw [oneV_good (k := 2) (t := L.take k) (n := 0) (z := k) (by unfold nameOne; rw [← HKE.out, if_pos hw])]
      rw [HTX.out]; rfl
     clear hw HKE
     go_wp2_with (first
      | (go_at_call 74; refine (l1Letter_any _ _).mono ?_; rintro e w' ⟨rfl, hw⟩; have hw2 := hw.symm; clear hw; subst hw2)
      | (go_at_call 73; refine (l1Words_any _).mono ?_; rintro e w' ⟨rfl, rfl⟩)
      | (go_at_call 72; refine (l1Has_words _ _ (w.heap.size + 1) (fun i hi => wordS_cell1 w _ i hi)).mono ?_; rintro e w' ⟨rfl, rfl⟩; rw [HDEC.out]))
     refine bodyPost_ret (v := .tuple #[.agg #[.int .i64 2, .string (s.extract n (n + k)), .int .i64 0, .int .i64 n], .int .i64 ((n + k : Nat) : Int), .int .i64 0]) (by simp [results, Tryz.results77, go_sem]) rfl ⟨by rw [HE.out], ?_⟩
     repeat (refine Below.setCell ?_ (Nat.le_refl _) _)
     exact ((Below.refl w.heap.size w).alloc (Nat.le_refl _) _).alloc (by simp) _
    ·have HDEC : Hid (decide ((s.extract n (n + k)).data.toList ∈ words) = false) := by show _ = _; rw [HTL.out]; simpa using hw
     by_cases h30 : 30 < k
     ·have HE : Hid (oneV (nameOne L) n = .tuple #[.agg #[.int .i64 0, .string ⟨#[]⟩, .int .i64 0, .int .i64 0], .int .i64 0, .int .i64 5]) := by
       show _ = _; rw [oneV_bad (c := 5) (by unfold nameOne; rw [← HKE.out, if_neg hw, if_pos h30]) (by decide)]; rfl
      clear hw HKE
      go_wp2_with (first
      | (go_at_call 74; refine (l1Letter_any _ _).mono ?_; rintro e w' ⟨rfl, hw⟩; have hw2 := hw.symm; clear hw; subst hw2)
      | (go_at_call 73; refine (l1Words_any _).mono ?_; rintro e w' ⟨rfl, rfl⟩)
      | (go_at_call 72; refine (l1Has_words _ _ (w.heap.size + 1) (fun i hi => wordS_cell1 w _ i hi)).mono ?_; rintro e w' ⟨rfl, rfl⟩; rw [HDEC.out]))
      refine bodyPost_ret (v := .tuple #[.agg #[.int .i64 0, .string ⟨#[]⟩, .int .i64 0, .int .i64 0], .int .i64 0, .int .i64 5]) (by simp [results, Tryz.results77, go_sem]) rfl ⟨by rw [HE.out], ?_⟩
      repeat (refine Below.setCell ?_ (Nat.le_refl _) _)
      exact ((Below.refl w.heap.size w).alloc (Nat.le_refl _) _).alloc (by simp) _
     ·have HE : Hid (oneV (nameOne L) n = .tuple #[.agg #[.int .i64 1, .string (s.extract n (n + k)), .int .i64 0, .int .i64 n], .int .i64 ((n + k : Nat) : Int), .int .i64 0]) := by
       show _ = _; rw [oneV_good (k := 1) (t := L.take k) (n := 0) (z := k) (by unfold nameOne; rw [← HKE.out, if_neg hw, if_neg h30])]
       rw [HTX.out]; rfl
      clear hw HKE
      go_wp2_with (first
      | (go_at_call 74; refine (l1Letter_any _ _).mono ?_; rintro e w' ⟨rfl, hw⟩; have hw2 := hw.symm; clear hw; subst hw2)
      | (go_at_call 73; refine (l1Words_any _).mono ?_; rintro e w' ⟨rfl, rfl⟩)
      | (go_at_call 72; refine (l1Has_words _ _ (w.heap.size + 1) (fun i hi => wordS_cell1 w _ i hi)).mono ?_; rintro e w' ⟨rfl, rfl⟩; rw [HDEC.out]))
      refine bodyPost_ret (v := .tuple #[.agg #[.int .i64 1, .string (s.extract n (n + k)), .int .i64 0, .int .i64 n], .int .i64 ((n + k : Nat) : Int), .int .i64 0]) (by simp [results, Tryz.results77, go_sem]) rfl ⟨by rw [HE.out], ?_⟩
      repeat (refine Below.setCell ?_ (Nat.le_refl _) _)
      exact ((Below.refl w.heap.size w).alloc (Nat.le_refl _) _).alloc (by simp) _
end Go.Proofs.YtbakebdfmdepnaaGreatDoor.K
