import Derived.Test.YtdhcjmlcpnljiaaDoorIName
namespace Go.Proofs.YtdhcjmlcpnljiaaDoor
open Go.RowKit
set_option maxRecDepth 20000 in
set_option maxHeartbeats 1000000 in
theorem readTok_text (s : ByteArray) (r : Nat) (w : World) (hs : s.size ≤ 8000) (hp : 0 < s.size) (hq : ((s[0].toNat : Int) == 34) = true) :
    Calls Tryd.prog 47 #[.string s, .map (some r)] w fun e w' => e = .returned (oneV (textOne (s.data.toList.drop 1)) 0) ∧ Below w.heap.size w w' := by
  generalize hO : textOne (s.data.toList.drop 1) = O
  have HO := hid hO
  clear hO
  by_cases hc : O.code = 0
  · have HV : Hid (oneV O 0 = .tuple #[.agg #[.int .i64 O.kind, .string ⟨O.text.toArray⟩, .int .i64 O.n, .int .i64 0], .int .i64 O.size, .int .i64 0]) := by show _ = _; unfold oneV; rw [if_pos hc]; simp
    clear hc
    go_enter Tryd.func47, Tryd.ntmps47
    go_wp2_with (first
      | (go_at_call 64; refine (isDigit_any _ _).mono ?_; rintro e w' ⟨rfl, hw⟩; have hw2 := hw.symm; clear hw; subst hw2)
      | (go_at_call 66; refine (isName_any _ _).mono ?_; rintro e w' ⟨rfl, hw⟩; have hw2 := hw.symm; clear hw; subst hw2)
      | (go_at_call 63; refine (readText_any s _ hs hp).mono ?_; rintro e w1 ⟨rfl, hb⟩; rw [HO.out, HV.out]; have HB := hid hb; obtain ⟨⟨k0, k1, k2, k3⟩, ⟨k4, k5, k6, k7⟩⟩ := tok_cells (hb.mono (by simp)); clear hb))
    refine bodyPost_ret (v := .tuple #[.agg #[.int .i64 O.kind, .string ⟨O.text.toArray⟩, .int .i64 O.n, .int .i64 0], .int .i64 O.size, .int .i64 0]) (by simp [results, Tryd.results47, go_sem, k0, k1, k2, k3]) rfl ⟨by rw [HV.out], ?_⟩
    exact below_set4 (below_tok (HB.out.mono (by simp)))
  · have HV : Hid (oneV O 0 = .tuple #[.agg #[.int .i64 0, .string ⟨#[]⟩, .int .i64 0, .int .i64 0], .int .i64 0, .int .i64 O.code]) := if_neg hc
    clear hc
    go_enter Tryd.func47, Tryd.ntmps47
    go_wp2_with (first
      | (go_at_call 64; refine (isDigit_any _ _).mono ?_; rintro e w' ⟨rfl, hw⟩; have hw2 := hw.symm; clear hw; subst hw2)
      | (go_at_call 66; refine (isName_any _ _).mono ?_; rintro e w' ⟨rfl, hw⟩; have hw2 := hw.symm; clear hw; subst hw2)
      | (go_at_call 63; refine (readText_any s _ hs hp).mono ?_; rintro e w1 ⟨rfl, hb⟩; rw [HO.out, HV.out]; have HB := hid hb; obtain ⟨⟨k0, k1, k2, k3⟩, ⟨k4, k5, k6, k7⟩⟩ := tok_cells (hb.mono (by simp)); clear hb))
    refine bodyPost_ret (v := .tuple #[.agg #[.int .i64 0, .string ⟨#[]⟩, .int .i64 0, .int .i64 0], .int .i64 0, .int .i64 O.code]) (by simp [results, Tryd.results47, go_sem, k0, k1, k2, k3]) rfl ⟨by rw [HV.out], ?_⟩
    exact below_set4 (below_tok (HB.out.mono (by simp)))
set_option maxRecDepth 20000 in
set_option maxHeartbeats 1000000 in
theorem readTok_num (s : ByteArray) (r : Nat) (w : World) (hs : s.size ≤ 8000) (hp : 0 < s.size) (hq : ((s[0].toNat : Int) == 34) = false) (hd : dig (s[0].toNat : Int) = true) (hE : Env w) :
    Calls Tryd.prog 47 #[.string s, .map (some r)] w fun e w' => e = .returned (oneV (numOne s.data.toList) 0) ∧ Below w.heap.size w w' := by
  have HEn : Hid (∀ X : Obj, Env (w.alloc X)) := fun X => hE.below ((Below.refl _ _).alloc (Nat.le_refl _) _)
  clear hE
  generalize hO : numOne s.data.toList = O
  have HO := hid hO
  clear hO
  by_cases hc : O.code = 0
  · have HV : Hid (oneV O 0 = .tuple #[.agg #[.int .i64 O.kind, .string ⟨O.text.toArray⟩, .int .i64 O.n, .int .i64 0], .int .i64 O.size, .int .i64 0]) := by show _ = _; unfold oneV; rw [if_pos hc]; simp
    clear hc
    go_enter Tryd.func47, Tryd.ntmps47
    go_wp2_with (first
      | (go_at_call 64; refine (isDigit_any _ _).mono ?_; rintro e w' ⟨rfl, hw⟩; have hw2 := hw.symm; clear hw; subst hw2)
      | (go_at_call 66; refine (isName_any _ _).mono ?_; rintro e w' ⟨rfl, hw⟩; have hw2 := hw.symm; clear hw; subst hw2)
      | (go_at_call 65; refine (readNumber_any s _ hs hp hd (HEn.out _)).mono ?_; rintro e w1 ⟨rfl, hb⟩; rw [HO.out, HV.out]; have HB := hid hb; obtain ⟨⟨k0, k1, k2, k3⟩, ⟨k4, k5, k6, k7⟩⟩ := tok_cells (hb.mono (by simp)); clear hb))
    refine bodyPost_ret (v := .tuple #[.agg #[.int .i64 O.kind, .string ⟨O.text.toArray⟩, .int .i64 O.n, .int .i64 0], .int .i64 O.size, .int .i64 0]) (by simp [results, Tryd.results47, go_sem, k0, k1, k2, k3]) rfl ⟨by rw [HV.out], ?_⟩
    exact below_set4 (below_tok (HB.out.mono (by simp)))
  · have HV : Hid (oneV O 0 = .tuple #[.agg #[.int .i64 0, .string ⟨#[]⟩, .int .i64 0, .int .i64 0], .int .i64 0, .int .i64 O.code]) := if_neg hc
    clear hc
    go_enter Tryd.func47, Tryd.ntmps47
    go_wp2_with (first
      | (go_at_call 64; refine (isDigit_any _ _).mono ?_; rintro e w' ⟨rfl, hw⟩; have hw2 := hw.symm; clear hw; subst hw2)
      | (go_at_call 66; refine (isName_any _ _).mono ?_; rintro e w' ⟨rfl, hw⟩; have hw2 := hw.symm; clear hw; subst hw2)
      | (go_at_call 65; refine (readNumber_any s _ hs hp hd (HEn.out _)).mono ?_; rintro e w1 ⟨rfl, hb⟩; rw [HO.out, HV.out]; have HB := hid hb; obtain ⟨⟨k0, k1, k2, k3⟩, ⟨k4, k5, k6, k7⟩⟩ := tok_cells (hb.mono (by simp)); clear hb))
    refine bodyPost_ret (v := .tuple #[.agg #[.int .i64 0, .string ⟨#[]⟩, .int .i64 0, .int .i64 0], .int .i64 0, .int .i64 O.code]) (by simp [results, Tryd.results47, go_sem, k0, k1, k2, k3]) rfl ⟨by rw [HV.out], ?_⟩
    exact below_set4 (below_tok (HB.out.mono (by simp)))
set_option maxRecDepth 20000 in
set_option maxHeartbeats 1000000 in
theorem readTok_name (s : ByteArray) (r : Nat) (w : World) (hs : s.size ≤ 8000) (hp : 0 < s.size) (hq : ((s[0].toNat : Int) == 34) = false) (hd : dig (s[0].toNat : Int) = false) (hl : let_ (s[0].toNat : Int) = true) (hr : w.heap[r]? = some (.map (wordE 17) 17)) :
    Calls Tryd.prog 47 #[.string s, .map (some r)] w fun e w' => e = .returned (oneV (nameOne s.data.toList) 0) ∧ Below w.heap.size w w' := by
  have hrl : r < w.heap.size := (Array.getElem?_eq_some_iff.1 hr).1
  have HR : Hid (∀ X : Obj, (w.alloc X).heap[r]? = some (.map (wordE 17) 17)) := fun X => (Below.heap_alloc w X r hrl).trans hr
  clear hr hrl
  generalize hO : nameOne s.data.toList = O
  have HO := hid hO
  clear hO
  by_cases hc : O.code = 0
  · have HV : Hid (oneV O 0 = .tuple #[.agg #[.int .i64 O.kind, .string ⟨O.text.toArray⟩, .int .i64 O.n, .int .i64 0], .int .i64 O.size, .int .i64 0]) := by show _ = _; unfold oneV; rw [if_pos hc]; simp
    clear hc
    go_enter Tryd.func47, Tryd.ntmps47
    go_wp2_with (first
      | (go_at_call 64; refine (isDigit_any _ _).mono ?_; rintro e w' ⟨rfl, hw⟩; have hw2 := hw.symm; clear hw; subst hw2)
      | (go_at_call 66; refine (isName_any _ _).mono ?_; rintro e w' ⟨rfl, hw⟩; have hw2 := hw.symm; clear hw; subst hw2)
      | (go_at_call 67; refine (readName_any s r _ hs (HR.out _)).mono ?_; rintro e w1 ⟨rfl, hb⟩; rw [HO.out, HV.out]; have HB := hid hb; obtain ⟨⟨k0, k1, k2, k3⟩, ⟨k4, k5, k6, k7⟩⟩ := tok_cells (hb.mono (by simp)); clear hb))
    refine bodyPost_ret (v := .tuple #[.agg #[.int .i64 O.kind, .string ⟨O.text.toArray⟩, .int .i64 O.n, .int .i64 0], .int .i64 O.size, .int .i64 0]) (by simp [results, Tryd.results47, go_sem, k0, k1, k2, k3]) rfl ⟨by rw [HV.out], ?_⟩
    exact below_set4 (below_tok (HB.out.mono (by simp)))
  · have HV : Hid (oneV O 0 = .tuple #[.agg #[.int .i64 0, .string ⟨#[]⟩, .int .i64 0, .int .i64 0], .int .i64 0, .int .i64 O.code]) := if_neg hc
    clear hc
    go_enter Tryd.func47, Tryd.ntmps47
    go_wp2_with (first
      | (go_at_call 64; refine (isDigit_any _ _).mono ?_; rintro e w' ⟨rfl, hw⟩; have hw2 := hw.symm; clear hw; subst hw2)
      | (go_at_call 66; refine (isName_any _ _).mono ?_; rintro e w' ⟨rfl, hw⟩; have hw2 := hw.symm; clear hw; subst hw2)
      | (go_at_call 67; refine (readName_any s r _ hs (HR.out _)).mono ?_; rintro e w1 ⟨rfl, hb⟩; rw [HO.out, HV.out]; have HB := hid hb; obtain ⟨⟨k0, k1, k2, k3⟩, ⟨k4, k5, k6, k7⟩⟩ := tok_cells (hb.mono (by simp)); clear hb))
    refine bodyPost_ret (v := .tuple #[.agg #[.int .i64 0, .string ⟨#[]⟩, .int .i64 0, .int .i64 0], .int .i64 0, .int .i64 O.code]) (by simp [results, Tryd.results47, go_sem, k0, k1, k2, k3]) rfl ⟨by rw [HV.out], ?_⟩
    exact below_set4 (below_tok (HB.out.mono (by simp)))
set_option maxRecDepth 20000 in
set_option maxHeartbeats 1000000 in
theorem readTok_mark (s : ByteArray) (r : Nat) (w : World) (hp : 0 < s.size) (hq : ((s[0].toNat : Int) == 34) = false) (hd : dig (s[0].toNat : Int) = false) (hl : let_ (s[0].toNat : Int) = false) (hE : Env w) :
    Calls Tryd.prog 47 #[.string s, .map (some r)] w fun e w' => e = .returned (oneV (markOne s.data.toList) 0) ∧ Below w.heap.size w w' := by
  have HEn : Hid (∀ X : Obj, Env (w.alloc X)) := fun X => hE.below ((Below.refl _ _).alloc (Nat.le_refl _) _)
  clear hE
  generalize hO : markOne s.data.toList = O
  have HO := hid hO
  clear hO
  by_cases hc : O.code = 0
  · have HV : Hid (oneV O 0 = .tuple #[.agg #[.int .i64 O.kind, .string ⟨O.text.toArray⟩, .int .i64 O.n, .int .i64 0], .int .i64 O.size, .int .i64 0]) := by show _ = _; unfold oneV; rw [if_pos hc]; simp
    clear hc
    go_enter Tryd.func47, Tryd.ntmps47
    go_wp2_with (first
      | (go_at_call 64; refine (isDigit_any _ _).mono ?_; rintro e w' ⟨rfl, hw⟩; have hw2 := hw.symm; clear hw; subst hw2)
      | (go_at_call 66; refine (isName_any _ _).mono ?_; rintro e w' ⟨rfl, hw⟩; have hw2 := hw.symm; clear hw; subst hw2)
      | (go_at_call 68; refine (readMark_any s _ (HEn.out _)).mono ?_; rintro e w1 ⟨rfl, hb⟩; rw [HO.out, HV.out]; have HB := hid hb; obtain ⟨⟨k0, k1, k2, k3⟩, ⟨k4, k5, k6, k7⟩⟩ := tok_cells (hb.mono (by simp)); clear hb))
    refine bodyPost_ret (v := .tuple #[.agg #[.int .i64 O.kind, .string ⟨O.text.toArray⟩, .int .i64 O.n, .int .i64 0], .int .i64 O.size, .int .i64 0]) (by simp [results, Tryd.results47, go_sem, k0, k1, k2, k3]) rfl ⟨by rw [HV.out], ?_⟩
    exact below_set4 (below_tok (HB.out.mono (by simp)))
  · have HV : Hid (oneV O 0 = .tuple #[.agg #[.int .i64 0, .string ⟨#[]⟩, .int .i64 0, .int .i64 0], .int .i64 0, .int .i64 O.code]) := if_neg hc
    clear hc
    go_enter Tryd.func47, Tryd.ntmps47
    go_wp2_with (first
      | (go_at_call 64; refine (isDigit_any _ _).mono ?_; rintro e w' ⟨rfl, hw⟩; have hw2 := hw.symm; clear hw; subst hw2)
      | (go_at_call 66; refine (isName_any _ _).mono ?_; rintro e w' ⟨rfl, hw⟩; have hw2 := hw.symm; clear hw; subst hw2)
      | (go_at_call 68; refine (readMark_any s _ (HEn.out _)).mono ?_; rintro e w1 ⟨rfl, hb⟩; rw [HO.out, HV.out]; have HB := hid hb; obtain ⟨⟨k0, k1, k2, k3⟩, ⟨k4, k5, k6, k7⟩⟩ := tok_cells (hb.mono (by simp)); clear hb))
    refine bodyPost_ret (v := .tuple #[.agg #[.int .i64 0, .string ⟨#[]⟩, .int .i64 0, .int .i64 0], .int .i64 0, .int .i64 O.code]) (by simp [results, Tryd.results47, go_sem, k0, k1, k2, k3]) rfl ⟨by rw [HV.out], ?_⟩
    exact below_set4 (below_tok (HB.out.mono (by simp)))
/-- One token of the program's own. -/
theorem readTok_any (s : ByteArray) (r : Nat) (w : World) (hs : s.size ≤ 8000) (hp : 0 < s.size) (hr : w.heap[r]? = some (.map (wordE 17) 17)) (hE : Env w) :
    Calls Tryd.prog 47 #[.string s, .map (some r)] w fun e w' => e = .returned (oneV (one s.data.toList) 0) ∧ Below w.heap.size w w' := by
  have hd := head_eq s hp
  have ht : s.data.toList.tail = s.data.toList.drop 1 := by simp
  have ho : one s.data.toList = if s[0].toNat = 34 then textOne (s.data.toList.drop 1) else if digB s[0] = true then numOne s.data.toList else if letB s[0] = true then nameOne s.data.toList else markOne s.data.toList := by
    rw [← ht]
    generalize s.data.toList.tail = t at hd
    rw [hd]; rfl
  rw [ho]
  by_cases h1 : s[0].toNat = 34
  · rw [if_pos h1]; exact readTok_text s r w hs hp (by rw [beq_iff_eq]; omega)
  · rw [if_neg h1]
    have h1' : ((s[0].toNat : Int) == 34) = false := by rw [beq_eq_false_iff_ne]; omega
    by_cases h2 : digB s[0] = true
    · rw [if_pos h2]; exact readTok_num s r w hs hp h1' h2 hE
    · rw [if_neg h2]
      have h2' : dig (s[0].toNat : Int) = false := by simpa [digB] using h2
      by_cases h3 : letB s[0] = true
      · rw [if_pos h3]; exact readTok_name s r w hs hp h1' h2' h3 hr
      · rw [if_neg h3]; exact readTok_mark s r w hp h1' h2' (by simpa [letB] using h3) hE
end Go.Proofs.YtdhcjmlcpnljiaaDoor
