import Derived.Test.YtdhcjmlcpnljiaaDoorMLay
import Derived.Test.YtdhcjmlcpnljiaaDoorLay
import Derived.Test.YtdhcjmlcpnljiaaDoorMNum
import Derived.Test.YtdhcjmlcpnljiaaDoorINum
import Derived.Shelf.Strconv.ParseUint10b64
namespace Go.Proofs.YtdhcjmlcpnljiaaDoor
open Go.RowKit Go.Shelf
set_option maxRecDepth 20000
set_option maxHeartbeats 400000 in
theorem millIsLetter_any (c : Int) (w : World) :
    Calls Tryd.prog 59 #[.int .i32 c] w fun e w' => e = .returned (.bool (mlt c)) ∧ w' = w := by
  go_enter Tryd.func59, Tryd.ntmps59
  go_wp2
  all_goals go_ret
  all_goals exact ⟨ret_bool (by unfold mlt; rw [Bool.eq_iff_iff]; simp; try omega), rfl⟩
set_option maxHeartbeats 400000 in
theorem millIsDigit_any (c : Int) (w : World) :
    Calls Tryd.prog 57 #[.int .i32 c] w fun e w' => e = .returned (.bool (dig c)) ∧ w' = w := by
  go_enter Tryd.func57, Tryd.ntmps57
  go_wp2
  all_goals go_ret
  all_goals exact ⟨ret_bool (by unfold dig; rw [Bool.eq_iff_iff]; simp; try omega), rfl⟩
set_option maxHeartbeats 400000 in
theorem millEndsName_any (c : Int) (w : World) :
    Calls Tryd.prog 85 #[.int .i32 c] w fun e w' => e = .returned (.bool (!let_ c)) ∧ w' = w := by
  rw [let_mlt]
  cases hb : mlt c <;> cases hd : dig c
  all_goals go_enter Tryd.func85, Tryd.ntmps85
  all_goals go_wp2_with (first
    | (go_at_call 59; refine (millIsLetter_any _ _).mono ?_; rintro e w' ⟨rfl, rfl⟩)
    | (go_at_call 57; refine (millIsDigit_any _ _).mono ?_; rintro e w' ⟨rfl, rfl⟩))
  all_goals go_ret
  all_goals exact ⟨ret_bool (by simp [bne]), rfl⟩
set_option maxHeartbeats 400000 in
theorem millIsInteger_any (t : Nat) (h2 : t ≤ 10) (w : World) :
    Calls Tryd.prog 77 #[.int .i64 t] w fun e w' => e = .returned (.bool (decide (3 ≤ t))) ∧ w' = w := by
  go_enter Tryd.func77, Tryd.ntmps77
  go_wp2
  all_goals go_ret
  all_goals exact ⟨ret_bool (by rw [Bool.eq_iff_iff]; simp; try omega), rfl⟩
set_option maxHeartbeats 400000 in
theorem millGreatest_any (t : Nat) (h1 : 3 ≤ t) (h2 : t ≤ 10) (w : World) :
    Calls Tryd.prog 78 #[.int .i64 t] w fun e w' => e = .returned (.int .u64 (mmax t)) ∧ w' = w := by
  obtain rfl | rfl | rfl | rfl | rfl | rfl | rfl | rfl : t = 3 ∨ t = 4 ∨ t = 5 ∨ t = 6 ∨ t = 7 ∨ t = 8 ∨ t = 9 ∨ t = 10 := by omega
  all_goals go_enter Tryd.func78, Tryd.ntmps78
  all_goals go_wp2
  all_goals go_ret
  all_goals exact ⟨rfl, rfl⟩
/-! The runes of a text: a byte above 127 begins one that ends a name. -/
theorem decodeN_low (n b0 b1 b2 b3 : Nat) (h : b0 < 128) : Lib.decodeN n b0 b1 b2 b3 = (b0, 1) := by simp [Lib.decodeN, h]
theorem decodeN_high (n b0 b1 b2 b3 : Nat) (h : 128 ≤ b0) : 128 ≤ (Lib.decodeN n b0 b1 b2 b3).1 := by
  unfold Lib.decodeN
  repeat' split
  all_goals (simp only; omega)
theorem let_high (c : Nat) (h : 123 ≤ c) : let_ (c : Int) = false := by
  unfold let_ beg dig; rw [Bool.eq_false_iff]; simp; omega
theorem idx_from (s : ByteArray) : ∀ (f pos : Nat), pos ≤ run letB s.data.toList → s.size ≤ pos + f →
    Lib.idxFuncFrom (fun x => !let_ (x : Int)) true s f pos = if run letB s.data.toList < s.size then (run letB s.data.toList : Int) else -1
  | 0, pos, hp, hf => by
    have h1 := run_le letB s.data.toList
    rw [len_size] at h1
    rw [if_neg (by omega)]; rfl
  | f + 1, pos, hp, hf => by
    have h1 := run_le letB s.data.toList
    rw [len_size] at h1
    unfold Lib.idxFuncFrom
    by_cases hlt : pos < s.size
    · rw [if_pos hlt]
      have hl : pos < s.data.toList.length := by rw [len_size]; exact hlt
      have hg : s.get! pos = s[pos] := by
        show s.data[pos]! = s.data[pos]
        exact getElem!_pos s.data pos hlt
      have hd : (Utf8.decode s pos) = Lib.decodeN (s.size - pos) (s[pos]).toNat (s.get! (pos + 1)).toNat (s.get! (pos + 2)).toNat (s.get! (pos + 3)).toNat := by
        rw [Lib.decode_at, hg]
      cases hb : letB s[pos]
      · have hr := run_stop letB _ pos hp hl (by rw [get_eq s pos hlt]; exact hb)
        have hx : (!let_ (((Utf8.decode s pos).1 : Nat) : Int)) = true := by
          by_cases ha : s[pos].toNat < 128
          · rw [hd, decodeN_low _ _ _ _ _ ha]
            have hb2 : let_ (s[pos].toNat : Int) = false := hb
            simp [hb2]
          · rw [hd]
            have := decodeN_high (s.size - pos) (s[pos]).toNat (s.get! (pos + 1)).toNat (s.get! (pos + 2)).toNat (s.get! (pos + 3)).toNat (by omega)
            rw [let_high _ (by omega)]; rfl
        rw [if_pos hx, hr, if_pos hlt]
      · have hr := run_step letB _ pos hp hl (by rw [get_eq s pos hlt]; exact hb)
        have hb2 : let_ (s[pos].toNat : Int) = true := hb
        have ha : s[pos].toNat < 128 := by
          apply Nat.lt_of_not_le; intro h
          rw [let_high _ (by omega)] at hb2; cases hb2
        have hx : ¬ (!let_ (((Utf8.decode s pos).1 : Nat) : Int)) = true := by
          rw [hd, decodeN_low _ _ _ _ _ ha]; simp [hb2]
        rw [if_neg hx]
        have e2 : (Utf8.decode s pos).2 = 1 := by rw [hd, decodeN_low _ _ _ _ _ ha]
        rw [e2]
        exact idx_from s f (pos + 1) hr (by omega)
    · rw [if_neg hlt, if_neg (by omega)]
theorem indexFunc_any (s : ByteArray) (w : World) :
    Calls Tryd.prog 84 #[.string s, .func (.func 85) #[] #[]] w fun e w' => e = .returned (.int .i64 (if run letB s.data.toList < s.size then (run letB s.data.toList : Int) else -1)) ∧ Below w.heap.size w w' := by
  refine (Any.strings_IndexFunc_grows laysIF 85 #[] (enters_of Tryd.func85 (by kernel_rfl) rfl) (fun x => !let_ (x : Int)) s w ?_).mono ?_
  · intro W x _ _
    exact (millEndsName_any (x : Int) W).mono fun e w' ⟨h1, h2⟩ => ⟨h1, h2 ▸ Below.refl _ _⟩
  · rintro e w' ⟨rfl, hb⟩
    refine ⟨ret_int ?_, hb⟩
    exact idx_from s s.size 0 (Nat.zero_le _) (by omega)
set_option maxHeartbeats 400000 in
theorem millNameSize_any (s : ByteArray) (w : World) (_hs : s.size ≤ 12000) :
    Calls Tryd.prog 74 #[.string s] w fun e w' => e = .returned (.int .i64 (run letB s.data.toList)) ∧ Below w.heap.size w w' := by
  have h1 := run_le letB s.data.toList
  rw [len_size] at h1
  by_cases hlt : run letB s.data.toList < s.size
  · have HI : Hid ((if run letB s.data.toList < s.size then (run letB s.data.toList : Int) else -1) = (run letB s.data.toList : Int)) := if_pos hlt
    have HF : Hid (∀ W : World, Calls Tryd.prog 84 #[.string s, .func (.func 85) #[] #[]] W fun e w' => e = .returned (.int .i64 (run letB s.data.toList)) ∧ Below W.heap.size W w') := fun W => (indexFunc_any s W).mono fun e w' ⟨a, b⟩ => ⟨by rw [a, HI.out], b⟩
    generalize run letB s.data.toList = k at *
    clear hlt HI
    go_enter Tryd.func74, Tryd.ntmps74
    go_wp2_with (go_at_call 84; refine (HF.out _).mono ?_; rintro e w1 ⟨rfl, hb⟩; have HB := hid hb; clear hb)
    go_ret
    exact ⟨rfl, HB.out⟩
  · have HI : Hid ((if run letB s.data.toList < s.size then (run letB s.data.toList : Int) else -1) = (-1 : Int)) := if_neg hlt
    have HF : Hid (∀ W : World, Calls Tryd.prog 84 #[.string s, .func (.func 85) #[] #[]] W fun e w' => e = .returned (.int .i64 (-1)) ∧ Below W.heap.size W w') := fun W => (indexFunc_any s W).mono fun e w' ⟨a, b⟩ => ⟨by rw [a, HI.out], b⟩
    have HE : Hid (run letB s.data.toList = s.size) := by show _ = _; omega
    clear hlt HI h1
    go_enter Tryd.func74, Tryd.ntmps74
    go_wp2_with (go_at_call 84; refine (HF.out _).mono ?_; rintro e w1 ⟨rfl, hb⟩; have HB := hid hb; clear hb)
    go_ret
    exact ⟨ret_int (by rw [HE.out]), HB.out⟩
/-! Numbers. -/
theorem parse_ok (acc : Nat) (l : List UInt8) (hd : ∀ c ∈ l, digB c = true) (hb : dfold acc l ≤ 18446744073709551615) : Lib.parseUint10 acc l = .ok (dfold acc l) := by
  induction l generalizing acc with
  | nil => rfl
  | cons c l ih =>
    have h1 := (digB_iff c).1 (hd c (List.mem_cons_self ..))
    rw [dfold_cons] at hb ⊢
    have h2 := dfold_ge (acc * 10 + (c.toNat - 48)) l
    unfold Lib.parseUint10
    rw [if_pos h1, if_neg (by omega), if_neg (by omega)]
    exact ih _ (fun x hx => hd x (List.mem_cons_of_mem _ hx)) hb
theorem parse_big (acc : Nat) (l : List UInt8) (ha : acc ≤ 18446744073709551615) (hd : ∀ c ∈ l, digB c = true) (hb : 18446744073709551615 < dfold acc l) : Lib.parseUint10 acc l = .range := by
  induction l generalizing acc with
  | nil => unfold dfold at hb; simp at hb; omega
  | cons c l ih =>
    have h1 := (digB_iff c).1 (hd c (List.mem_cons_self ..))
    rw [dfold_cons] at hb
    unfold Lib.parseUint10
    rw [if_pos h1]
    by_cases h2 : 1844674407370955162 ≤ acc
    · rw [if_pos h2]
    · rw [if_neg h2]
      by_cases h3 : 18446744073709551616 ≤ acc * 10 + (c.toNat - 48)
      · rw [if_pos h3]
      · rw [if_neg h3]
        exact ih _ (by omega) (fun x hx => hd x (List.mem_cons_of_mem _ hx)) hb
theorem iParse_ok (s : ByteArray) (w : World) (hne : s.size ≠ 0) (hs : s.size ≤ 12000) (hd : ∀ c ∈ s.data.toList, digB c = true) (hb : dval s.data.toList ≤ 18446744073709551615) :
    Calls Tryd.prog 90 #[.string s, .int .i64 10, .int .i64 64] w fun e w' => e = .returned (.tuple #[.int .u64 (dval s.data.toList), .nilIface]) ∧ Below w.heap.size w w' := by
  refine (Any.internal_strconv_ParseUint_10_b64 (ρ := laysPI_ren) { laysPI with } s hne (by omega) w).mono ?_
  rintro e w' ⟨rfl, rfl⟩
  have h := parse_ok 0 s.data.toList hd hb
  exact ⟨by rw [h]; rfl, Joins.below_bytesWorld _ _ _ _ (Nat.le_refl _)⟩
theorem iParse_big (s : ByteArray) (w : World) (hne : s.size ≠ 0) (hs : s.size ≤ 12000) (hd : ∀ c ∈ s.data.toList, digB c = true) (hb : 18446744073709551615 < dval s.data.toList) :
    Calls Tryd.prog 90 #[.string s, .int .i64 10, .int .i64 64] w fun e w' => e = .returned (.tuple #[.int .u64 18446744073709551615, .iface 111 (.int .i64 1)]) ∧ Below w.heap.size w w' := by
  refine (Any.internal_strconv_ParseUint_10_b64 (ρ := laysPI_ren) { laysPI with } s hne (by omega) w).mono ?_
  rintro e w' ⟨rfl, rfl⟩
  have h := parse_big 0 s.data.toList (by omega) hd hb
  exact ⟨by rw [h]; rfl, Joins.below_bytesWorld _ _ _ _ (Nat.le_refl _)⟩
set_option maxHeartbeats 1000000 in
theorem parseUint_ok (s : ByteArray) (w : World) (hne : s.size ≠ 0) (hs : s.size ≤ 12000) (hd : ∀ c ∈ s.data.toList, digB c = true) (hb : dval s.data.toList ≤ 18446744073709551615) :
    Calls Tryd.prog 76 #[.string s, .int .i64 10, .int .i64 64] w fun e w' => e = .returned (.tuple #[.int .u64 (dval s.data.toList), .nilIface]) ∧ Below w.heap.size w w' := by
  have HP : Hid (∀ W : World, Calls Tryd.prog 90 #[.string s, .int .i64 10, .int .i64 64] W fun e w' => e = .returned (.tuple #[.int .u64 (dval s.data.toList), .nilIface]) ∧ Below W.heap.size W w') := fun W => iParse_ok s W hne hs hd hb
  clear hd hne
  generalize dval s.data.toList = n at *
  go_enter Tryd.func76, Tryd.ntmps76
  go_wp2_with (go_at_call 90; refine (HP.out _).mono ?_; rintro e w1 ⟨rfl, hb⟩; have HB := hid hb; clear hb)
  go_ret2
  exact ⟨rfl, HB.out⟩
set_option maxHeartbeats 1000000 in
theorem parseUint_big (s : ByteArray) (w : World) (hne : s.size ≠ 0) (hs : s.size ≤ 12000) (hE : ∃ tp p, w.cell? ⟨4, 0, none⟩ = some (.iface tp p)) (hd : ∀ c ∈ s.data.toList, digB c = true) (hb : 18446744073709551615 < dval s.data.toList) :
    Calls Tryd.prog 76 #[.string s, .int .i64 10, .int .i64 64] w fun e w' => ∃ N, e = .returned (.tuple #[.int .u64 18446744073709551615, .iface 114 (.pointer (some ⟨N, 0, none⟩))]) ∧ Below w.heap.size w w' := by
  have HP : Hid (∀ W : World, Calls Tryd.prog 90 #[.string s, .int .i64 10, .int .i64 64] W fun e w' => e = .returned (.tuple #[.int .u64 18446744073709551615, .iface 111 (.int .i64 1)]) ∧ Below W.heap.size W w') := fun W => iParse_big s W hne hs hd hb
  obtain ⟨tp, p, he⟩ := hE
  have HR : Hid (∀ W : World, Below w.heap.size w W → Calls Tryd.prog 91 #[.string ⟨#[80, 97, 114, 115, 101, 85, 105, 110, 116]⟩, .string s, .int .i64 10, .int .i64 64, .iface 111 (.int .i64 1)] W fun e w' => ∃ N, e = .returned (.iface 114 (.pointer (some ⟨N, 0, none⟩))) ∧ Below W.heap.size W w') := fun W hW =>
    (Any.strconv_toError_range (ρ := laysPI_ren) { laysPI with } ⟨#[80, 97, 114, 115, 101, 85, 105, 110, 116]⟩ s 10 64 (.iface tp p) W (by omega) ((hW.cell (p := ⟨4, 0, none⟩) (World.block_lt_of_cell? w _ he)).trans he) (.inr ⟨tp, p, rfl⟩)).mono fun e w' ⟨N, h1, _, _, h4⟩ => ⟨N, h1, h4⟩
  clear hd hb hne he
  go_enter Tryd.func76, Tryd.ntmps76
  go_wp2_with (first
    | (go_at_call 90; refine (HP.out _).mono ?_; rintro e w1 ⟨rfl, hb⟩; have HB := hid hb; clear hb)
    | (go_at_call 91; refine (HR.out _ HB.out).mono ?_; rintro e w2 ⟨N, rfl, hb⟩; have HB2 := hid (HB.out.trans (hb.mono HB.out.size)); clear hb))
  go_ret2
  exact ⟨N, rfl, HB2.out⟩
theorem trim_digits (l : List UInt8) : Lib.trimLeftS l [48, 49, 50, 51, 52, 53, 54, 55, 56, 57] = l.drop (run digB l) := by
  have hc : ∀ c : UInt8, ([48, 49, 50, 51, 52, 53, 54, 55, 56, 57] : List UInt8).contains c = digB c := fun c => by
    have h : ∀ i : Fin 256, ([48, 49, 50, 51, 52, 53, 54, 55, 56, 57] : List UInt8).contains (UInt8.ofNat i.1) = digB (UInt8.ofNat i.1) := by decide
    have h2 := h ⟨c.toNat, c.toNat_lt⟩
    simpa using h2
  unfold Lib.trimLeftS
  induction l with
  | nil => rfl
  | cons c l ih =>
    rw [List.dropWhile_cons, run_cons, hc c]
    by_cases h : digB c = true
    · rw [if_pos h, if_pos h, ih, List.drop_succ_cons]
    · rw [if_neg h, if_neg h]; rfl
theorem trimLeft_any (s : ByteArray) (w : World) :
    Calls Tryd.prog 75 #[.string s, .string ⟨#[48, 49, 50, 51, 52, 53, 54, 55, 56, 57]⟩] w fun e w' => e = .returned (.string ⟨(s.data.toList.drop (run digB s.data.toList)).toArray⟩) ∧ Below w.heap.size w w' := by
  refine (Any.strings_TrimLeft_laid laysTL (by kernel_rfl) s ⟨#[48, 49, 50, 51, 52, 53, 54, 55, 56, 57]⟩ w (by decide) ?_).mono ?_
  · intro j b hj
    have hm : b ∈ ([48, 49, 50, 51, 52, 53, 54, 55, 56, 57] : List UInt8) := List.mem_of_getElem? hj
    have : ∀ b ∈ ([48, 49, 50, 51, 52, 53, 54, 55, 56, 57] : List UInt8), b.toNat < 128 := by decide
    exact this b hm
  · rintro e w' ⟨rfl, hb⟩
    exact ⟨by rw [← trim_digits], hb⟩
end Go.Proofs.YtdhcjmlcpnljiaaDoor
