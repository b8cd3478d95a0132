import Derived.Test.YtabefhpgeaihgaaGreatDoorJ28
import Derived.Test.YtabefhpgeaihgaaGreatDoorJ13
import Derived.Test.YtabefhpgeaihgaaGreatDoorJ30
import Derived.Test.YtabefhpgeaihgaaGreatDoorJ01
import Derived.Test.YtabefhpgeaihgaaGreatDoorJ29
/-! The program's bools and texts of two values. -/
namespace Go.Proofs.YtabefhpgeaihgaaGreatDoor.V
open Go.RowKit Go.Shelf
set_option maxRecDepth 20000
theorem binT_int {op a : Int} (h3 : 3 ≤ a) (h9 : 3 ≤ op) (_h18 : op ≤ 18) : binT op a a = if op ≤ 8 then 1 else a := by
  unfold binT
  have n1 : ¬ a = 1 := by omega
  simp only [ne_eq, not_true_eq_false, if_false, n1, not_false_eq_true, if_true, h3]
  repeat' split
  all_goals first | rfl | omega
theorem binT_num {op a : Int} (h3 : 3 ≤ a) (h9 : 9 ≤ op) (h18 : op ≤ 18) : binT op a a = a := by
  rw [binT_int h3 (by omega) h18, if_neg (by omega)]
theorem binT_bool {op : Int} (h1 : 1 ≤ op) (h4 : op ≤ 4) : binT op 1 1 = 1 := by
  obtain rfl | rfl | rfl | rfl : op = 1 ∨ op = 2 ∨ op = 3 ∨ op = 4 := by omega
  all_goals rfl
theorem binT_text {op : Int} (h1 : 3 ≤ op) (h9 : op ≤ 9) : binT op 2 2 ≠ 0 := by
  obtain rfl | rfl | rfl | rfl | rfl | rfl | rfl : op = 3 ∨ op = 4 ∨ op = 5 ∨ op = 6 ∨ op = 7 ∨ op = 8 ∨ op = 9 := by omega
  all_goals decide
theorem valid_bool {n : Int} {s : ByteArray} (h : validB 1 n s = true) : n = 0 ∨ n = 1 := by
  simp [validB] at h
  exact h.2
/-- What two bools come to. -/
def boolsB (op n m : Int) : Bool := if op = 1 then decide (n = 1) || decide (m = 1) else if op = 2 then decide (n = 1) && decide (m = 1) else cmpB op n m
set_option maxHeartbeats 4000000 in
theorem bools_any (op n m : Int) (h1 : 1 ≤ op) (h4 : op ≤ 4) (hn : n = 0 ∨ n = 1) (hm : m = 0 ∨ m = 1) (w : World) :
    Calls Tryz.prog 30 #[.int .i64 op, .int .i64 n, .int .i64 m] w fun e w' => e = .returned (.bool (boolsB op n m)) ∧ Below w.heap.size w w' := by
  have HC : Hid (∀ (op n m : Int) (W : World), 3 ≤ op → op ≤ 8 → _) := fun op n m W p q => cmp_i64 op n m p q W
  obtain rfl | rfl | rfl | rfl : op = 1 ∨ op = 2 ∨ op = 3 ∨ op = 4 := by omega
  all_goals clear h1 h4
  all_goals obtain rfl | rfl := hn
  all_goals obtain rfl | rfl := hm
  all_goals go_enter Tryz.func30, Tryz.ntmps30
  all_goals go_wp2_with (first | (go_at_call 54; refine (HC.out _ _ _ _ (by decide) (by decide)).mono ?_; rintro e w' ⟨rfl, hw⟩; have hw2 := hw.symm; clear hw; subst hw2) | fail)
  all_goals go_ret
  all_goals exact ⟨rfl, Below.refl _ _⟩
set_option maxHeartbeats 1000000 in
theorem ofText_any (s : ByteArray) (w : World) :
    Calls Tryz.prog 46 #[.string s] w fun e w' => e = .returned (val 2 0 s) ∧ Below w.heap.size w w' := by
  go_enter Tryz.func46, Tryz.ntmps46
  go_wp2
  exact bodyPost_ret (v := val 2 0 s) (by simp [results, Tryz.results46, go_sem]) rfl ⟨rfl, alloc_below _ _⟩
set_option maxHeartbeats 2000000 in
theorem texts_cmp (op : Int) (s x : ByteArray) (h3 : 3 ≤ op) (h8 : op ≤ 8) (w : World) :
    Calls Tryz.prog 31 #[.int .i64 op, .string s, .string x] w fun e w' => e = .returned (.tuple #[boolV (ordB op (lessT s x) (sameT s x)), .nilIface]) ∧ Below w.heap.size w w' := by
  have HC := hid (cmp_str op s x h3 h8)
  generalize ordB op (lessT s x) (sameT s x) = R at *
  have HR : Hid (∃ z : Int, boolV R = val 1 z wNone) := ⟨_, rfl⟩
  have HO := hid (ofBool_any R)
  obtain ⟨z, hz⟩ := HR.out
  rw [hz] at HO ⊢
  clear hz HR
  have h9 : (op != 9) = true := by simp; omega
  go_enter Tryz.func31, Tryz.ntmps31
  go_wp2_with fail
  refine (HC.out _).mono ?_
  rintro e w' ⟨rfl, hw⟩
  have hw2 := hw.symm
  clear hw
  subst hw2
  go_wp2_with fail
  refine (HO.out _).mono ?_
  rintro e w1 ⟨rfl, hb1⟩
  have HB1 := hid (box_next (Below.refl _ _) hb1)
  obtain ⟨x0, x1, x2, y0, y1, y2⟩ := box_room HB1.out
  clear hb1
  go_wp2
  exact bodyPost_ret (v := .tuple #[val 1 z wNone, .nilIface]) (by simp [results, Tryz.results31, go_sem, x0, x1, x2]) rfl ⟨rfl, set3 (box_below HB1.out) _ _ _⟩
set_option maxHeartbeats 2000000 in
theorem texts_long (s x : ByteArray) (hs : s.size ≤ 3000) (hx : x.size ≤ 3000) (hl : 3000 < s.size + x.size) (p : Addr) (y : ByteArray) (w : World) (he : ErrAt w 1 p y) :
    Calls Tryz.prog 31 #[.int .i64 9, .string s, .string x] w fun e w' => e = .returned (.tuple #[val 0 0 wNone, errV p]) ∧ Below w.heap.size w w' := by
  have HE := hid he
  clear he
  go_enter Tryz.func31, Tryz.ntmps31
  go_wp2
  have HB0 := hid (Below.refl (w.heap.size + 1) (w.alloc (vbox 0 0 wNone)))
  obtain ⟨W, hW⟩ : ∃ W, w.alloc (vbox 0 0 wNone) = W := ⟨_, rfl⟩
  rw [hW] at HB0 ⊢
  rw [← hW] at HB0
  have HB1 : Hid (Below (w.heap.size + 1) (w.alloc (vbox 0 0 wNone)) W) := by rw [← hW]; exact Below.refl _ _
  clear hW HB0
  obtain ⟨x0, x1, x2, y0, y1, y2⟩ := box_room HB1.out
  have g0 := (HE.out.next (box_below HB1.out)).glob
  have hlg := HE.out.lg
  have hn1 : ¬ w.heap.size = 1 := by omega
  have hn2 : ¬ 1 = w.heap.size := by omega
  go_region
  go_wp2
  exact bodyPost_ret (v := .tuple #[val 0 0 wNone, errV p]) (by simp [results, Tryz.results31, go_sem, x0, x1, x2]) rfl ⟨rfl, (set3 (box_below HB1.out) _ _ _).drew⟩
set_option maxHeartbeats 2000000 in
theorem texts_join (s x : ByteArray) (hl : s.size + x.size ≤ 3000) (w : World) :
    Calls Tryz.prog 31 #[.int .i64 9, .string s, .string x] w fun e w' => e = .returned (.tuple #[val 2 0 (s ++ x), .nilIface]) ∧ Below w.heap.size w w' := by
  have hs : s.size ≤ 3000 := by omega
  have hx : x.size ≤ 3000 := by omega
  have HJ : Hid (∀ (W : World) (g : Nat), W.heap[g]? = some (.cells #[.string s, .string x] 9) → _) := fun W g h => join_any g s x W (by simp [World.cell?, h]) (by simp [World.cell?, h]) (Array.getElem?_eq_some_iff.1 h).1 hl
  go_enter Tryz.func31, Tryz.ntmps31
  go_wp2_with fail
  refine (HJ.out _ _ (by have := heap_alloc_new (w.alloc (vbox 0 0 wNone)) (.cells #[.string s, .string x] 9); rwa [World.size_alloc] at this)).mono ?_
  rintro e w1 ⟨rfl, hb1⟩
  have HB1 := hid (box_next (w := w) (o := vbox 0 0 wNone) (Below.refl _ _) ((alloc_below _ _).trans (hb1.mono (by simp))))
  clear hb1
  go_wp2_with fail
  refine (ofText_any (s ++ x) _).mono ?_
  rintro e w2 ⟨rfl, hb2⟩
  have HB2 := hid (box_next HB1.out hb2)
  obtain ⟨x0, x1, x2, y0, y1, y2⟩ := box_room HB2.out
  clear hb2
  go_wp2
  exact bodyPost_ret (v := .tuple #[val 2 0 (s ++ x), .nilIface]) (by simp [results, Tryz.results31, go_sem, x0, x1, x2]) rfl ⟨rfl, set3 (box_below HB2.out) _ _ _⟩
end Go.Proofs.YtabefhpgeaihgaaGreatDoor.V
/-! The program's dec. Printed by gen_vdeci.py. -/
namespace Go.Proofs.YtabefhpgeaihgaaGreatDoor.V
open Go.RowKit Go.Shelf
set_option maxRecDepth 20000
theorem decT_u64 (n : Int) : decT 6 n = Lib.decDigits (IntKind.u64.wrap n).toNat := by
  simp [decT, negT, absT]
theorem decT_int {t n : Int} (h3 : 3 ≤ t) (h10 : t ≤ 10) (h6 : t ≠ 6) (h : n = into t n) : decT t n = Lib.itoa n := by
  have hb : -9223372036854775808 ≤ n ∧ n ≤ 9223372036854775807 := by rw [h]; exact wr64 _
  unfold decT Lib.itoa
  by_cases h7 : 7 ≤ t
  · by_cases hn : n < 0
    · have e : negT t n = true := by simp [negT, h7, hn]
      have a : absT t n = -n := by unfold absT; rw [e, if_pos rfl]
      rw [e, if_pos rfl, if_pos hn, a]
      congr 2
      omega
    · have e : negT t n = false := by simp [negT, hn]
      have a : absT t n = n := by unfold absT; rw [e, if_neg (by decide)]; exact pos_wrap (by omega) hb.2
      rw [e, if_neg (by decide), if_neg hn, a]
  · have e : negT t n = false := by simp [negT, h7]
    have hn : 0 ≤ n := by
      obtain rfl | rfl | rfl : t = 3 ∨ t = 4 ∨ t = 5 := by omega
      all_goals (simp [into, intoK, kT3, kT4, kT5, IntKind.wrap, IntKind.bits, IntKind.signed] at h; omega)
    have a : absT t n = n := by unfold absT; rw [e, if_neg (by decide)]; exact pos_wrap hn hb.2
    rw [e, if_neg (by decide), if_neg (by omega), a]
set_option maxHeartbeats 2000000 in
theorem millDec_any (t n : Int) (s : ByteArray) (h3 : 3 ≤ t) (h10 : t ≤ 10) (h : n = into t n) (w : World) (htab : Lib.TabIs Tryz.prog w "internal/strconv.uint64pow10" .u64 Lib.pow10Tab) :
    Calls Tryz.prog 47 #[val t n s] w fun e w' => e = .returned (.string ⟨(decT t n).toArray⟩) ∧ Below w.heap.size w w' := by
  have hb : -9223372036854775808 ≤ n ∧ n ≤ 9223372036854775807 := by rw [h]; exact wr64 _
  have htab1 := Lib.tabIs_alloc htab (vbox t n s)
  by_cases h6 : t = 6
  · subst h6
    obtain ⟨u, hu⟩ := Int.eq_ofNat_of_zero_le (u64_bd n).1
    have hu2 := (u64_bd n).2
    have HF : Hid (Calls Tryz.prog 68 #[.int .u64 (IntKind.u64.wrap n), .int .i64 10] (w.alloc (vbox 6 n s)) fun e w' => e = .returned (.string ⟨(decT 6 n).toArray⟩) ∧ Below (w.alloc (vbox 6 n s)).heap.size (w.alloc (vbox 6 n s)) w') := by
      rw [decT_u64, hu]
      exact fmtU_any u (by omega) _ htab1
    generalize decT 6 n = D at *
    clear hu hu2 htab htab1 h
    go_enter Tryz.func47, Tryz.ntmps47
    go_wp2_with fail
    refine HF.out.mono ?_
    rintro e w1 ⟨rfl, hb1⟩
    have HB1 := hid ((alloc_below w (vbox 6 n s)).trans (hb1.mono (by simp)))
    clear hb1
    go_wp2
    go_ret
    exact ⟨rfl, HB1.out⟩
  · have HF : Hid (Calls Tryz.prog 69 #[.int .i64 n, .int .i64 10] (w.alloc (vbox t n s)) fun e w' => e = .returned (.string ⟨(decT t n).toArray⟩) ∧ Below (w.alloc (vbox t n s)).heap.size (w.alloc (vbox t n s)) w') := by
      rw [decT_int h3 h10 h6 h]
      exact fmtI_any n hb.1 hb.2 _ htab1
    generalize decT t n = D at *
    clear htab htab1 h
    go_enter Tryz.func47, Tryz.ntmps47
    go_wp2_with fail
    refine HF.out.mono ?_
    rintro e w1 ⟨rfl, hb1⟩
    have HB1 := hid ((alloc_below w (vbox t n s)).trans (hb1.mono (by simp)))
    clear hb1
    go_wp2
    go_ret
    exact ⟨rfl, HB1.out⟩
end Go.Proofs.YtabefhpgeaihgaaGreatDoor.V
/-! Draws: numbers. -/
namespace Go.Proofs.YtabefhpgeaihgaaGreatDoor.V
open Go.RowKit Go.Shelf
set_option maxRecDepth 20000
theorem w64_bd (n : Int) : -9223372036854775808 ≤ wrap64 n ∧ wrap64 n ≤ 9223372036854775807 := by
  unfold wrap64
  omega
theorem At.below {R b : Nat} {w W V : World} (h : At R w b W) (k : Below W.heap.size W V) : At R w b V := h.next k
set_option maxHeartbeats 4000000 in
theorem number_at {R b : Nat} {w W : World} (h : At R w b W) (hb : b ≤ 700000) (t : Int) (h3 : 3 ≤ t) (h10 : t ≤ 10) :
    Calls Tryz.prog 52 #[.pointer (some ⟨R, 0, none⟩), .int .i64 t] W fun e w' => ∃ n : Int, e = .returned (.int .i64 n) ∧ -9223372036854775808 ≤ n ∧ n ≤ 9223372036854775807 ∧ At R w (b + 4) w' := by
  have HA := hid h
  clear h
  have HM := hid (l10Max_any t (by omega) h10)
  have HI : Hid (∀ (x : Int) (W : World), 0 ≤ x → x ≤ 18446744073709551615 → _) := fun x W p q => l13Into_any t x h3 h10 p q W
  have HU := hid u64_bd
  have HW := hid w64_bd
  go_enter Tryz.func52, Tryz.ntmps52
  go_wp2_with fail
  refine (HM.out _).mono ?_
  rintro e w1 ⟨m, rfl, m1, m2, hb1⟩
  have HA1 := hid (HA.out.next hb1)
  clear hb1 HA
  go_wp2_with fail
  refine (pick_at HA1.out (by omega) 9 (by omega)).mono ?_
  rintro e w2 ⟨x, rfl, hx, a2, s2⟩
  have HA2 := hid a2
  clear a2 s2 HA1
  by_cases h6 : x ≤ 3
  · obtain rfl | rfl | rfl | rfl : x = 0 ∨ x = 1 ∨ x = 2 ∨ x = 3 := by omega
    · go_wp2
      go_ret
      exact ⟨_, rfl, (HW.out _).1, (HW.out _).2, HA2.out.mono (by omega)⟩
    · go_wp2_with fail
      refine (pick_at HA2.out (by omega) 3 (by omega)).mono ?_
      rintro e w3 ⟨y, rfl, hy, a3, s3⟩
      have HA3 := hid a3
      clear a3 s3
      go_wp2
      go_ret
      exact ⟨_, rfl, (HW.out _).1, (HW.out _).2, HA3.out.mono (by omega)⟩
    · go_wp2
      go_ret
      exact ⟨_, rfl, by omega, by omega, HA2.out.mono (by omega)⟩
    · go_wp2_with fail
      refine (pick_at HA2.out (by omega) 256 (by omega)).mono ?_
      rintro e w3 ⟨y, rfl, hy, a3, s3⟩
      have HA3 := hid a3
      clear a3 s3
      go_wp2_with fail
      refine (pick_at HA3.out (by omega) 256 (by omega)).mono ?_
      rintro e w4 ⟨z, rfl, hz, a4, s4⟩
      have HA4 := hid a4
      clear a4 s4
      go_wp2_with fail
      refine (pick_at HA4.out (by omega) 256 (by omega)).mono ?_
      rintro e w5 ⟨k, rfl, hk, a5, s5⟩
      have HA5 := hid a5
      clear a5 s5
      go_wp2_with fail
      refine (HI.out _ _ (HU.out _).1 (HU.out _).2).mono ?_
      rintro e w6 ⟨rfl, hw⟩
      have hw2 := hw.symm
      clear hw
      subst hw2
      go_wp2
      go_ret
      exact ⟨_, rfl, (wr64 _).1, (wr64 _).2, HA5.out.mono (by omega)⟩
  · have n0 : ¬ x = 0 := by omega
    have n1 : ¬ x = 1 := by omega
    have n2 : ¬ x = 2 := by omega
    have n3 : ¬ x = 3 := by omega
    go_wp2_with fail
    refine (pick_at HA2.out (by omega) 10 (by omega)).mono ?_
    rintro e w3 ⟨y, rfl, hy, a3, s3⟩
    have HA3 := hid a3
    clear a3 s3
    go_wp2
    go_ret
    exact ⟨y, rfl, by omega, by omega, HA3.out.mono (by omega)⟩
end Go.Proofs.YtabefhpgeaihgaaGreatDoor.V
