import Derived.Deep.RegionWith
import Derived.Test.YtabefhpgeaihgaaGreatDoorJ13
import Derived.Test.YtabefhpgeaihgaaGreatDoorJ16
import Derived.Test.YtabefhpgeaihgaaGreatDoorJ04
/-! Taking a number into another type. -/
namespace Go.Proofs.YtabefhpgeaihgaaGreatDoor.V
open Go.RowKit Go.Shelf
set_option maxRecDepth 20000
theorem convGives_t (u t : Int) (h3 : 3 ≤ t) (h4 : t ≤ 10) (w : World) :
    Calls Tryz.prog 34 #[.int .i64 u, .int .i64 t] w fun e w' => e = .returned (.int .i64 u) ∧ w' = w := by
  go_enter Tryz.func34, Tryz.ntmps34
  go_wp2_with (first | (go_at_call 21; refine (millIsInteger_t t h3 h4 _).mono ?_; rintro e w' ⟨rfl, hw⟩; have hw2 := hw.symm; clear hw; subst hw2) | fail)
  go_ret
  exact ⟨rfl, rfl⟩
theorem convGives_f (u t : Int) (hi : ¬ (3 ≤ t ∧ t ≤ 10)) (w : World) :
    Calls Tryz.prog 34 #[.int .i64 u, .int .i64 t] w fun e w' => e = .returned (.int .i64 0) ∧ w' = w := by
  have HI := hid hi
  clear hi
  go_enter Tryz.func34, Tryz.ntmps34
  go_wp2_with (first | (go_at_call 21; refine (millIsInteger_f t HI.out _).mono ?_; rintro e w' ⟨rfl, hw⟩; have hw2 := hw.symm; clear hw; subst hw2) | fail)
  go_ret
  exact ⟨rfl, rfl⟩
set_option maxHeartbeats 2000000 in
theorem convOf_ok (t n u : Int) (s : ByteArray) (hv : validB t n s = true) (h3 : 3 ≤ t) (h4 : t ≤ 10) (h5 : 3 ≤ u) (h6 : u ≤ 10) (hn1 : -9223372036854775808 ≤ n) (hn2 : n ≤ 9223372036854775807) (w : World) :
    Calls Tryz.prog 20 #[val t n s, .int .i64 u] w fun e w' => e = .returned (.tuple #[val u (into u n) wNone, .nilIface]) ∧ Below w.heap.size w w' := by
  have HV : Hid (∀ W, Calls Tryz.prog 9 #[val t n s] W fun e w' => e = .returned (.bool true) ∧ Below W.heap.size W w') := fun W => by
    have := implVV t n s hn1 hn2 W
    rwa [hv] at this
  have HN : Hid (∀ W, Calls Tryz.prog 22 #[.int .i64 u, .int .i64 n] W fun e w' => e = .returned (.int .i64 (into u n)) ∧ w' = W) := fun W => millInto_any u n h5 h6 hn1 hn2 W
  generalize into u n = z at *
  clear hv
  go_enter Tryz.func20, Tryz.ntmps20
  go_wp2_with (first | (go_at_call 21; refine (millIsInteger_t u h5 h6 _).mono ?_; rintro e w' ⟨rfl, hw⟩; have hw2 := hw.symm; clear hw; subst hw2) | fail)
  refine (HV.out _).mono ?_
  rintro e w1 ⟨rfl, hb1⟩
  have HB1 := hid ((Two.start w t n s).next hb1)
  obtain ⟨x0, x1, x2⟩ := HB1.out.arg
  obtain ⟨r0, r1, r2⟩ := HB1.out.res
  obtain ⟨y0, y1, y2⟩ := HB1.out.room
  clear hb1
  go_wp2_with (first
    | (go_at_call 34; refine (convGives_t u t h3 h4 _).mono ?_; rintro e w' ⟨rfl, hw⟩; have hw2 := hw.symm; clear hw; subst hw2)
    | (go_at_call 22; refine (HN.out _).mono ?_; rintro e w' ⟨rfl, hw⟩; have hw2 := hw.symm; clear hw; subst hw2) | fail)
  exact bodyPost_ret (v := .tuple #[val u z wNone, .nilIface]) (by simp [results, Tryz.results20, go_sem, r0, r1, r2]) rfl ⟨rfl, setr (by omega) HB1.out.below _ _ _⟩
set_option maxHeartbeats 2000000 in
theorem convOf_b1 (t n u : Int) (s : ByteArray) (hi : ¬ (3 ≤ u ∧ u ≤ 10)) (p : Addr) (x : ByteArray) (w : World) (he : ErrAt w 0 p x) :
    Calls Tryz.prog 20 #[val t n s, .int .i64 u] w fun e w' => e = .returned (.tuple #[val 0 0 wNone, errV p]) ∧ Below w.heap.size w w' := by
  have HI := hid hi
  have HE := hid he
  clear hi he
  go_enter Tryz.func20, Tryz.ntmps20
  go_wp2_with (first | (go_at_call 21; refine (millIsInteger_f u HI.out _).mono ?_; rintro e w' ⟨rfl, hw⟩; have hw2 := hw.symm; clear hw; subst hw2) | fail)
  have HB1 := hid (Two.start w t n s)
  have HG := hid ((HE.out.next HB1.out.below).glob)
  obtain ⟨W, hW⟩ : ∃ W, (w.alloc (vbox t n s)).alloc (vbox 0 0 wNone) = W := ⟨_, rfl⟩
  rw [hW] at HB1 HG ⊢
  clear hW
  obtain ⟨r0, r1, r2⟩ := HB1.out.res
  obtain ⟨y0, y1, y2⟩ := HB1.out.room
  have g0 := HG.out
  go_region
  go_wp2
  exact bodyPost_ret (v := .tuple #[val 0 0 wNone, errV p]) (by simp [results, Tryz.results20, go_sem, r0, r1, r2]) rfl ⟨rfl, (setr (by omega) HB1.out.below _ _ _).drew⟩
set_option maxHeartbeats 2000000 in
theorem convOf_b2 (t n u : Int) (s : ByteArray) (hv : validB t n s = false) (h5 : 3 ≤ u) (h6 : u ≤ 10) (hn1 : -9223372036854775808 ≤ n) (hn2 : n ≤ 9223372036854775807) (p : Addr) (x : ByteArray) (w : World) (he : ErrAt w 0 p x) :
    Calls Tryz.prog 20 #[val t n s, .int .i64 u] w fun e w' => e = .returned (.tuple #[val 0 0 wNone, errV p]) ∧ Below w.heap.size w w' := by
  have HV : Hid (∀ W, Calls Tryz.prog 9 #[val t n s] W fun e w' => e = .returned (.bool false) ∧ Below W.heap.size W w') := fun W => by
    have := implVV t n s hn1 hn2 W
    rwa [hv] at this
  have HE := hid he
  clear hv he
  go_enter Tryz.func20, Tryz.ntmps20
  go_wp2_with (first | (go_at_call 21; refine (millIsInteger_t u h5 h6 _).mono ?_; rintro e w' ⟨rfl, hw⟩; have hw2 := hw.symm; clear hw; subst hw2) | fail)
  refine (HV.out _).mono ?_
  rintro e w1 ⟨rfl, hb1⟩
  have HB1 := hid ((Two.start w t n s).next hb1)
  have HG := hid ((HE.out.next HB1.out.below).glob)
  obtain ⟨x0, x1, x2⟩ := HB1.out.arg
  clear hb1
  go_wp2
  obtain ⟨r0, r1, r2⟩ := HB1.out.res
  obtain ⟨y0, y1, y2⟩ := HB1.out.room
  have g0 := HG.out
  go_region
  go_wp2
  exact bodyPost_ret (v := .tuple #[val 0 0 wNone, errV p]) (by simp [results, Tryz.results20, go_sem, r0, r1, r2]) rfl ⟨rfl, (setr (by omega) HB1.out.below _ _ _).drew⟩
set_option maxHeartbeats 2000000 in
theorem convOf_b3 (t n u : Int) (s : ByteArray) (hv : validB t n s = true) (h5 : 3 ≤ u) (h6 : u ≤ 10) (hi : ¬ (3 ≤ t ∧ t ≤ 10)) (hn1 : -9223372036854775808 ≤ n) (hn2 : n ≤ 9223372036854775807) (p : Addr) (x : ByteArray) (w : World) (he : ErrAt w 0 p x) :
    Calls Tryz.prog 20 #[val t n s, .int .i64 u] w fun e w' => e = .returned (.tuple #[val 0 0 wNone, errV p]) ∧ Below w.heap.size w w' := by
  have HV : Hid (∀ W, Calls Tryz.prog 9 #[val t n s] W fun e w' => e = .returned (.bool true) ∧ Below W.heap.size W w') := fun W => by
    have := implVV t n s hn1 hn2 W
    rwa [hv] at this
  have HE := hid he
  have HI := hid hi
  clear hi
  clear hv he
  go_enter Tryz.func20, Tryz.ntmps20
  go_wp2_with (first | (go_at_call 21; refine (millIsInteger_t u h5 h6 _).mono ?_; rintro e w' ⟨rfl, hw⟩; have hw2 := hw.symm; clear hw; subst hw2) | fail)
  refine (HV.out _).mono ?_
  rintro e w1 ⟨rfl, hb1⟩
  have HB1 := hid ((Two.start w t n s).next hb1)
  have HG := hid ((HE.out.next HB1.out.below).glob)
  obtain ⟨x0, x1, x2⟩ := HB1.out.arg
  clear hb1
  go_wp2_with (first | (go_at_call 34; refine (convGives_f u t HI.out _).mono ?_; rintro e w' ⟨rfl, hw⟩; have hw2 := hw.symm; clear hw; subst hw2) | fail)
  obtain ⟨r0, r1, r2⟩ := HB1.out.res
  obtain ⟨y0, y1, y2⟩ := HB1.out.room
  have g0 := HG.out
  go_region
  go_wp2
  exact bodyPost_ret (v := .tuple #[val 0 0 wNone, errV p]) (by simp [results, Tryz.results20, go_sem, r0, r1, r2]) rfl ⟨rfl, (setr (by omega) HB1.out.below _ _ _).drew⟩
/-- What conversion answers. -/
def convOk (t n u : Int) (s : ByteArray) : Bool := validB t n s && (decide (3 ≤ t) && decide (t ≤ 10)) && (decide (3 ≤ u) && decide (u ≤ 10))
theorem int_cases (t : Int) : (3 ≤ t ∧ t ≤ 10) ∨ ¬ (3 ≤ t ∧ t ≤ 10) := by omega
theorem convOf_any (t n u : Int) (s : ByteArray) (hn1 : -9223372036854775808 ≤ n) (hn2 : n ≤ 9223372036854775807) (p : Addr) (x : ByteArray) (w : World) (he : ErrAt w 0 p x) :
    Calls Tryz.prog 20 #[val t n s, .int .i64 u] w fun e w' => e = .returned (if convOk t n u s then .tuple #[val u (into u n) wNone, .nilIface] else .tuple #[val 0 0 wNone, errV p]) ∧ Below w.heap.size w w' := by
  rcases int_cases u with hu | hu
  · cases hv : validB t n s
    · simp only [convOk, hv, Bool.false_and, Bool.false_eq_true, if_false]
      exact convOf_b2 t n u s hv hu.1 hu.2 hn1 hn2 p x w he
    · rcases int_cases t with ht | ht
      · simp only [convOk, hv, isInt_t ht.1 ht.2, isInt_t hu.1 hu.2, Bool.and_self, if_true]
        exact convOf_ok t n u s hv ht.1 ht.2 hu.1 hu.2 hn1 hn2 w
      · simp only [convOk, hv, isInt_f ht, Bool.and_false, Bool.false_and, Bool.false_eq_true, if_false]
        exact convOf_b3 t n u s hv hu.1 hu.2 ht hn1 hn2 p x w he
  · simp only [convOk, isInt_f hu, Bool.and_false, Bool.false_eq_true, if_false]
    exact convOf_b1 t n u s hu p x w he
set_option maxHeartbeats 2000000 in
theorem implConv_any (t n u : Int) (s : ByteArray) (hn1 : -9223372036854775808 ≤ n) (hn2 : n ≤ 9223372036854775807) (p : Addr) (w : World) (he : ErrAt w 0 p wType) :
    Calls Tryz.prog 8 #[val t n s, .int .i64 u] w fun e w' => e = .returned (if convOk t n u s then ans u (into u n) wNone wNone else ans 0 0 wNone wType) ∧ Below w.heap.size w w' := by
  have HO : Hid (∀ W, Below w.heap.size w W → _) := fun W hW => convOf_any t n u s hn1 hn2 p wType W (he.next hW)
  have HE := hid he
  clear he
  cases hc : convOk t n u s <;> rw [hc] at HO
  · go_enter Tryz.func8, Tryz.ntmps8
    go_wp2_with fail
    refine (HO.out _ (alloc2 _ _ _)).mono ?_
    rintro e w1 ⟨rfl, hb1⟩
    have HB1 := hid ((Two.start w t n s).next hb1)
    clear hb1
    have HE1 := hid (HE.out.next HB1.out.below)
    go_wp2_with fail
    refine (answer_err 0 0 wNone p wType _ HE1.out.cell HE1.out.la).mono ?_
    rintro e w2 ⟨rfl, hb2⟩
    have HB2 := hid (HB1.out.next hb2)
    obtain ⟨r0, r1, r2⟩ := HB2.out.res
    obtain ⟨y0, y1, y2⟩ := HB2.out.room
    clear hb2
    go_wp2
    exact bodyPost_ret (v := ans 0 0 wNone wType) (by simp [results, Tryz.results8, go_sem, r0, r1, r2]) rfl ⟨rfl, setr (by omega) HB2.out.below _ _ _⟩
  · obtain ⟨z, hz⟩ : ∃ z, into u n = z := ⟨_, rfl⟩
    rw [hz] at HO ⊢
    go_enter Tryz.func8, Tryz.ntmps8
    go_wp2_with fail
    refine (HO.out _ (alloc2 _ _ _)).mono ?_
    rintro e w1 ⟨rfl, hb1⟩
    have HB1 := hid ((Two.start w t n s).next hb1)
    clear hb1
    go_wp2_with fail
    refine (answer_nil u z wNone _).mono ?_
    rintro e w2 ⟨rfl, hb2⟩
    have HB2 := hid (HB1.out.next hb2)
    obtain ⟨r0, r1, r2⟩ := HB2.out.res
    obtain ⟨y0, y1, y2⟩ := HB2.out.room
    clear hb2
    go_wp2
    exact bodyPost_ret (v := ans u z wNone wNone) (by simp [results, Tryz.results8, go_sem, r0, r1, r2]) rfl ⟨rfl, setr (by omega) HB2.out.below _ _ _⟩
end Go.Proofs.YtabefhpgeaihgaaGreatDoor.V
/-! The model's decimals: a cut of millprint's RDec. -/
namespace Go.Proofs.YtabefhpgeaihgaaGreatDoor.V
open Go.RowKit Go.Shelf
set_option maxRecDepth 20000
theorem ba_append (a b : List UInt8) : (⟨a.toArray⟩ : ByteArray) ++ (⟨b.toArray⟩ : ByteArray) = ⟨(a ++ b).toArray⟩ := by
  apply ByteArray.ext
  simp
theorem conv_later {w w1 : World} {c : UInt8} {x : Int} (hx : x = c.toNat) (h : Below (w.alloc (.cells #[.int .u8 x] 5)).heap.size (w.alloc (.cells #[.int .u8 x] 5)) w1) :
    (convert 22 9 (.slice (some ⟨w.heap.size, 0, none⟩) 1 1)).run Tryz.prog w1 = .ok (.string ⟨#[c]⟩) w1 := by
  subst hx
  refine conv_row w1 w.heap.size _ [c] ⟨rfl, .inr ⟨w.heap.size, 1, #[.int .u8 c.toNat], rfl, Nat.le_refl _, ?_, Nat.le_refl _, by unfold maxLen; omega, rfl, rfl⟩⟩
  rw [h.block w.heap.size (by simp)]
  exact heap_alloc_new w _
/-- The decimal of a number of a type. -/
def decT (t n : Int) : List UInt8 := if negT t n then 45 :: Lib.decDigits (absT t n).toNat else Lib.decDigits (absT t n).toNat
theorem absT_bd (t n : Int) (h1 : -9223372036854775808 ≤ n) (h2 : n ≤ 9223372036854775807) : 0 ≤ absT t n ∧ absT t n ≤ 18446744073709551615 := by
  unfold absT
  split
  · rename_i h
    simp [negT] at h
    omega
  · exact u64_bd n
end Go.Proofs.YtabefhpgeaihgaaGreatDoor.V
