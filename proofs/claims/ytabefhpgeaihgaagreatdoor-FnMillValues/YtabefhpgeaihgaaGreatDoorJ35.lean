import Derived.Test.YtabefhpgeaihgaaGreatDoorJ16
import Derived.Test.YtabefhpgeaihgaaGreatDoorJ33
import Derived.Test.YtabefhpgeaihgaaGreatDoorJ31
/-! Printed by gen_vbin.py. -/
namespace Go.Proofs.YtabefhpgeaihgaaGreatDoor.V
open Go.RowKit Go.Shelf
set_option maxRecDepth 20000
set_option maxHeartbeats 4000000 in
theorem binOf_b1 (op t n : Int) (s : ByteArray) (t2 n2 : Int) (x : ByteArray) (ho : op < 1) (p : Addr) (y : ByteArray) (w : World) (he : ErrAt w 0 p y) :
    Calls Tryz.prog 18 #[.int .i64 op, val t n s, val t2 n2 x] w fun e w' => e = .returned (.tuple #[val 0 0 wNone, errV p]) ∧ Below w.heap.size w w' := by
  have HE := hid he
  clear he
  go_enter Tryz.func18, Tryz.ntmps18
  go_wp2
  have HB0 := hid (Three.start w t n s t2 n2 x)
  obtain ⟨W, hW⟩ : ∃ W, ((w.alloc (vbox t n s)).alloc (vbox t2 n2 x)).alloc (vbox 0 0 wNone) = W := ⟨_, rfl⟩
  rw [hW] at HB0 ⊢
  clear hW
  obtain ⟨x0, x1, x2⟩ := HB0.out.arg
  obtain ⟨z0, z1, z2⟩ := HB0.out.arg2
  obtain ⟨r0, r1, r2⟩ := HB0.out.res
  obtain ⟨y0, y1, y2⟩ := HB0.out.room
  have g0 := (HE.out.next HB0.out.below).glob
  go_region
  go_wp2
  exact bodyPost_ret (v := .tuple #[val 0 0 wNone, errV p]) (by simp [results, Tryz.results18, go_sem, r0, r1, r2]) rfl ⟨rfl, (setr (by omega) HB0.out.below _ _ _).drew⟩
set_option maxHeartbeats 4000000 in
theorem binOf_b2 (op t n : Int) (s : ByteArray) (t2 n2 : Int) (x : ByteArray) (ho : 18 < op) (p : Addr) (y : ByteArray) (w : World) (he : ErrAt w 0 p y) :
    Calls Tryz.prog 18 #[.int .i64 op, val t n s, val t2 n2 x] w fun e w' => e = .returned (.tuple #[val 0 0 wNone, errV p]) ∧ Below w.heap.size w w' := by
  have HE := hid he
  clear he
  have ho1 : ¬ op < 1 := by omega
  go_enter Tryz.func18, Tryz.ntmps18
  go_wp2
  have HB0 := hid (Three.start w t n s t2 n2 x)
  obtain ⟨W, hW⟩ : ∃ W, ((w.alloc (vbox t n s)).alloc (vbox t2 n2 x)).alloc (vbox 0 0 wNone) = W := ⟨_, rfl⟩
  rw [hW] at HB0 ⊢
  clear hW
  obtain ⟨x0, x1, x2⟩ := HB0.out.arg
  obtain ⟨z0, z1, z2⟩ := HB0.out.arg2
  obtain ⟨r0, r1, r2⟩ := HB0.out.res
  obtain ⟨y0, y1, y2⟩ := HB0.out.room
  have g0 := (HE.out.next HB0.out.below).glob
  go_region
  go_wp2
  exact bodyPost_ret (v := .tuple #[val 0 0 wNone, errV p]) (by simp [results, Tryz.results18, go_sem, r0, r1, r2]) rfl ⟨rfl, (setr (by omega) HB0.out.below _ _ _).drew⟩
set_option maxHeartbeats 4000000 in
theorem binOf_b3 (op t n : Int) (s : ByteArray) (t2 n2 : Int) (x : ByteArray) (hv : validB t n s = false) (h1 : 1 ≤ op) (h2 : op ≤ 18) (hn1 : -9223372036854775808 ≤ n) (hn2 : n ≤ 9223372036854775807) (p : Addr) (y : ByteArray) (w : World) (he : ErrAt w 0 p y) :
    Calls Tryz.prog 18 #[.int .i64 op, val t n s, val t2 n2 x] w fun e w' => e = .returned (.tuple #[val 0 0 wNone, errV p]) ∧ Below w.heap.size w w' := by
  have HE := hid he
  clear he
  have HV : Hid (∀ W, Calls Tryz.prog 9 #[val t n s] W fun e w' => e = .returned (.bool false) ∧ Below W.heap.size W w') := fun W => by
    have := implVV t n s hn1 hn2 W
    rwa [hv] at this
  clear hv
  go_enter Tryz.func18, Tryz.ntmps18
  go_wp2_with fail
  refine (HV.out _).mono ?_
  rintro e w1 ⟨rfl, hb1⟩
  have HB1 := hid ((Three.start w t n s t2 n2 x).next hb1)
  clear hb1
  obtain ⟨x0, x1, x2⟩ := HB1.out.arg
  obtain ⟨z0, z1, z2⟩ := HB1.out.arg2
  obtain ⟨r0, r1, r2⟩ := HB1.out.res
  obtain ⟨y0, y1, y2⟩ := HB1.out.room
  go_wp2
  have g0 := (HE.out.next HB1.out.below).glob
  go_region
  go_wp2
  exact bodyPost_ret (v := .tuple #[val 0 0 wNone, errV p]) (by simp [results, Tryz.results18, go_sem, r0, r1, r2]) rfl ⟨rfl, (setr (by omega) HB1.out.below _ _ _).drew⟩
set_option maxHeartbeats 4000000 in
theorem binOf_b4 (op t n : Int) (s : ByteArray) (t2 n2 : Int) (x : ByteArray) (hv : validB t n s = true) (hx : validB t2 n2 x = false) (h1 : 1 ≤ op) (h2 : op ≤ 18) (hn1 : -9223372036854775808 ≤ n) (hn2 : n ≤ 9223372036854775807) (hm1 : -9223372036854775808 ≤ n2) (hm2 : n2 ≤ 9223372036854775807) (p : Addr) (y : ByteArray) (w : World) (he : ErrAt w 0 p y) :
    Calls Tryz.prog 18 #[.int .i64 op, val t n s, val t2 n2 x] w fun e w' => e = .returned (.tuple #[val 0 0 wNone, errV p]) ∧ Below w.heap.size w w' := by
  have HE := hid he
  clear he
  have HV : Hid (∀ W, Calls Tryz.prog 9 #[val t n s] W fun e w' => e = .returned (.bool true) ∧ Below W.heap.size W w') := fun W => by
    have := implVV t n s hn1 hn2 W
    rwa [hv] at this
  have HW : Hid (∀ W, Calls Tryz.prog 9 #[val t2 n2 x] W fun e w' => e = .returned (.bool false) ∧ Below W.heap.size W w') := fun W => by
    have := implVV t2 n2 x hm1 hm2 W
    rwa [hx] at this
  clear hv hx
  go_enter Tryz.func18, Tryz.ntmps18
  go_wp2_with fail
  refine (HV.out _).mono ?_
  rintro e w1 ⟨rfl, hb1⟩
  have HB1 := hid ((Three.start w t n s t2 n2 x).next hb1)
  clear hb1
  obtain ⟨x0, x1, x2⟩ := HB1.out.arg
  obtain ⟨z0, z1, z2⟩ := HB1.out.arg2
  obtain ⟨r0, r1, r2⟩ := HB1.out.res
  obtain ⟨y0, y1, y2⟩ := HB1.out.room
  go_wp2_with fail
  refine (HW.out _).mono ?_
  rintro e w2 ⟨rfl, hb2⟩
  have HB2 := hid (HB1.out.next hb2)
  clear hb2
  clear x0 x1 x2 z0 z1 z2 r0 r1 r2 y0 y1 y2
  obtain ⟨x0, x1, x2⟩ := HB2.out.arg
  obtain ⟨z0, z1, z2⟩ := HB2.out.arg2
  obtain ⟨r0, r1, r2⟩ := HB2.out.res
  obtain ⟨y0, y1, y2⟩ := HB2.out.room
  go_wp2
  have g0 := (HE.out.next HB2.out.below).glob
  go_region
  go_wp2
  exact bodyPost_ret (v := .tuple #[val 0 0 wNone, errV p]) (by simp [results, Tryz.results18, go_sem, r0, r1, r2]) rfl ⟨rfl, (setr (by omega) HB2.out.below _ _ _).drew⟩
set_option maxHeartbeats 4000000 in
theorem binOf_b5 (op t n : Int) (s : ByteArray) (t2 n2 : Int) (x : ByteArray) (hv : validB t n s = true) (hx : validB t2 n2 x = true) (h1 : 1 ≤ op) (h2 : op ≤ 18) (t1 : 1 ≤ t) (t10 : t ≤ 10) (hu : binT op t t2 = 0) (hn1 : -9223372036854775808 ≤ n) (hn2 : n ≤ 9223372036854775807) (hm1 : -9223372036854775808 ≤ n2) (hm2 : n2 ≤ 9223372036854775807) (p : Addr) (y : ByteArray) (w : World) (he : ErrAt w 0 p y) :
    Calls Tryz.prog 18 #[.int .i64 op, val t n s, val t2 n2 x] w fun e w' => e = .returned (.tuple #[val 0 0 wNone, errV p]) ∧ Below w.heap.size w w' := by
  have HE := hid he
  clear he
  have HU : Hid (∀ W, Calls Tryz.prog 28 #[.int .i64 op, .int .i64 t, .int .i64 t2] W fun e w' => e = .returned (.int .i64 0) ∧ Below W.heap.size W w') := fun W => by
    have := binGives_any op t t2 h1 h2 t1 t10 W
    rwa [show binT op t t2 = 0 from hu] at this
  clear hu
  have HV : Hid (∀ W, Calls Tryz.prog 9 #[val t n s] W fun e w' => e = .returned (.bool true) ∧ Below W.heap.size W w') := fun W => by
    have := implVV t n s hn1 hn2 W
    rwa [hv] at this
  have HW : Hid (∀ W, Calls Tryz.prog 9 #[val t2 n2 x] W fun e w' => e = .returned (.bool true) ∧ Below W.heap.size W w') := fun W => by
    have := implVV t2 n2 x hm1 hm2 W
    rwa [hx] at this
  clear hv hx
  go_enter Tryz.func18, Tryz.ntmps18
  go_wp2_with fail
  refine (HV.out _).mono ?_
  rintro e w1 ⟨rfl, hb1⟩
  have HB1 := hid ((Three.start w t n s t2 n2 x).next hb1)
  clear hb1
  obtain ⟨x0, x1, x2⟩ := HB1.out.arg
  obtain ⟨z0, z1, z2⟩ := HB1.out.arg2
  obtain ⟨r0, r1, r2⟩ := HB1.out.res
  obtain ⟨y0, y1, y2⟩ := HB1.out.room
  go_wp2_with fail
  refine (HW.out _).mono ?_
  rintro e w2 ⟨rfl, hb2⟩
  have HB2 := hid (HB1.out.next hb2)
  clear hb2
  clear x0 x1 x2 z0 z1 z2 r0 r1 r2 y0 y1 y2
  obtain ⟨x0, x1, x2⟩ := HB2.out.arg
  obtain ⟨z0, z1, z2⟩ := HB2.out.arg2
  obtain ⟨r0, r1, r2⟩ := HB2.out.res
  obtain ⟨y0, y1, y2⟩ := HB2.out.room
  go_wp2_with fail
  refine (HU.out _).mono ?_
  rintro e w3 ⟨rfl, hb3⟩
  have HB3 := hid (HB2.out.next hb3)
  clear hb3
  clear x0 x1 x2 z0 z1 z2 r0 r1 r2 y0 y1 y2
  obtain ⟨x0, x1, x2⟩ := HB3.out.arg
  obtain ⟨z0, z1, z2⟩ := HB3.out.arg2
  obtain ⟨r0, r1, r2⟩ := HB3.out.res
  obtain ⟨y0, y1, y2⟩ := HB3.out.room
  go_wp2
  have g0 := (HE.out.next HB3.out.below).glob
  go_region
  go_wp2
  exact bodyPost_ret (v := .tuple #[val 0 0 wNone, errV p]) (by simp [results, Tryz.results18, go_sem, r0, r1, r2]) rfl ⟨rfl, (setr (by omega) HB3.out.below _ _ _).drew⟩
set_option maxHeartbeats 4000000 in
theorem binOf_int (w : World) (op t n : Int) (s : ByteArray) (n2 : Int) (x : ByteArray) (hv : validB t n s = true) (hx : validB t n2 x = true) (h1 : 3 ≤ op) (h2 : op ≤ 18) (h3 : 3 ≤ t) (h4 : t ≤ 10) (c d : Int) (f : ByteArray) (v : Value) (hN : ∀ W, Below w.heap.size w W → Calls Tryz.prog 32 #[.int .i64 op, .int .i64 t, .int .i64 n, .int .i64 n2] W fun e w' => e = .returned (.tuple #[val c d f, v]) ∧ Below W.heap.size W w') (hn1 : -9223372036854775808 ≤ n) (hn2 : n ≤ 9223372036854775807) (hm1 : -9223372036854775808 ≤ n2) (hm2 : n2 ≤ 9223372036854775807) :
    Calls Tryz.prog 18 #[.int .i64 op, val t n s, val t n2 x] w fun e w' => e = .returned (.tuple #[val c d f, v]) ∧ Below w.heap.size w w' := by
  have HV : Hid (∀ W, Calls Tryz.prog 9 #[val t n s] W fun e w' => e = .returned (.bool true) ∧ Below W.heap.size W w') := fun W => by
    have := implVV t n s hn1 hn2 W
    rwa [hv] at this
  have HW : Hid (∀ W, Calls Tryz.prog 9 #[val t n2 x] W fun e w' => e = .returned (.bool true) ∧ Below W.heap.size W w') := fun W => by
    have := implVV t n2 x hm1 hm2 W
    rwa [hx] at this
  have hu : ∃ r, binT op t t = r ∧ r ≠ 0 := ⟨_, rfl, by rw [binT_int h3 h1 h2]; split <;> omega⟩
  obtain ⟨r, hu, hr⟩ := hu
  have hr0 : ¬ r = 0 := hr
  have hrb : (r == 0) = false := by simpa using hr
  have HU : Hid (∀ W, Calls Tryz.prog 28 #[.int .i64 op, .int .i64 t, .int .i64 t] W fun e w' => e = .returned (.int .i64 r) ∧ Below W.heap.size W w') := fun W => by
    have := binGives_any op t t (by omega) (by omega) (by omega) h4 W
    rwa [show binT op t t = r from hu] at this
  have HN := hid hN
  have ht1 : ¬ t = 1 := by omega
  have ht2 : ¬ t = 2 := by omega
  clear hv hx hN hu
  go_enter Tryz.func18, Tryz.ntmps18
  go_wp2_with fail
  refine (HV.out _).mono ?_
  rintro e w1 ⟨rfl, hb1⟩
  have HB1 := hid ((Three.start w t n s t n2 x).next hb1)
  clear hb1
  obtain ⟨x0, x1, x2⟩ := HB1.out.arg
  obtain ⟨z0, z1, z2⟩ := HB1.out.arg2
  obtain ⟨r0, r1, r2⟩ := HB1.out.res
  obtain ⟨y0, y1, y2⟩ := HB1.out.room
  go_wp2_with fail
  refine (HW.out _).mono ?_
  rintro e w2 ⟨rfl, hb2⟩
  have HB2 := hid (HB1.out.next hb2)
  clear hb2
  clear x0 x1 x2 z0 z1 z2 r0 r1 r2 y0 y1 y2
  obtain ⟨x0, x1, x2⟩ := HB2.out.arg
  obtain ⟨z0, z1, z2⟩ := HB2.out.arg2
  obtain ⟨r0, r1, r2⟩ := HB2.out.res
  obtain ⟨y0, y1, y2⟩ := HB2.out.room
  go_wp2_with fail
  refine (HU.out _).mono ?_
  rintro e w3 ⟨rfl, hb3⟩
  have HB3 := hid (HB2.out.next hb3)
  clear hb3
  clear x0 x1 x2 z0 z1 z2 r0 r1 r2 y0 y1 y2
  obtain ⟨x0, x1, x2⟩ := HB3.out.arg
  obtain ⟨z0, z1, z2⟩ := HB3.out.arg2
  obtain ⟨r0, r1, r2⟩ := HB3.out.res
  obtain ⟨y0, y1, y2⟩ := HB3.out.room
  go_wp2_with fail
  refine (HN.out _ HB3.out.below).mono ?_
  rintro e w4 ⟨rfl, hb4⟩
  have HB4 := hid (HB3.out.next hb4)
  clear hb4
  clear x0 x1 x2 z0 z1 z2 r0 r1 r2 y0 y1 y2
  obtain ⟨x0, x1, x2⟩ := HB4.out.arg
  obtain ⟨z0, z1, z2⟩ := HB4.out.arg2
  obtain ⟨r0, r1, r2⟩ := HB4.out.res
  obtain ⟨y0, y1, y2⟩ := HB4.out.room
  go_wp2
  exact bodyPost_ret (v := (.tuple #[val c d f, v])) (by simp [results, Tryz.results18, go_sem, r0, r1, r2]) rfl ⟨rfl, setr (by omega) HB4.out.below _ _ _⟩
set_option maxHeartbeats 4000000 in
theorem binOf_bool (op n : Int) (s : ByteArray) (n2 : Int) (x : ByteArray) (hv : validB 1 n s = true) (hx : validB 1 n2 x = true) (h1 : 1 ≤ op) (h2 : op ≤ 4) (hn1 : -9223372036854775808 ≤ n) (hn2 : n ≤ 9223372036854775807) (hm1 : -9223372036854775808 ≤ n2) (hm2 : n2 ≤ 9223372036854775807) (w : World) :
    Calls Tryz.prog 18 #[.int .i64 op, val 1 n s, val 1 n2 x] w fun e w' => e = .returned (.tuple #[boolV (boolsB op n n2), .nilIface]) ∧ Below w.heap.size w w' := by
  have HV : Hid (∀ W, Calls Tryz.prog 9 #[val 1 n s] W fun e w' => e = .returned (.bool true) ∧ Below W.heap.size W w') := fun W => by
    have := implVV 1 n s hn1 hn2 W
    rwa [hv] at this
  have HW : Hid (∀ W, Calls Tryz.prog 9 #[val 1 n2 x] W fun e w' => e = .returned (.bool true) ∧ Below W.heap.size W w') := fun W => by
    have := implVV 1 n2 x hm1 hm2 W
    rwa [hx] at this
  have HU : Hid (∀ W, Calls Tryz.prog 28 #[.int .i64 op, .int .i64 1, .int .i64 1] W fun e w' => e = .returned (.int .i64 1) ∧ Below W.heap.size W w') := fun W => by
    have := binGives_any op 1 1 h1 (by omega) (by decide) (by decide) W
    rwa [show binT op 1 1 = 1 from binT_bool h1 h2] at this
  have HN := hid (bools_any op n n2 h1 h2 (valid_bool hv) (valid_bool hx))
  have HO := hid (ofBool_any (boolsB op n n2))
  have HR : Hid (∃ z : Int, boolV (boolsB op n n2) = val 1 z wNone) := ⟨_, rfl⟩
  obtain ⟨z, hz⟩ := HR.out
  rw [hz] at HO ⊢
  clear hv hx hz HR
  generalize boolsB op n n2 = R at *
  go_enter Tryz.func18, Tryz.ntmps18
  go_wp2_with fail
  refine (HV.out _).mono ?_
  rintro e w1 ⟨rfl, hb1⟩
  have HB1 := hid ((Three.start w 1 n s 1 n2 x).next hb1)
  clear hb1
  obtain ⟨x0, x1, x2⟩ := HB1.out.arg
  obtain ⟨z0, z1, z2⟩ := HB1.out.arg2
  obtain ⟨r0, r1, r2⟩ := HB1.out.res
  obtain ⟨y0, y1, y2⟩ := HB1.out.room
  go_wp2_with fail
  refine (HW.out _).mono ?_
  rintro e w2 ⟨rfl, hb2⟩
  have HB2 := hid (HB1.out.next hb2)
  clear hb2
  clear x0 x1 x2 z0 z1 z2 r0 r1 r2 y0 y1 y2
  obtain ⟨x0, x1, x2⟩ := HB2.out.arg
  obtain ⟨z0, z1, z2⟩ := HB2.out.arg2
  obtain ⟨r0, r1, r2⟩ := HB2.out.res
  obtain ⟨y0, y1, y2⟩ := HB2.out.room
  go_wp2_with fail
  refine (HU.out _).mono ?_
  rintro e w3 ⟨rfl, hb3⟩
  have HB3 := hid (HB2.out.next hb3)
  clear hb3
  clear x0 x1 x2 z0 z1 z2 r0 r1 r2 y0 y1 y2
  obtain ⟨x0, x1, x2⟩ := HB3.out.arg
  obtain ⟨z0, z1, z2⟩ := HB3.out.arg2
  obtain ⟨r0, r1, r2⟩ := HB3.out.res
  obtain ⟨y0, y1, y2⟩ := HB3.out.room
  go_wp2_with fail
  refine (HN.out _).mono ?_
  rintro e w4 ⟨rfl, hb4⟩
  have HB4 := hid (HB3.out.next hb4)
  clear hb4
  clear x0 x1 x2 z0 z1 z2 r0 r1 r2 y0 y1 y2
  obtain ⟨x0, x1, x2⟩ := HB4.out.arg
  obtain ⟨z0, z1, z2⟩ := HB4.out.arg2
  obtain ⟨r0, r1, r2⟩ := HB4.out.res
  obtain ⟨y0, y1, y2⟩ := HB4.out.room
  go_wp2_with fail
  refine (HO.out _).mono ?_
  rintro e w5 ⟨rfl, hb5⟩
  have HB5 := hid (HB4.out.next hb5)
  clear hb5
  clear x0 x1 x2 z0 z1 z2 r0 r1 r2 y0 y1 y2
  obtain ⟨x0, x1, x2⟩ := HB5.out.arg
  obtain ⟨z0, z1, z2⟩ := HB5.out.arg2
  obtain ⟨r0, r1, r2⟩ := HB5.out.res
  obtain ⟨y0, y1, y2⟩ := HB5.out.room
  go_wp2
  exact bodyPost_ret (v := (.tuple #[val 1 z wNone, .nilIface])) (by simp [results, Tryz.results18, go_sem, r0, r1, r2]) rfl ⟨rfl, setr (by omega) HB5.out.below _ _ _⟩
set_option maxHeartbeats 4000000 in
theorem binOf_text (w : World) (op : Int) (s x : ByteArray) (hv : validB 2 0 s = true) (hx : validB 2 0 x = true) (h1 : 3 ≤ op) (h2 : op ≤ 9) (c d : Int) (f : ByteArray) (v : Value) (hN : ∀ W, Below w.heap.size w W → Calls Tryz.prog 31 #[.int .i64 op, .string s, .string x] W fun e w' => e = .returned (.tuple #[val c d f, v]) ∧ Below W.heap.size W w') :
    Calls Tryz.prog 18 #[.int .i64 op, val 2 0 s, val 2 0 x] w fun e w' => e = .returned (.tuple #[val c d f, v]) ∧ Below w.heap.size w w' := by
  have HV : Hid (∀ W, Calls Tryz.prog 9 #[val 2 0 s] W fun e w' => e = .returned (.bool true) ∧ Below W.heap.size W w') := fun W => by
    have := implVV 2 0 s (by decide) (by decide) W
    rwa [hv] at this
  have HW : Hid (∀ W, Calls Tryz.prog 9 #[val 2 0 x] W fun e w' => e = .returned (.bool true) ∧ Below W.heap.size W w') := fun W => by
    have := implVV 2 0 x (by decide) (by decide) W
    rwa [hx] at this
  have hu : ∃ r, binT op 2 2 = r ∧ r ≠ 0 := ⟨_, rfl, binT_text h1 h2⟩
  obtain ⟨r, hu, hr⟩ := hu
  have hr0 : ¬ r = 0 := hr
  have hrb : (r == 0) = false := by simpa using hr
  have HU : Hid (∀ W, Calls Tryz.prog 28 #[.int .i64 op, .int .i64 2, .int .i64 2] W fun e w' => e = .returned (.int .i64 r) ∧ Below W.heap.size W w') := fun W => by
    have := binGives_any op 2 2 (by omega) (by omega) (by decide) (by decide) W
    rwa [show binT op 2 2 = r from hu] at this
  have HN := hid hN
  clear hv hx hN hu
  go_enter Tryz.func18, Tryz.ntmps18
  go_wp2_with fail
  refine (HV.out _).mono ?_
  rintro e w1 ⟨rfl, hb1⟩
  have HB1 := hid ((Three.start w 2 0 s 2 0 x).next hb1)
  clear hb1
  obtain ⟨x0, x1, x2⟩ := HB1.out.arg
  obtain ⟨z0, z1, z2⟩ := HB1.out.arg2
  obtain ⟨r0, r1, r2⟩ := HB1.out.res
  obtain ⟨y0, y1, y2⟩ := HB1.out.room
  go_wp2_with fail
  refine (HW.out _).mono ?_
  rintro e w2 ⟨rfl, hb2⟩
  have HB2 := hid (HB1.out.next hb2)
  clear hb2
  clear x0 x1 x2 z0 z1 z2 r0 r1 r2 y0 y1 y2
  obtain ⟨x0, x1, x2⟩ := HB2.out.arg
  obtain ⟨z0, z1, z2⟩ := HB2.out.arg2
  obtain ⟨r0, r1, r2⟩ := HB2.out.res
  obtain ⟨y0, y1, y2⟩ := HB2.out.room
  go_wp2_with fail
  refine (HU.out _).mono ?_
  rintro e w3 ⟨rfl, hb3⟩
  have HB3 := hid (HB2.out.next hb3)
  clear hb3
  clear x0 x1 x2 z0 z1 z2 r0 r1 r2 y0 y1 y2
  obtain ⟨x0, x1, x2⟩ := HB3.out.arg
  obtain ⟨z0, z1, z2⟩ := HB3.out.arg2
  obtain ⟨r0, r1, r2⟩ := HB3.out.res
  obtain ⟨y0, y1, y2⟩ := HB3.out.room
  go_wp2_with fail
  refine (HN.out _ HB3.out.below).mono ?_
  rintro e w4 ⟨rfl, hb4⟩
  have HB4 := hid (HB3.out.next hb4)
  clear hb4
  clear x0 x1 x2 z0 z1 z2 r0 r1 r2 y0 y1 y2
  obtain ⟨x0, x1, x2⟩ := HB4.out.arg
  obtain ⟨z0, z1, z2⟩ := HB4.out.arg2
  obtain ⟨r0, r1, r2⟩ := HB4.out.res
  obtain ⟨y0, y1, y2⟩ := HB4.out.room
  go_wp2
  exact bodyPost_ret (v := (.tuple #[val c d f, v])) (by simp [results, Tryz.results18, go_sem, r0, r1, r2]) rfl ⟨rfl, setr (by omega) HB4.out.below _ _ _⟩
set_option maxHeartbeats 4000000 in
theorem top_ok (op t n : Int) (s : ByteArray) (t2 n2 : Int) (x : ByteArray) (c d : Int) (f : ByteArray) (w : World) 
    (hO : ∀ W, Below w.heap.size w W → Calls Tryz.prog 18 #[.int .i64 op, val t n s, val t2 n2 x] W fun e w' => e = .returned (.tuple #[val c d f, .nilIface]) ∧ Below W.heap.size W w') :
    Calls Tryz.prog 6 #[.int .i64 op, val t n s, val t2 n2 x] w fun e w' => e = .returned (ans c d f wNone) ∧ Below w.heap.size w w' := by
  have HO := hid hO
  clear hO
  go_enter Tryz.func6, Tryz.ntmps6
  go_wp2_with fail
  refine (HO.out _ (alloc3 _ _ _ _)).mono ?_
  rintro e w1 ⟨rfl, hb1⟩
  have HB1 := hid ((Three.start w t n s t2 n2 x).next hb1)
  clear hb1
  go_wp2_with fail
  refine (answer_nil c d f _).mono ?_
  rintro e w2 ⟨rfl, hb2⟩
  have HB2 := hid (HB1.out.next hb2)
  clear hb2
  obtain ⟨x0, x1, x2⟩ := HB2.out.arg
  obtain ⟨z0, z1, z2⟩ := HB2.out.arg2
  obtain ⟨r0, r1, r2⟩ := HB2.out.res
  obtain ⟨y0, y1, y2⟩ := HB2.out.room
  go_wp2
  exact bodyPost_ret (v := ans c d f wNone) (by simp [results, Tryz.results6, go_sem, r0, r1, r2]) rfl ⟨rfl, setr (by omega) HB2.out.below _ _ _⟩
set_option maxHeartbeats 4000000 in
theorem top_err (op t n : Int) (s : ByteArray) (t2 n2 : Int) (x : ByteArray) (c d : Int) (f : ByteArray) (g : Nat) (p : Addr) (y : ByteArray) (w : World) (he : ErrAt w g p y)
    (hO : ∀ W, Below w.heap.size w W → Calls Tryz.prog 18 #[.int .i64 op, val t n s, val t2 n2 x] W fun e w' => e = .returned (.tuple #[val c d f, errV p]) ∧ Below W.heap.size W w') :
    Calls Tryz.prog 6 #[.int .i64 op, val t n s, val t2 n2 x] w fun e w' => e = .returned (ans 0 0 wNone y) ∧ Below w.heap.size w w' := by
  have HO := hid hO
  clear hO
  have HE := hid he
  clear he
  go_enter Tryz.func6, Tryz.ntmps6
  go_wp2_with fail
  refine (HO.out _ (alloc3 _ _ _ _)).mono ?_
  rintro e w1 ⟨rfl, hb1⟩
  have HB1 := hid ((Three.start w t n s t2 n2 x).next hb1)
  clear hb1
  have HE1 := hid (HE.out.next HB1.out.below)
  go_wp2_with fail
  refine (answer_err c d f p y _ HE1.out.cell HE1.out.la).mono ?_
  rintro e w2 ⟨rfl, hb2⟩
  have HB2 := hid (HB1.out.next hb2)
  clear hb2
  obtain ⟨x0, x1, x2⟩ := HB2.out.arg
  obtain ⟨z0, z1, z2⟩ := HB2.out.arg2
  obtain ⟨r0, r1, r2⟩ := HB2.out.res
  obtain ⟨y0, y1, y2⟩ := HB2.out.room
  go_wp2
  exact bodyPost_ret (v := ans 0 0 wNone y) (by simp [results, Tryz.results6, go_sem, r0, r1, r2]) rfl ⟨rfl, setr (by omega) HB2.out.below _ _ _⟩
end Go.Proofs.YtabefhpgeaihgaaGreatDoor.V
