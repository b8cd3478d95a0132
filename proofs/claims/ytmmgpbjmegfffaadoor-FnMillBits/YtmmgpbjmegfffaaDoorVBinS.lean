import Derived.Test.YtmmgpbjmegfffaaDoorVBBox
import Derived.Test.YtmmgpbjmegfffaaDoorVShB
import Derived.Test.YtmmgpbjmegfffaaDoorVBT
/-! Printed by gen_vbin.py. -/
namespace Go.Proofs.YtmmgpbjmegfffaaDoor.V
open Go.RowKit Go.Shelf
set_option maxRecDepth 20000
set_option maxHeartbeats 1000000 in
theorem l13Text_any (s : ByteArray) (w : World) :
    Calls Tryd.prog 17 #[.string s] w fun e w' => e = .returned (val 2 0 s) ∧ Below w.heap.size w w' := by
  go_enter Tryd.func17, Tryd.ntmps17
  go_wp2
  exact bodyPost_ret (v := val 2 0 s) (by simp [results, Tryd.results17, go_sem]) rfl ⟨rfl, alloc_below _ _⟩
set_option maxHeartbeats 4000000 in
theorem specBin_b1 (op t n : Int) (s : ByteArray) (t2 n2 : Int) (x : ByteArray) (hv : validB t n s = false) (hn1 : -9223372036854775808 ≤ n) (hn2 : n ≤ 9223372036854775807) (w : World) :
    Calls Tryd.prog 6 #[.int .i64 op, val t n s, val t2 n2 x] w fun e w' => e = .returned (ans 0 0 wNone wType) ∧ Below w.heap.size w w' := by
  have HV : Hid (∀ W, Calls Tryd.prog 11 #[val t n s] W fun e w' => e = .returned (.bool false) ∧ Below W.heap.size W w') := fun W => by
    have := specVV t n s hn1 hn2 W
    rwa [hv] at this
  clear hv
  go_enter Tryd.func6, Tryd.ntmps6
  go_wp2_with fail
  refine (HV.out _).mono ?_
  rintro e w1 ⟨rfl, hb1⟩
  have HB1 := hid ((Three.start w t n s t2 n2 x).next hb1)
  clear hb1
  obtain ⟨x0, x1, x2⟩ := HB1.out.arg
  obtain ⟨z0, z1, z2⟩ := HB1.out.arg2
  obtain ⟨r0, r1, r2⟩ := HB1.out.res
  obtain ⟨y0, y1, y2⟩ := HB1.out.room
  go_wp2
  exact bodyPost_ret (v := ans 0 0 wNone wType) (by simp [results, Tryd.results6, go_sem, r0, r1, r2, wType]) rfl ⟨rfl, setr (by omega) HB1.out.below _ _ _⟩
set_option maxHeartbeats 4000000 in
theorem specBin_b2 (op t n : Int) (s : ByteArray) (t2 n2 : Int) (x : ByteArray) (hv : validB t n s = true) (hx : validB t2 n2 x = false) (hn1 : -9223372036854775808 ≤ n) (hn2 : n ≤ 9223372036854775807) (hm1 : -9223372036854775808 ≤ n2) (hm2 : n2 ≤ 9223372036854775807) (w : World) :
    Calls Tryd.prog 6 #[.int .i64 op, val t n s, val t2 n2 x] w fun e w' => e = .returned (ans 0 0 wNone wType) ∧ Below w.heap.size w w' := by
  have HV : Hid (∀ W, Calls Tryd.prog 11 #[val t n s] W fun e w' => e = .returned (.bool true) ∧ Below W.heap.size W w') := fun W => by
    have := specVV t n s hn1 hn2 W
    rwa [hv] at this
  have HW : Hid (∀ W, Calls Tryd.prog 11 #[val t2 n2 x] W fun e w' => e = .returned (.bool false) ∧ Below W.heap.size W w') := fun W => by
    have := specVV t2 n2 x hm1 hm2 W
    rwa [hx] at this
  clear hv hx
  go_enter Tryd.func6, Tryd.ntmps6
  go_wp2_with fail
  refine (HV.out _).mono ?_
  rintro e w1 ⟨rfl, hb1⟩
  have HB1 := hid ((Three.start w t n s t2 n2 x).next hb1)
  clear hb1
  obtain ⟨x0, x1, x2⟩ := HB1.out.arg
  obtain ⟨z0, z1, z2⟩ := HB1.out.arg2
  obtain ⟨r0, r1, r2⟩ := HB1.out.res
  obtain ⟨y0, y1, y2⟩ := HB1.out.room
  go_wp2_with fail
  refine (HW.out _).mono ?_
  rintro e w2 ⟨rfl, hb2⟩
  have HB2 := hid (HB1.out.next hb2)
  clear hb2
  clear x0 x1 x2 z0 z1 z2 r0 r1 r2 y0 y1 y2
  obtain ⟨x0, x1, x2⟩ := HB2.out.arg
  obtain ⟨z0, z1, z2⟩ := HB2.out.arg2
  obtain ⟨r0, r1, r2⟩ := HB2.out.res
  obtain ⟨y0, y1, y2⟩ := HB2.out.room
  go_wp2
  exact bodyPost_ret (v := ans 0 0 wNone wType) (by simp [results, Tryd.results6, go_sem, r0, r1, r2, wType]) rfl ⟨rfl, setr (by omega) HB2.out.below _ _ _⟩
set_option maxHeartbeats 4000000 in
theorem specBin_b3 (op t n : Int) (s : ByteArray) (t2 n2 : Int) (x : ByteArray) (hv : validB t n s = true) (hx : validB t2 n2 x = true) (ho : op < 1) (hn1 : -9223372036854775808 ≤ n) (hn2 : n ≤ 9223372036854775807) (hm1 : -9223372036854775808 ≤ n2) (hm2 : n2 ≤ 9223372036854775807) (w : World) :
    Calls Tryd.prog 6 #[.int .i64 op, val t n s, val t2 n2 x] w fun e w' => e = .returned (ans 0 0 wNone wType) ∧ Below w.heap.size w w' := by
  have HV : Hid (∀ W, Calls Tryd.prog 11 #[val t n s] W fun e w' => e = .returned (.bool true) ∧ Below W.heap.size W w') := fun W => by
    have := specVV t n s hn1 hn2 W
    rwa [hv] at this
  have HW : Hid (∀ W, Calls Tryd.prog 11 #[val t2 n2 x] W fun e w' => e = .returned (.bool true) ∧ Below W.heap.size W w') := fun W => by
    have := specVV t2 n2 x hm1 hm2 W
    rwa [hx] at this
  clear hv hx
  go_enter Tryd.func6, Tryd.ntmps6
  go_wp2_with fail
  refine (HV.out _).mono ?_
  rintro e w1 ⟨rfl, hb1⟩
  have HB1 := hid ((Three.start w t n s t2 n2 x).next hb1)
  clear hb1
  obtain ⟨x0, x1, x2⟩ := HB1.out.arg
  obtain ⟨z0, z1, z2⟩ := HB1.out.arg2
  obtain ⟨r0, r1, r2⟩ := HB1.out.res
  obtain ⟨y0, y1, y2⟩ := HB1.out.room
  go_wp2_with fail
  refine (HW.out _).mono ?_
  rintro e w2 ⟨rfl, hb2⟩
  have HB2 := hid (HB1.out.next hb2)
  clear hb2
  clear x0 x1 x2 z0 z1 z2 r0 r1 r2 y0 y1 y2
  obtain ⟨x0, x1, x2⟩ := HB2.out.arg
  obtain ⟨z0, z1, z2⟩ := HB2.out.arg2
  obtain ⟨r0, r1, r2⟩ := HB2.out.res
  obtain ⟨y0, y1, y2⟩ := HB2.out.room
  go_wp2
  exact bodyPost_ret (v := ans 0 0 wNone wType) (by simp [results, Tryd.results6, go_sem, r0, r1, r2, wType]) rfl ⟨rfl, setr (by omega) HB2.out.below _ _ _⟩
set_option maxHeartbeats 4000000 in
theorem specBin_b4 (op t n : Int) (s : ByteArray) (t2 n2 : Int) (x : ByteArray) (hv : validB t n s = true) (hx : validB t2 n2 x = true) (ho : 18 < op) (hn1 : -9223372036854775808 ≤ n) (hn2 : n ≤ 9223372036854775807) (hm1 : -9223372036854775808 ≤ n2) (hm2 : n2 ≤ 9223372036854775807) (w : World) :
    Calls Tryd.prog 6 #[.int .i64 op, val t n s, val t2 n2 x] w fun e w' => e = .returned (ans 0 0 wNone wType) ∧ Below w.heap.size w w' := by
  have ho1 : ¬ op < 1 := by omega
  have HV : Hid (∀ W, Calls Tryd.prog 11 #[val t n s] W fun e w' => e = .returned (.bool true) ∧ Below W.heap.size W w') := fun W => by
    have := specVV t n s hn1 hn2 W
    rwa [hv] at this
  have HW : Hid (∀ W, Calls Tryd.prog 11 #[val t2 n2 x] W fun e w' => e = .returned (.bool true) ∧ Below W.heap.size W w') := fun W => by
    have := specVV t2 n2 x hm1 hm2 W
    rwa [hx] at this
  clear hv hx
  go_enter Tryd.func6, Tryd.ntmps6
  go_wp2_with fail
  refine (HV.out _).mono ?_
  rintro e w1 ⟨rfl, hb1⟩
  have HB1 := hid ((Three.start w t n s t2 n2 x).next hb1)
  clear hb1
  obtain ⟨x0, x1, x2⟩ := HB1.out.arg
  obtain ⟨z0, z1, z2⟩ := HB1.out.arg2
  obtain ⟨r0, r1, r2⟩ := HB1.out.res
  obtain ⟨y0, y1, y2⟩ := HB1.out.room
  go_wp2_with fail
  refine (HW.out _).mono ?_
  rintro e w2 ⟨rfl, hb2⟩
  have HB2 := hid (HB1.out.next hb2)
  clear hb2
  clear x0 x1 x2 z0 z1 z2 r0 r1 r2 y0 y1 y2
  obtain ⟨x0, x1, x2⟩ := HB2.out.arg
  obtain ⟨z0, z1, z2⟩ := HB2.out.arg2
  obtain ⟨r0, r1, r2⟩ := HB2.out.res
  obtain ⟨y0, y1, y2⟩ := HB2.out.room
  go_wp2
  exact bodyPost_ret (v := ans 0 0 wNone wType) (by simp [results, Tryd.results6, go_sem, r0, r1, r2, wType]) rfl ⟨rfl, setr (by omega) HB2.out.below _ _ _⟩
set_option maxHeartbeats 4000000 in
theorem specBin_b5 (op t n : Int) (s : ByteArray) (t2 n2 : Int) (x : ByteArray) (hv : validB t n s = true) (hx : validB t2 n2 x = true) (h1 : 1 ≤ op) (h2 : op ≤ 18) (t1 : 1 ≤ t) (t10 : t ≤ 10) (hu : binT op t t2 = 0) (hn1 : -9223372036854775808 ≤ n) (hn2 : n ≤ 9223372036854775807) (hm1 : -9223372036854775808 ≤ n2) (hm2 : n2 ≤ 9223372036854775807) (w : World) :
    Calls Tryd.prog 6 #[.int .i64 op, val t n s, val t2 n2 x] w fun e w' => e = .returned (ans 0 0 wNone wType) ∧ Below w.heap.size w w' := by
  have HU : Hid (∀ W, Calls Tryd.prog 13 #[.int .i64 op, .int .i64 t, .int .i64 t2] W fun e w' => e = .returned (.int .i64 0) ∧ Below W.heap.size W w') := fun W => by
    have := l12Bin_any op t t2 h1 h2 t1 t10 W
    rwa [show binT op t t2 = 0 from hu] at this
  clear hu
  have HV : Hid (∀ W, Calls Tryd.prog 11 #[val t n s] W fun e w' => e = .returned (.bool true) ∧ Below W.heap.size W w') := fun W => by
    have := specVV t n s hn1 hn2 W
    rwa [hv] at this
  have HW : Hid (∀ W, Calls Tryd.prog 11 #[val t2 n2 x] W fun e w' => e = .returned (.bool true) ∧ Below W.heap.size W w') := fun W => by
    have := specVV t2 n2 x hm1 hm2 W
    rwa [hx] at this
  clear hv hx
  go_enter Tryd.func6, Tryd.ntmps6
  go_wp2_with fail
  refine (HV.out _).mono ?_
  rintro e w1 ⟨rfl, hb1⟩
  have HB1 := hid ((Three.start w t n s t2 n2 x).next hb1)
  clear hb1
  obtain ⟨x0, x1, x2⟩ := HB1.out.arg
  obtain ⟨z0, z1, z2⟩ := HB1.out.arg2
  obtain ⟨r0, r1, r2⟩ := HB1.out.res
  obtain ⟨y0, y1, y2⟩ := HB1.out.room
  go_wp2_with fail
  refine (HW.out _).mono ?_
  rintro e w2 ⟨rfl, hb2⟩
  have HB2 := hid (HB1.out.next hb2)
  clear hb2
  clear x0 x1 x2 z0 z1 z2 r0 r1 r2 y0 y1 y2
  obtain ⟨x0, x1, x2⟩ := HB2.out.arg
  obtain ⟨z0, z1, z2⟩ := HB2.out.arg2
  obtain ⟨r0, r1, r2⟩ := HB2.out.res
  obtain ⟨y0, y1, y2⟩ := HB2.out.room
  go_wp2_with fail
  refine (HU.out _).mono ?_
  rintro e w3 ⟨rfl, hb3⟩
  have HB3 := hid (HB2.out.next hb3)
  clear hb3
  clear x0 x1 x2 z0 z1 z2 r0 r1 r2 y0 y1 y2
  obtain ⟨x0, x1, x2⟩ := HB3.out.arg
  obtain ⟨z0, z1, z2⟩ := HB3.out.arg2
  obtain ⟨r0, r1, r2⟩ := HB3.out.res
  obtain ⟨y0, y1, y2⟩ := HB3.out.room
  go_wp2
  exact bodyPost_ret (v := ans 0 0 wNone wType) (by simp [results, Tryd.results6, go_sem, r0, r1, r2, wType]) rfl ⟨rfl, setr (by omega) HB3.out.below _ _ _⟩
set_option maxHeartbeats 4000000 in
theorem specBin_9 (t n : Int) (s : ByteArray) (n2 : Int) (x : ByteArray) (hv : validB t n s = true) (hx : validB t n2 x = true) (h3 : 3 ≤ t) (h4 : t ≤ 10) (hn1 : -9223372036854775808 ≤ n) (hn2 : n ≤ 9223372036854775807) (hm1 : -9223372036854775808 ≤ n2) (hm2 : n2 ≤ 9223372036854775807) (w : World) :
    Calls Tryd.prog 6 #[.int .i64 9, val t n s, val t n2 x] w fun e w' => e = .returned (ans t (cntT t 9 n n2) wNone wNone) ∧ Below w.heap.size w w' := by
  have HV : Hid (∀ W, Calls Tryd.prog 11 #[val t n s] W fun e w' => e = .returned (.bool true) ∧ Below W.heap.size W w') := fun W => by
    have := specVV t n s hn1 hn2 W
    rwa [hv] at this
  have HW : Hid (∀ W, Calls Tryd.prog 11 #[val t n2 x] W fun e w' => e = .returned (.bool true) ∧ Below W.heap.size W w') := fun W => by
    have := specVV t n2 x hm1 hm2 W
    rwa [hx] at this
  have HU : Hid (∀ W, Calls Tryd.prog 13 #[.int .i64 9, .int .i64 t, .int .i64 t] W fun e w' => e = .returned (.int .i64 t) ∧ Below W.heap.size W w') := fun W => by
    have := l12Bin_any 9 t t (by decide) (by decide) (by omega) h4 W
    rwa [show binT 9 t t = t from binT_num h3 (by decide) (by decide)] at this
  have HN : Hid (∀ W, Calls Tryd.prog 16 #[.int .i64 t, .int .u64 (IntKind.u64.wrap (IntKind.u64.wrap n + IntKind.u64.wrap n2))] W fun e w' => e = .returned (val t (cntT t 9 n n2) wNone) ∧ Below W.heap.size W w') := fun W => by
    have := l13Num_any t (IntKind.u64.wrap (IntKind.u64.wrap n + IntKind.u64.wrap n2)) h3 h4 (u64_bd _).1 (u64_bd _).2 W
    rwa [spec_add] at this
  generalize cntT t 9 n n2 = z at *
  clear hv hx
  have ht : ¬ t = 2 := by omega
  go_enter Tryd.func6, Tryd.ntmps6
  go_wp2_with fail
  refine (HV.out _).mono ?_
  rintro e w1 ⟨rfl, hb1⟩
  have HB1 := hid ((Three.start w t n s t n2 x).next hb1)
  clear hb1
  obtain ⟨x0, x1, x2⟩ := HB1.out.arg
  obtain ⟨z0, z1, z2⟩ := HB1.out.arg2
  obtain ⟨r0, r1, r2⟩ := HB1.out.res
  obtain ⟨y0, y1, y2⟩ := HB1.out.room
  go_wp2_with fail
  refine (HW.out _).mono ?_
  rintro e w2 ⟨rfl, hb2⟩
  have HB2 := hid (HB1.out.next hb2)
  clear hb2
  clear x0 x1 x2 z0 z1 z2 r0 r1 r2 y0 y1 y2
  obtain ⟨x0, x1, x2⟩ := HB2.out.arg
  obtain ⟨z0, z1, z2⟩ := HB2.out.arg2
  obtain ⟨r0, r1, r2⟩ := HB2.out.res
  obtain ⟨y0, y1, y2⟩ := HB2.out.room
  go_wp2_with fail
  refine (HU.out _).mono ?_
  rintro e w3 ⟨rfl, hb3⟩
  have HB3 := hid (HB2.out.next hb3)
  clear hb3
  clear x0 x1 x2 z0 z1 z2 r0 r1 r2 y0 y1 y2
  obtain ⟨x0, x1, x2⟩ := HB3.out.arg
  obtain ⟨z0, z1, z2⟩ := HB3.out.arg2
  obtain ⟨r0, r1, r2⟩ := HB3.out.res
  obtain ⟨y0, y1, y2⟩ := HB3.out.room
  go_wp2_with fail
  refine (HN.out _).mono ?_
  rintro e w4 ⟨rfl, hb4⟩
  have HB4 := hid (HB3.out.next hb4)
  clear hb4
  clear x0 x1 x2 z0 z1 z2 r0 r1 r2 y0 y1 y2
  obtain ⟨x0, x1, x2⟩ := HB4.out.arg
  obtain ⟨z0, z1, z2⟩ := HB4.out.arg2
  obtain ⟨r0, r1, r2⟩ := HB4.out.res
  obtain ⟨y0, y1, y2⟩ := HB4.out.room
  go_wp2
  exact bodyPost_ret (v := ans t z wNone wNone) (by simp [results, Tryd.results6, go_sem, r0, r1, r2]) rfl ⟨rfl, setr (by omega) HB4.out.below _ _ _⟩
set_option maxHeartbeats 4000000 in
theorem specBin_10 (t n : Int) (s : ByteArray) (n2 : Int) (x : ByteArray) (hv : validB t n s = true) (hx : validB t n2 x = true) (h3 : 3 ≤ t) (h4 : t ≤ 10) (hn1 : -9223372036854775808 ≤ n) (hn2 : n ≤ 9223372036854775807) (hm1 : -9223372036854775808 ≤ n2) (hm2 : n2 ≤ 9223372036854775807) (w : World) :
    Calls Tryd.prog 6 #[.int .i64 10, val t n s, val t n2 x] w fun e w' => e = .returned (ans t (cntT t 10 n n2) wNone wNone) ∧ Below w.heap.size w w' := by
  have HV : Hid (∀ W, Calls Tryd.prog 11 #[val t n s] W fun e w' => e = .returned (.bool true) ∧ Below W.heap.size W w') := fun W => by
    have := specVV t n s hn1 hn2 W
    rwa [hv] at this
  have HW : Hid (∀ W, Calls Tryd.prog 11 #[val t n2 x] W fun e w' => e = .returned (.bool true) ∧ Below W.heap.size W w') := fun W => by
    have := specVV t n2 x hm1 hm2 W
    rwa [hx] at this
  have HU : Hid (∀ W, Calls Tryd.prog 13 #[.int .i64 10, .int .i64 t, .int .i64 t] W fun e w' => e = .returned (.int .i64 t) ∧ Below W.heap.size W w') := fun W => by
    have := l12Bin_any 10 t t (by decide) (by decide) (by omega) h4 W
    rwa [show binT 10 t t = t from binT_num h3 (by decide) (by decide)] at this
  have HN : Hid (∀ W, Calls Tryd.prog 16 #[.int .i64 t, .int .u64 (IntKind.u64.wrap (IntKind.u64.wrap n - IntKind.u64.wrap n2))] W fun e w' => e = .returned (val t (cntT t 10 n n2) wNone) ∧ Below W.heap.size W w') := fun W => by
    have := l13Num_any t (IntKind.u64.wrap (IntKind.u64.wrap n - IntKind.u64.wrap n2)) h3 h4 (u64_bd _).1 (u64_bd _).2 W
    rwa [spec_sub] at this
  generalize cntT t 10 n n2 = z at *
  clear hv hx
  have ht : ¬ t = 2 := by omega
  go_enter Tryd.func6, Tryd.ntmps6
  go_wp2_with fail
  refine (HV.out _).mono ?_
  rintro e w1 ⟨rfl, hb1⟩
  have HB1 := hid ((Three.start w t n s t n2 x).next hb1)
  clear hb1
  obtain ⟨x0, x1, x2⟩ := HB1.out.arg
  obtain ⟨z0, z1, z2⟩ := HB1.out.arg2
  obtain ⟨r0, r1, r2⟩ := HB1.out.res
  obtain ⟨y0, y1, y2⟩ := HB1.out.room
  go_wp2_with fail
  refine (HW.out _).mono ?_
  rintro e w2 ⟨rfl, hb2⟩
  have HB2 := hid (HB1.out.next hb2)
  clear hb2
  clear x0 x1 x2 z0 z1 z2 r0 r1 r2 y0 y1 y2
  obtain ⟨x0, x1, x2⟩ := HB2.out.arg
  obtain ⟨z0, z1, z2⟩ := HB2.out.arg2
  obtain ⟨r0, r1, r2⟩ := HB2.out.res
  obtain ⟨y0, y1, y2⟩ := HB2.out.room
  go_wp2_with fail
  refine (HU.out _).mono ?_
  rintro e w3 ⟨rfl, hb3⟩
  have HB3 := hid (HB2.out.next hb3)
  clear hb3
  clear x0 x1 x2 z0 z1 z2 r0 r1 r2 y0 y1 y2
  obtain ⟨x0, x1, x2⟩ := HB3.out.arg
  obtain ⟨z0, z1, z2⟩ := HB3.out.arg2
  obtain ⟨r0, r1, r2⟩ := HB3.out.res
  obtain ⟨y0, y1, y2⟩ := HB3.out.room
  go_wp2_with fail
  refine (HN.out _).mono ?_
  rintro e w4 ⟨rfl, hb4⟩
  have HB4 := hid (HB3.out.next hb4)
  clear hb4
  clear x0 x1 x2 z0 z1 z2 r0 r1 r2 y0 y1 y2
  obtain ⟨x0, x1, x2⟩ := HB4.out.arg
  obtain ⟨z0, z1, z2⟩ := HB4.out.arg2
  obtain ⟨r0, r1, r2⟩ := HB4.out.res
  obtain ⟨y0, y1, y2⟩ := HB4.out.room
  go_wp2
  exact bodyPost_ret (v := ans t z wNone wNone) (by simp [results, Tryd.results6, go_sem, r0, r1, r2]) rfl ⟨rfl, setr (by omega) HB4.out.below _ _ _⟩
set_option maxHeartbeats 4000000 in
theorem specBin_13 (t n : Int) (s : ByteArray) (n2 : Int) (x : ByteArray) (hv : validB t n s = true) (hx : validB t n2 x = true) (h3 : 3 ≤ t) (h4 : t ≤ 10) (hn1 : -9223372036854775808 ≤ n) (hn2 : n ≤ 9223372036854775807) (hm1 : -9223372036854775808 ≤ n2) (hm2 : n2 ≤ 9223372036854775807) (w : World) :
    Calls Tryd.prog 6 #[.int .i64 13, val t n s, val t n2 x] w fun e w' => e = .returned (ans t (cntT t 13 n n2) wNone wNone) ∧ Below w.heap.size w w' := by
  have HV : Hid (∀ W, Calls Tryd.prog 11 #[val t n s] W fun e w' => e = .returned (.bool true) ∧ Below W.heap.size W w') := fun W => by
    have := specVV t n s hn1 hn2 W
    rwa [hv] at this
  have HW : Hid (∀ W, Calls Tryd.prog 11 #[val t n2 x] W fun e w' => e = .returned (.bool true) ∧ Below W.heap.size W w') := fun W => by
    have := specVV t n2 x hm1 hm2 W
    rwa [hx] at this
  have HU : Hid (∀ W, Calls Tryd.prog 13 #[.int .i64 13, .int .i64 t, .int .i64 t] W fun e w' => e = .returned (.int .i64 t) ∧ Below W.heap.size W w') := fun W => by
    have := l12Bin_any 13 t t (by decide) (by decide) (by omega) h4 W
    rwa [show binT 13 t t = t from binT_num h3 (by decide) (by decide)] at this
  have HN : Hid (∀ W, Calls Tryd.prog 16 #[.int .i64 t, .int .u64 (IntKind.u64.wrap (IntKind.u64.wrap n * IntKind.u64.wrap n2))] W fun e w' => e = .returned (val t (cntT t 13 n n2) wNone) ∧ Below W.heap.size W w') := fun W => by
    have := l13Num_any t (IntKind.u64.wrap (IntKind.u64.wrap n * IntKind.u64.wrap n2)) h3 h4 (u64_bd _).1 (u64_bd _).2 W
    rwa [spec_mul] at this
  generalize cntT t 13 n n2 = z at *
  clear hv hx
  have ht : ¬ t = 2 := by omega
  go_enter Tryd.func6, Tryd.ntmps6
  go_wp2_with fail
  refine (HV.out _).mono ?_
  rintro e w1 ⟨rfl, hb1⟩
  have HB1 := hid ((Three.start w t n s t n2 x).next hb1)
  clear hb1
  obtain ⟨x0, x1, x2⟩ := HB1.out.arg
  obtain ⟨z0, z1, z2⟩ := HB1.out.arg2
  obtain ⟨r0, r1, r2⟩ := HB1.out.res
  obtain ⟨y0, y1, y2⟩ := HB1.out.room
  go_wp2_with fail
  refine (HW.out _).mono ?_
  rintro e w2 ⟨rfl, hb2⟩
  have HB2 := hid (HB1.out.next hb2)
  clear hb2
  clear x0 x1 x2 z0 z1 z2 r0 r1 r2 y0 y1 y2
  obtain ⟨x0, x1, x2⟩ := HB2.out.arg
  obtain ⟨z0, z1, z2⟩ := HB2.out.arg2
  obtain ⟨r0, r1, r2⟩ := HB2.out.res
  obtain ⟨y0, y1, y2⟩ := HB2.out.room
  go_wp2_with fail
  refine (HU.out _).mono ?_
  rintro e w3 ⟨rfl, hb3⟩
  have HB3 := hid (HB2.out.next hb3)
  clear hb3
  clear x0 x1 x2 z0 z1 z2 r0 r1 r2 y0 y1 y2
  obtain ⟨x0, x1, x2⟩ := HB3.out.arg
  obtain ⟨z0, z1, z2⟩ := HB3.out.arg2
  obtain ⟨r0, r1, r2⟩ := HB3.out.res
  obtain ⟨y0, y1, y2⟩ := HB3.out.room
  go_wp2_with fail
  refine (HN.out _).mono ?_
  rintro e w4 ⟨rfl, hb4⟩
  have HB4 := hid (HB3.out.next hb4)
  clear hb4
  clear x0 x1 x2 z0 z1 z2 r0 r1 r2 y0 y1 y2
  obtain ⟨x0, x1, x2⟩ := HB4.out.arg
  obtain ⟨z0, z1, z2⟩ := HB4.out.arg2
  obtain ⟨r0, r1, r2⟩ := HB4.out.res
  obtain ⟨y0, y1, y2⟩ := HB4.out.room
  go_wp2
  exact bodyPost_ret (v := ans t z wNone wNone) (by simp [results, Tryd.results6, go_sem, r0, r1, r2]) rfl ⟨rfl, setr (by omega) HB4.out.below _ _ _⟩
set_option maxHeartbeats 4000000 in
theorem specBin_11 (t n : Int) (s : ByteArray) (n2 : Int) (x : ByteArray) (hv : validB t n s = true) (hx : validB t n2 x = true) (h3 : 3 ≤ t) (h4 : t ≤ 10) (hn1 : -9223372036854775808 ≤ n) (hn2 : n ≤ 9223372036854775807) (hm1 : -9223372036854775808 ≤ n2) (hm2 : n2 ≤ 9223372036854775807) (w : World) :
    Calls Tryd.prog 6 #[.int .i64 11, val t n s, val t n2 x] w fun e w' => e = .returned (ans t (cntT t 11 n n2) wNone wNone) ∧ Below w.heap.size w w' := by
  have HV : Hid (∀ W, Calls Tryd.prog 11 #[val t n s] W fun e w' => e = .returned (.bool true) ∧ Below W.heap.size W w') := fun W => by
    have := specVV t n s hn1 hn2 W
    rwa [hv] at this
  have HW : Hid (∀ W, Calls Tryd.prog 11 #[val t n2 x] W fun e w' => e = .returned (.bool true) ∧ Below W.heap.size W w') := fun W => by
    have := specVV t n2 x hm1 hm2 W
    rwa [hx] at this
  have HU : Hid (∀ W, Calls Tryd.prog 13 #[.int .i64 11, .int .i64 t, .int .i64 t] W fun e w' => e = .returned (.int .i64 t) ∧ Below W.heap.size W w') := fun W => by
    have := l12Bin_any 11 t t (by decide) (by decide) (by omega) h4 W
    rwa [show binT 11 t t = t from binT_num h3 (by decide) (by decide)] at this
  have HN : Hid (∀ W, Calls Tryd.prog 16 #[.int .i64 t, .int .u64 (bits BinOp.or IntKind.u64 (IntKind.u64.wrap n) (IntKind.u64.wrap n2))] W fun e w' => e = .returned (val t (cntT t 11 n n2) wNone) ∧ Below W.heap.size W w') := fun W => by
    have := l13Num_any t (bits BinOp.or IntKind.u64 (IntKind.u64.wrap n) (IntKind.u64.wrap n2)) h3 h4 (bits_bd _ _ _).1 (bits_bd _ _ _).2 W
    rwa [spec_or] at this
  generalize cntT t 11 n n2 = z at *
  clear hv hx
  have ht : ¬ t = 2 := by omega
  go_enter Tryd.func6, Tryd.ntmps6
  go_wp2_with fail
  refine (HV.out _).mono ?_
  rintro e w1 ⟨rfl, hb1⟩
  have HB1 := hid ((Three.start w t n s t n2 x).next hb1)
  clear hb1
  obtain ⟨x0, x1, x2⟩ := HB1.out.arg
  obtain ⟨z0, z1, z2⟩ := HB1.out.arg2
  obtain ⟨r0, r1, r2⟩ := HB1.out.res
  obtain ⟨y0, y1, y2⟩ := HB1.out.room
  go_wp2_with fail
  refine (HW.out _).mono ?_
  rintro e w2 ⟨rfl, hb2⟩
  have HB2 := hid (HB1.out.next hb2)
  clear hb2
  clear x0 x1 x2 z0 z1 z2 r0 r1 r2 y0 y1 y2
  obtain ⟨x0, x1, x2⟩ := HB2.out.arg
  obtain ⟨z0, z1, z2⟩ := HB2.out.arg2
  obtain ⟨r0, r1, r2⟩ := HB2.out.res
  obtain ⟨y0, y1, y2⟩ := HB2.out.room
  go_wp2_with fail
  refine (HU.out _).mono ?_
  rintro e w3 ⟨rfl, hb3⟩
  have HB3 := hid (HB2.out.next hb3)
  clear hb3
  clear x0 x1 x2 z0 z1 z2 r0 r1 r2 y0 y1 y2
  obtain ⟨x0, x1, x2⟩ := HB3.out.arg
  obtain ⟨z0, z1, z2⟩ := HB3.out.arg2
  obtain ⟨r0, r1, r2⟩ := HB3.out.res
  obtain ⟨y0, y1, y2⟩ := HB3.out.room
  go_wp2_with fail
  refine (HN.out _).mono ?_
  rintro e w4 ⟨rfl, hb4⟩
  have HB4 := hid (HB3.out.next hb4)
  clear hb4
  clear x0 x1 x2 z0 z1 z2 r0 r1 r2 y0 y1 y2
  obtain ⟨x0, x1, x2⟩ := HB4.out.arg
  obtain ⟨z0, z1, z2⟩ := HB4.out.arg2
  obtain ⟨r0, r1, r2⟩ := HB4.out.res
  obtain ⟨y0, y1, y2⟩ := HB4.out.room
  go_wp2
  exact bodyPost_ret (v := ans t z wNone wNone) (by simp [results, Tryd.results6, go_sem, r0, r1, r2]) rfl ⟨rfl, setr (by omega) HB4.out.below _ _ _⟩
set_option maxHeartbeats 4000000 in
theorem specBin_12 (t n : Int) (s : ByteArray) (n2 : Int) (x : ByteArray) (hv : validB t n s = true) (hx : validB t n2 x = true) (h3 : 3 ≤ t) (h4 : t ≤ 10) (hn1 : -9223372036854775808 ≤ n) (hn2 : n ≤ 9223372036854775807) (hm1 : -9223372036854775808 ≤ n2) (hm2 : n2 ≤ 9223372036854775807) (w : World) :
    Calls Tryd.prog 6 #[.int .i64 12, val t n s, val t n2 x] w fun e w' => e = .returned (ans t (cntT t 12 n n2) wNone wNone) ∧ Below w.heap.size w w' := by
  have HV : Hid (∀ W, Calls Tryd.prog 11 #[val t n s] W fun e w' => e = .returned (.bool true) ∧ Below W.heap.size W w') := fun W => by
    have := specVV t n s hn1 hn2 W
    rwa [hv] at this
  have HW : Hid (∀ W, Calls Tryd.prog 11 #[val t n2 x] W fun e w' => e = .returned (.bool true) ∧ Below W.heap.size W w') := fun W => by
    have := specVV t n2 x hm1 hm2 W
    rwa [hx] at this
  have HU : Hid (∀ W, Calls Tryd.prog 13 #[.int .i64 12, .int .i64 t, .int .i64 t] W fun e w' => e = .returned (.int .i64 t) ∧ Below W.heap.size W w') := fun W => by
    have := l12Bin_any 12 t t (by decide) (by decide) (by omega) h4 W
    rwa [show binT 12 t t = t from binT_num h3 (by decide) (by decide)] at this
  have HN : Hid (∀ W, Calls Tryd.prog 16 #[.int .i64 t, .int .u64 (bits BinOp.xor IntKind.u64 (IntKind.u64.wrap n) (IntKind.u64.wrap n2))] W fun e w' => e = .returned (val t (cntT t 12 n n2) wNone) ∧ Below W.heap.size W w') := fun W => by
    have := l13Num_any t (bits BinOp.xor IntKind.u64 (IntKind.u64.wrap n) (IntKind.u64.wrap n2)) h3 h4 (bits_bd _ _ _).1 (bits_bd _ _ _).2 W
    rwa [spec_xor] at this
  generalize cntT t 12 n n2 = z at *
  clear hv hx
  have ht : ¬ t = 2 := by omega
  go_enter Tryd.func6, Tryd.ntmps6
  go_wp2_with fail
  refine (HV.out _).mono ?_
  rintro e w1 ⟨rfl, hb1⟩
  have HB1 := hid ((Three.start w t n s t n2 x).next hb1)
  clear hb1
  obtain ⟨x0, x1, x2⟩ := HB1.out.arg
  obtain ⟨z0, z1, z2⟩ := HB1.out.arg2
  obtain ⟨r0, r1, r2⟩ := HB1.out.res
  obtain ⟨y0, y1, y2⟩ := HB1.out.room
  go_wp2_with fail
  refine (HW.out _).mono ?_
  rintro e w2 ⟨rfl, hb2⟩
  have HB2 := hid (HB1.out.next hb2)
  clear hb2
  clear x0 x1 x2 z0 z1 z2 r0 r1 r2 y0 y1 y2
  obtain ⟨x0, x1, x2⟩ := HB2.out.arg
  obtain ⟨z0, z1, z2⟩ := HB2.out.arg2
  obtain ⟨r0, r1, r2⟩ := HB2.out.res
  obtain ⟨y0, y1, y2⟩ := HB2.out.room
  go_wp2_with fail
  refine (HU.out _).mono ?_
  rintro e w3 ⟨rfl, hb3⟩
  have HB3 := hid (HB2.out.next hb3)
  clear hb3
  clear x0 x1 x2 z0 z1 z2 r0 r1 r2 y0 y1 y2
  obtain ⟨x0, x1, x2⟩ := HB3.out.arg
  obtain ⟨z0, z1, z2⟩ := HB3.out.arg2
  obtain ⟨r0, r1, r2⟩ := HB3.out.res
  obtain ⟨y0, y1, y2⟩ := HB3.out.room
  go_wp2_with fail
  refine (HN.out _).mono ?_
  rintro e w4 ⟨rfl, hb4⟩
  have HB4 := hid (HB3.out.next hb4)
  clear hb4
  clear x0 x1 x2 z0 z1 z2 r0 r1 r2 y0 y1 y2
  obtain ⟨x0, x1, x2⟩ := HB4.out.arg
  obtain ⟨z0, z1, z2⟩ := HB4.out.arg2
  obtain ⟨r0, r1, r2⟩ := HB4.out.res
  obtain ⟨y0, y1, y2⟩ := HB4.out.room
  go_wp2
  exact bodyPost_ret (v := ans t z wNone wNone) (by simp [results, Tryd.results6, go_sem, r0, r1, r2]) rfl ⟨rfl, setr (by omega) HB4.out.below _ _ _⟩
set_option maxHeartbeats 4000000 in
theorem specBin_16 (t n : Int) (s : ByteArray) (n2 : Int) (x : ByteArray) (hv : validB t n s = true) (hx : validB t n2 x = true) (h3 : 3 ≤ t) (h4 : t ≤ 10) (hn1 : -9223372036854775808 ≤ n) (hn2 : n ≤ 9223372036854775807) (hm1 : -9223372036854775808 ≤ n2) (hm2 : n2 ≤ 9223372036854775807) (w : World) :
    Calls Tryd.prog 6 #[.int .i64 16, val t n s, val t n2 x] w fun e w' => e = .returned (ans t (cntT t 16 n n2) wNone wNone) ∧ Below w.heap.size w w' := by
  have HV : Hid (∀ W, Calls Tryd.prog 11 #[val t n s] W fun e w' => e = .returned (.bool true) ∧ Below W.heap.size W w') := fun W => by
    have := specVV t n s hn1 hn2 W
    rwa [hv] at this
  have HW : Hid (∀ W, Calls Tryd.prog 11 #[val t n2 x] W fun e w' => e = .returned (.bool true) ∧ Below W.heap.size W w') := fun W => by
    have := specVV t n2 x hm1 hm2 W
    rwa [hx] at this
  have HU : Hid (∀ W, Calls Tryd.prog 13 #[.int .i64 16, .int .i64 t, .int .i64 t] W fun e w' => e = .returned (.int .i64 t) ∧ Below W.heap.size W w') := fun W => by
    have := l12Bin_any 16 t t (by decide) (by decide) (by omega) h4 W
    rwa [show binT 16 t t = t from binT_num h3 (by decide) (by decide)] at this
  have HN : Hid (∀ W, Calls Tryd.prog 16 #[.int .i64 t, .int .u64 (bits BinOp.and IntKind.u64 (IntKind.u64.wrap n) (IntKind.u64.wrap n2))] W fun e w' => e = .returned (val t (cntT t 16 n n2) wNone) ∧ Below W.heap.size W w') := fun W => by
    have := l13Num_any t (bits BinOp.and IntKind.u64 (IntKind.u64.wrap n) (IntKind.u64.wrap n2)) h3 h4 (bits_bd _ _ _).1 (bits_bd _ _ _).2 W
    rwa [spec_and] at this
  generalize cntT t 16 n n2 = z at *
  clear hv hx
  have ht : ¬ t = 2 := by omega
  go_enter Tryd.func6, Tryd.ntmps6
  go_wp2_with fail
  refine (HV.out _).mono ?_
  rintro e w1 ⟨rfl, hb1⟩
  have HB1 := hid ((Three.start w t n s t n2 x).next hb1)
  clear hb1
  obtain ⟨x0, x1, x2⟩ := HB1.out.arg
  obtain ⟨z0, z1, z2⟩ := HB1.out.arg2
  obtain ⟨r0, r1, r2⟩ := HB1.out.res
  obtain ⟨y0, y1, y2⟩ := HB1.out.room
  go_wp2_with fail
  refine (HW.out _).mono ?_
  rintro e w2 ⟨rfl, hb2⟩
  have HB2 := hid (HB1.out.next hb2)
  clear hb2
  clear x0 x1 x2 z0 z1 z2 r0 r1 r2 y0 y1 y2
  obtain ⟨x0, x1, x2⟩ := HB2.out.arg
  obtain ⟨z0, z1, z2⟩ := HB2.out.arg2
  obtain ⟨r0, r1, r2⟩ := HB2.out.res
  obtain ⟨y0, y1, y2⟩ := HB2.out.room
  go_wp2_with fail
  refine (HU.out _).mono ?_
  rintro e w3 ⟨rfl, hb3⟩
  have HB3 := hid (HB2.out.next hb3)
  clear hb3
  clear x0 x1 x2 z0 z1 z2 r0 r1 r2 y0 y1 y2
  obtain ⟨x0, x1, x2⟩ := HB3.out.arg
  obtain ⟨z0, z1, z2⟩ := HB3.out.arg2
  obtain ⟨r0, r1, r2⟩ := HB3.out.res
  obtain ⟨y0, y1, y2⟩ := HB3.out.room
  go_wp2_with fail
  refine (HN.out _).mono ?_
  rintro e w4 ⟨rfl, hb4⟩
  have HB4 := hid (HB3.out.next hb4)
  clear hb4
  clear x0 x1 x2 z0 z1 z2 r0 r1 r2 y0 y1 y2
  obtain ⟨x0, x1, x2⟩ := HB4.out.arg
  obtain ⟨z0, z1, z2⟩ := HB4.out.arg2
  obtain ⟨r0, r1, r2⟩ := HB4.out.res
  obtain ⟨y0, y1, y2⟩ := HB4.out.room
  go_wp2
  exact bodyPost_ret (v := ans t z wNone wNone) (by simp [results, Tryd.results6, go_sem, r0, r1, r2]) rfl ⟨rfl, setr (by omega) HB4.out.below _ _ _⟩
set_option maxHeartbeats 4000000 in
theorem specBin_17 (t n : Int) (s : ByteArray) (n2 : Int) (x : ByteArray) (hv : validB t n s = true) (hx : validB t n2 x = true) (h3 : 3 ≤ t) (h4 : t ≤ 10) (ha : n = into t n) (hb : n2 = into t n2) (hn1 : -9223372036854775808 ≤ n) (hn2 : n ≤ 9223372036854775807) (hm1 : -9223372036854775808 ≤ n2) (hm2 : n2 ≤ 9223372036854775807) (w : World) :
    Calls Tryd.prog 6 #[.int .i64 17, val t n s, val t n2 x] w fun e w' => e = .returned (ans t (cntT t 17 n n2) wNone wNone) ∧ Below w.heap.size w w' := by
  have HV : Hid (∀ W, Calls Tryd.prog 11 #[val t n s] W fun e w' => e = .returned (.bool true) ∧ Below W.heap.size W w') := fun W => by
    have := specVV t n s hn1 hn2 W
    rwa [hv] at this
  have HW : Hid (∀ W, Calls Tryd.prog 11 #[val t n2 x] W fun e w' => e = .returned (.bool true) ∧ Below W.heap.size W w') := fun W => by
    have := specVV t n2 x hm1 hm2 W
    rwa [hx] at this
  have HU : Hid (∀ W, Calls Tryd.prog 13 #[.int .i64 17, .int .i64 t, .int .i64 t] W fun e w' => e = .returned (.int .i64 t) ∧ Below W.heap.size W w') := fun W => by
    have := l12Bin_any 17 t t (by decide) (by decide) (by omega) h4 W
    rwa [show binT 17 t t = t from binT_num h3 (by decide) (by decide)] at this
  have HN : Hid (∀ W, Calls Tryd.prog 18 #[.int .i64 17, .int .i64 t, .int .i64 n, .int .i64 n2] W fun e w' => e = .returned (val t (cntT t 17 n n2) wNone) ∧ Below W.heap.size W w') := fun W => shl_any t n n2 h3 h4 ha hb hm1 hm2 W
  generalize cntT t 17 n n2 = z at *
  clear hv hx ha hb
  go_enter Tryd.func6, Tryd.ntmps6
  go_wp2_with fail
  refine (HV.out _).mono ?_
  rintro e w1 ⟨rfl, hb1⟩
  have HB1 := hid ((Three.start w t n s t n2 x).next hb1)
  clear hb1
  obtain ⟨x0, x1, x2⟩ := HB1.out.arg
  obtain ⟨z0, z1, z2⟩ := HB1.out.arg2
  obtain ⟨r0, r1, r2⟩ := HB1.out.res
  obtain ⟨y0, y1, y2⟩ := HB1.out.room
  go_wp2_with fail
  refine (HW.out _).mono ?_
  rintro e w2 ⟨rfl, hb2⟩
  have HB2 := hid (HB1.out.next hb2)
  clear hb2
  clear x0 x1 x2 z0 z1 z2 r0 r1 r2 y0 y1 y2
  obtain ⟨x0, x1, x2⟩ := HB2.out.arg
  obtain ⟨z0, z1, z2⟩ := HB2.out.arg2
  obtain ⟨r0, r1, r2⟩ := HB2.out.res
  obtain ⟨y0, y1, y2⟩ := HB2.out.room
  go_wp2_with fail
  refine (HU.out _).mono ?_
  rintro e w3 ⟨rfl, hb3⟩
  have HB3 := hid (HB2.out.next hb3)
  clear hb3
  clear x0 x1 x2 z0 z1 z2 r0 r1 r2 y0 y1 y2
  obtain ⟨x0, x1, x2⟩ := HB3.out.arg
  obtain ⟨z0, z1, z2⟩ := HB3.out.arg2
  obtain ⟨r0, r1, r2⟩ := HB3.out.res
  obtain ⟨y0, y1, y2⟩ := HB3.out.room
  go_wp2_with fail
  refine (HN.out _).mono ?_
  rintro e w4 ⟨rfl, hb4⟩
  have HB4 := hid (HB3.out.next hb4)
  clear hb4
  clear x0 x1 x2 z0 z1 z2 r0 r1 r2 y0 y1 y2
  obtain ⟨x0, x1, x2⟩ := HB4.out.arg
  obtain ⟨z0, z1, z2⟩ := HB4.out.arg2
  obtain ⟨r0, r1, r2⟩ := HB4.out.res
  obtain ⟨y0, y1, y2⟩ := HB4.out.room
  go_wp2
  exact bodyPost_ret (v := ans t z wNone wNone) (by simp [results, Tryd.results6, go_sem, r0, r1, r2]) rfl ⟨rfl, setr (by omega) HB4.out.below _ _ _⟩
set_option maxHeartbeats 4000000 in
theorem specBin_18 (t n : Int) (s : ByteArray) (n2 : Int) (x : ByteArray) (hv : validB t n s = true) (hx : validB t n2 x = true) (h3 : 3 ≤ t) (h4 : t ≤ 10) (ha : n = into t n) (hb : n2 = into t n2) (hn1 : -9223372036854775808 ≤ n) (hn2 : n ≤ 9223372036854775807) (hm1 : -9223372036854775808 ≤ n2) (hm2 : n2 ≤ 9223372036854775807) (w : World) :
    Calls Tryd.prog 6 #[.int .i64 18, val t n s, val t n2 x] w fun e w' => e = .returned (ans t (cntT t 18 n n2) wNone wNone) ∧ Below w.heap.size w w' := by
  have HV : Hid (∀ W, Calls Tryd.prog 11 #[val t n s] W fun e w' => e = .returned (.bool true) ∧ Below W.heap.size W w') := fun W => by
    have := specVV t n s hn1 hn2 W
    rwa [hv] at this
  have HW : Hid (∀ W, Calls Tryd.prog 11 #[val t n2 x] W fun e w' => e = .returned (.bool true) ∧ Below W.heap.size W w') := fun W => by
    have := specVV t n2 x hm1 hm2 W
    rwa [hx] at this
  have HU : Hid (∀ W, Calls Tryd.prog 13 #[.int .i64 18, .int .i64 t, .int .i64 t] W fun e w' => e = .returned (.int .i64 t) ∧ Below W.heap.size W w') := fun W => by
    have := l12Bin_any 18 t t (by decide) (by decide) (by omega) h4 W
    rwa [show binT 18 t t = t from binT_num h3 (by decide) (by decide)] at this
  have HN : Hid (∀ W, Calls Tryd.prog 18 #[.int .i64 18, .int .i64 t, .int .i64 n, .int .i64 n2] W fun e w' => e = .returned (val t (cntT t 18 n n2) wNone) ∧ Below W.heap.size W w') := fun W => shr_any t n n2 h3 h4 ha hb hn1 hn2 hm1 hm2 W
  generalize cntT t 18 n n2 = z at *
  clear hv hx ha hb
  go_enter Tryd.func6, Tryd.ntmps6
  go_wp2_with fail
  refine (HV.out _).mono ?_
  rintro e w1 ⟨rfl, hb1⟩
  have HB1 := hid ((Three.start w t n s t n2 x).next hb1)
  clear hb1
  obtain ⟨x0, x1, x2⟩ := HB1.out.arg
  obtain ⟨z0, z1, z2⟩ := HB1.out.arg2
  obtain ⟨r0, r1, r2⟩ := HB1.out.res
  obtain ⟨y0, y1, y2⟩ := HB1.out.room
  go_wp2_with fail
  refine (HW.out _).mono ?_
  rintro e w2 ⟨rfl, hb2⟩
  have HB2 := hid (HB1.out.next hb2)
  clear hb2
  clear x0 x1 x2 z0 z1 z2 r0 r1 r2 y0 y1 y2
  obtain ⟨x0, x1, x2⟩ := HB2.out.arg
  obtain ⟨z0, z1, z2⟩ := HB2.out.arg2
  obtain ⟨r0, r1, r2⟩ := HB2.out.res
  obtain ⟨y0, y1, y2⟩ := HB2.out.room
  go_wp2_with fail
  refine (HU.out _).mono ?_
  rintro e w3 ⟨rfl, hb3⟩
  have HB3 := hid (HB2.out.next hb3)
  clear hb3
  clear x0 x1 x2 z0 z1 z2 r0 r1 r2 y0 y1 y2
  obtain ⟨x0, x1, x2⟩ := HB3.out.arg
  obtain ⟨z0, z1, z2⟩ := HB3.out.arg2
  obtain ⟨r0, r1, r2⟩ := HB3.out.res
  obtain ⟨y0, y1, y2⟩ := HB3.out.room
  go_wp2_with fail
  refine (HN.out _).mono ?_
  rintro e w4 ⟨rfl, hb4⟩
  have HB4 := hid (HB3.out.next hb4)
  clear hb4
  clear x0 x1 x2 z0 z1 z2 r0 r1 r2 y0 y1 y2
  obtain ⟨x0, x1, x2⟩ := HB4.out.arg
  obtain ⟨z0, z1, z2⟩ := HB4.out.arg2
  obtain ⟨r0, r1, r2⟩ := HB4.out.res
  obtain ⟨y0, y1, y2⟩ := HB4.out.room
  go_wp2
  exact bodyPost_ret (v := ans t z wNone wNone) (by simp [results, Tryd.results6, go_sem, r0, r1, r2]) rfl ⟨rfl, setr (by omega) HB4.out.below _ _ _⟩
set_option maxHeartbeats 4000000 in
theorem specBin_14 (t n : Int) (s : ByteArray) (n2 : Int) (x : ByteArray) (hv : validB t n s = true) (hx : validB t n2 x = true) (h3 : 3 ≤ t) (h4 : t ≤ 10) (ha : n = into t n) (hb : n2 = into t n2) (h0 : n2 ≠ 0) (hn1 : -9223372036854775808 ≤ n) (hn2 : n ≤ 9223372036854775807) (hm1 : -9223372036854775808 ≤ n2) (hm2 : n2 ≤ 9223372036854775807) (w : World) :
    Calls Tryd.prog 6 #[.int .i64 14, val t n s, val t n2 x] w fun e w' => e = .returned (ans t (cntT t 14 n n2) wNone wNone) ∧ Below w.heap.size w w' := by
  have HV : Hid (∀ W, Calls Tryd.prog 11 #[val t n s] W fun e w' => e = .returned (.bool true) ∧ Below W.heap.size W w') := fun W => by
    have := specVV t n s hn1 hn2 W
    rwa [hv] at this
  have HW : Hid (∀ W, Calls Tryd.prog 11 #[val t n2 x] W fun e w' => e = .returned (.bool true) ∧ Below W.heap.size W w') := fun W => by
    have := specVV t n2 x hm1 hm2 W
    rwa [hx] at this
  have HU : Hid (∀ W, Calls Tryd.prog 13 #[.int .i64 14, .int .i64 t, .int .i64 t] W fun e w' => e = .returned (.int .i64 t) ∧ Below W.heap.size W w') := fun W => by
    have := l12Bin_any 14 t t (by decide) (by decide) (by omega) h4 W
    rwa [show binT 14 t t = t from binT_num h3 (by decide) (by decide)] at this
  have hz : (kT t).wrap n2 ≠ 0 := fun e => h0 (by rw [hb]; show IntKind.i64.wrap ((kT t).wrap n2) = 0; rw [e]; rfl)
  have HN : Hid (∀ W, Calls Tryd.prog 19 #[.int .i64 t, .int .i64 n, .int .i64 n2] W fun e w' => e = .returned (.tuple #[val t (cntT t 14 n n2) wNone, val t (cntT t 15 n n2) wNone]) ∧ Below W.heap.size W w') := fun W => l13Divide_any t n n2 h3 h4 ha hb hz W
  generalize cntT t 14 n n2 = z at *
  generalize cntT t 15 n n2 = zz at *
  clear hv hx ha hb hz
  go_enter Tryd.func6, Tryd.ntmps6
  go_wp2_with fail
  refine (HV.out _).mono ?_
  rintro e w1 ⟨rfl, hb1⟩
  have HB1 := hid ((Three.start w t n s t n2 x).next hb1)
  clear hb1
  obtain ⟨x0, x1, x2⟩ := HB1.out.arg
  obtain ⟨z0, z1, z2⟩ := HB1.out.arg2
  obtain ⟨r0, r1, r2⟩ := HB1.out.res
  obtain ⟨y0, y1, y2⟩ := HB1.out.room
  go_wp2_with fail
  refine (HW.out _).mono ?_
  rintro e w2 ⟨rfl, hb2⟩
  have HB2 := hid (HB1.out.next hb2)
  clear hb2
  clear x0 x1 x2 z0 z1 z2 r0 r1 r2 y0 y1 y2
  obtain ⟨x0, x1, x2⟩ := HB2.out.arg
  obtain ⟨z0, z1, z2⟩ := HB2.out.arg2
  obtain ⟨r0, r1, r2⟩ := HB2.out.res
  obtain ⟨y0, y1, y2⟩ := HB2.out.room
  go_wp2_with fail
  refine (HU.out _).mono ?_
  rintro e w3 ⟨rfl, hb3⟩
  have HB3 := hid (HB2.out.next hb3)
  clear hb3
  clear x0 x1 x2 z0 z1 z2 r0 r1 r2 y0 y1 y2
  obtain ⟨x0, x1, x2⟩ := HB3.out.arg
  obtain ⟨z0, z1, z2⟩ := HB3.out.arg2
  obtain ⟨r0, r1, r2⟩ := HB3.out.res
  obtain ⟨y0, y1, y2⟩ := HB3.out.room
  go_wp2_with fail
  refine (HN.out _).mono ?_
  rintro e w4 ⟨rfl, hb4⟩
  have HB4 := hid (HB3.out.next hb4)
  clear hb4
  clear x0 x1 x2 z0 z1 z2 r0 r1 r2 y0 y1 y2
  obtain ⟨x0, x1, x2⟩ := HB4.out.arg
  obtain ⟨z0, z1, z2⟩ := HB4.out.arg2
  obtain ⟨r0, r1, r2⟩ := HB4.out.res
  obtain ⟨y0, y1, y2⟩ := HB4.out.room
  have HB5 := hid (HB4.out.next (alloc2 w4 (vbox t z wNone) (vbox t zz wNone)))
  clear x0 x1 x2 z0 z1 z2 r0 r1 r2 y0 y1 y2
  obtain ⟨r0, r1, r2⟩ := HB5.out.res
  obtain ⟨y0, y1, y2⟩ := HB5.out.room
  go_wp2
  exact bodyPost_ret (v := ans t z wNone wNone) (by simp [results, Tryd.results6, go_sem, r0, r1, r2]) rfl ⟨rfl, setr (by omega) HB5.out.below _ _ _⟩
set_option maxHeartbeats 4000000 in
theorem specBin_14z (t n : Int) (s x : ByteArray) (hv : validB t n s = true) (hx : validB t 0 x = true) (h3 : 3 ≤ t) (h4 : t ≤ 10) (hn1 : -9223372036854775808 ≤ n) (hn2 : n ≤ 9223372036854775807) (w : World) :
    Calls Tryd.prog 6 #[.int .i64 14, val t n s, val t 0 x] w fun e w' => e = .returned (ans 0 0 wNone wDiv) ∧ Below w.heap.size w w' := by
  have HV : Hid (∀ W, Calls Tryd.prog 11 #[val t n s] W fun e w' => e = .returned (.bool true) ∧ Below W.heap.size W w') := fun W => by
    have := specVV t n s hn1 hn2 W
    rwa [hv] at this
  have HW : Hid (∀ W, Calls Tryd.prog 11 #[val t 0 x] W fun e w' => e = .returned (.bool true) ∧ Below W.heap.size W w') := fun W => by
    have := specVV t 0 x (by decide) (by decide) W
    rwa [hx] at this
  clear hv hx
  have HU : Hid (∀ W, Calls Tryd.prog 13 #[.int .i64 14, .int .i64 t, .int .i64 t] W fun e w' => e = .returned (.int .i64 t) ∧ Below W.heap.size W w') := fun W => by
    have := l12Bin_any 14 t t (by decide) (by decide) (by omega) h4 W
    rwa [show binT 14 t t = t from binT_num h3 (by decide) (by decide)] at this
  go_enter Tryd.func6, Tryd.ntmps6
  go_wp2_with fail
  refine (HV.out _).mono ?_
  rintro e w1 ⟨rfl, hb1⟩
  have HB1 := hid ((Three.start w t n s t 0 x).next hb1)
  clear hb1
  obtain ⟨x0, x1, x2⟩ := HB1.out.arg
  obtain ⟨z0, z1, z2⟩ := HB1.out.arg2
  obtain ⟨r0, r1, r2⟩ := HB1.out.res
  obtain ⟨y0, y1, y2⟩ := HB1.out.room
  go_wp2_with fail
  refine (HW.out _).mono ?_
  rintro e w2 ⟨rfl, hb2⟩
  have HB2 := hid (HB1.out.next hb2)
  clear hb2
  clear x0 x1 x2 z0 z1 z2 r0 r1 r2 y0 y1 y2
  obtain ⟨x0, x1, x2⟩ := HB2.out.arg
  obtain ⟨z0, z1, z2⟩ := HB2.out.arg2
  obtain ⟨r0, r1, r2⟩ := HB2.out.res
  obtain ⟨y0, y1, y2⟩ := HB2.out.room
  go_wp2_with fail
  refine (HU.out _).mono ?_
  rintro e w3 ⟨rfl, hb3⟩
  have HB3 := hid (HB2.out.next hb3)
  clear hb3
  clear x0 x1 x2 z0 z1 z2 r0 r1 r2 y0 y1 y2
  obtain ⟨x0, x1, x2⟩ := HB3.out.arg
  obtain ⟨z0, z1, z2⟩ := HB3.out.arg2
  obtain ⟨r0, r1, r2⟩ := HB3.out.res
  obtain ⟨y0, y1, y2⟩ := HB3.out.room
  go_wp2
  exact bodyPost_ret (v := ans 0 0 wNone wDiv) (by simp [results, Tryd.results6, go_sem, r0, r1, r2, wDiv]) rfl ⟨rfl, setr (by omega) HB3.out.below _ _ _⟩
set_option maxHeartbeats 4000000 in
theorem specBin_15 (t n : Int) (s : ByteArray) (n2 : Int) (x : ByteArray) (hv : validB t n s = true) (hx : validB t n2 x = true) (h3 : 3 ≤ t) (h4 : t ≤ 10) (ha : n = into t n) (hb : n2 = into t n2) (h0 : n2 ≠ 0) (hn1 : -9223372036854775808 ≤ n) (hn2 : n ≤ 9223372036854775807) (hm1 : -9223372036854775808 ≤ n2) (hm2 : n2 ≤ 9223372036854775807) (w : World) :
    Calls Tryd.prog 6 #[.int .i64 15, val t n s, val t n2 x] w fun e w' => e = .returned (ans t (cntT t 15 n n2) wNone wNone) ∧ Below w.heap.size w w' := by
  have HV : Hid (∀ W, Calls Tryd.prog 11 #[val t n s] W fun e w' => e = .returned (.bool true) ∧ Below W.heap.size W w') := fun W => by
    have := specVV t n s hn1 hn2 W
    rwa [hv] at this
  have HW : Hid (∀ W, Calls Tryd.prog 11 #[val t n2 x] W fun e w' => e = .returned (.bool true) ∧ Below W.heap.size W w') := fun W => by
    have := specVV t n2 x hm1 hm2 W
    rwa [hx] at this
  have HU : Hid (∀ W, Calls Tryd.prog 13 #[.int .i64 15, .int .i64 t, .int .i64 t] W fun e w' => e = .returned (.int .i64 t) ∧ Below W.heap.size W w') := fun W => by
    have := l12Bin_any 15 t t (by decide) (by decide) (by omega) h4 W
    rwa [show binT 15 t t = t from binT_num h3 (by decide) (by decide)] at this
  have hz : (kT t).wrap n2 ≠ 0 := fun e => h0 (by rw [hb]; show IntKind.i64.wrap ((kT t).wrap n2) = 0; rw [e]; rfl)
  have HN : Hid (∀ W, Calls Tryd.prog 19 #[.int .i64 t, .int .i64 n, .int .i64 n2] W fun e w' => e = .returned (.tuple #[val t (cntT t 14 n n2) wNone, val t (cntT t 15 n n2) wNone]) ∧ Below W.heap.size W w') := fun W => l13Divide_any t n n2 h3 h4 ha hb hz W
  generalize cntT t 14 n n2 = zz at *
  generalize cntT t 15 n n2 = z at *
  clear hv hx ha hb hz
  go_enter Tryd.func6, Tryd.ntmps6
  go_wp2_with fail
  refine (HV.out _).mono ?_
  rintro e w1 ⟨rfl, hb1⟩
  have HB1 := hid ((Three.start w t n s t n2 x).next hb1)
  clear hb1
  obtain ⟨x0, x1, x2⟩ := HB1.out.arg
  obtain ⟨z0, z1, z2⟩ := HB1.out.arg2
  obtain ⟨r0, r1, r2⟩ := HB1.out.res
  obtain ⟨y0, y1, y2⟩ := HB1.out.room
  go_wp2_with fail
  refine (HW.out _).mono ?_
  rintro e w2 ⟨rfl, hb2⟩
  have HB2 := hid (HB1.out.next hb2)
  clear hb2
  clear x0 x1 x2 z0 z1 z2 r0 r1 r2 y0 y1 y2
  obtain ⟨x0, x1, x2⟩ := HB2.out.arg
  obtain ⟨z0, z1, z2⟩ := HB2.out.arg2
  obtain ⟨r0, r1, r2⟩ := HB2.out.res
  obtain ⟨y0, y1, y2⟩ := HB2.out.room
  go_wp2_with fail
  refine (HU.out _).mono ?_
  rintro e w3 ⟨rfl, hb3⟩
  have HB3 := hid (HB2.out.next hb3)
  clear hb3
  clear x0 x1 x2 z0 z1 z2 r0 r1 r2 y0 y1 y2
  obtain ⟨x0, x1, x2⟩ := HB3.out.arg
  obtain ⟨z0, z1, z2⟩ := HB3.out.arg2
  obtain ⟨r0, r1, r2⟩ := HB3.out.res
  obtain ⟨y0, y1, y2⟩ := HB3.out.room
  go_wp2_with fail
  refine (HN.out _).mono ?_
  rintro e w4 ⟨rfl, hb4⟩
  have HB4 := hid (HB3.out.next hb4)
  clear hb4
  clear x0 x1 x2 z0 z1 z2 r0 r1 r2 y0 y1 y2
  obtain ⟨x0, x1, x2⟩ := HB4.out.arg
  obtain ⟨z0, z1, z2⟩ := HB4.out.arg2
  obtain ⟨r0, r1, r2⟩ := HB4.out.res
  obtain ⟨y0, y1, y2⟩ := HB4.out.room
  have HB5 := hid (HB4.out.next (alloc2 w4 (vbox t zz wNone) (vbox t z wNone)))
  clear x0 x1 x2 z0 z1 z2 r0 r1 r2 y0 y1 y2
  obtain ⟨r0, r1, r2⟩ := HB5.out.res
  obtain ⟨y0, y1, y2⟩ := HB5.out.room
  go_wp2
  exact bodyPost_ret (v := ans t z wNone wNone) (by simp [results, Tryd.results6, go_sem, r0, r1, r2]) rfl ⟨rfl, setr (by omega) HB5.out.below _ _ _⟩
set_option maxHeartbeats 4000000 in
theorem specBin_15z (t n : Int) (s x : ByteArray) (hv : validB t n s = true) (hx : validB t 0 x = true) (h3 : 3 ≤ t) (h4 : t ≤ 10) (hn1 : -9223372036854775808 ≤ n) (hn2 : n ≤ 9223372036854775807) (w : World) :
    Calls Tryd.prog 6 #[.int .i64 15, val t n s, val t 0 x] w fun e w' => e = .returned (ans 0 0 wNone wDiv) ∧ Below w.heap.size w w' := by
  have HV : Hid (∀ W, Calls Tryd.prog 11 #[val t n s] W fun e w' => e = .returned (.bool true) ∧ Below W.heap.size W w') := fun W => by
    have := specVV t n s hn1 hn2 W
    rwa [hv] at this
  have HW : Hid (∀ W, Calls Tryd.prog 11 #[val t 0 x] W fun e w' => e = .returned (.bool true) ∧ Below W.heap.size W w') := fun W => by
    have := specVV t 0 x (by decide) (by decide) W
    rwa [hx] at this
  clear hv hx
  have HU : Hid (∀ W, Calls Tryd.prog 13 #[.int .i64 15, .int .i64 t, .int .i64 t] W fun e w' => e = .returned (.int .i64 t) ∧ Below W.heap.size W w') := fun W => by
    have := l12Bin_any 15 t t (by decide) (by decide) (by omega) h4 W
    rwa [show binT 15 t t = t from binT_num h3 (by decide) (by decide)] at this
  go_enter Tryd.func6, Tryd.ntmps6
  go_wp2_with fail
  refine (HV.out _).mono ?_
  rintro e w1 ⟨rfl, hb1⟩
  have HB1 := hid ((Three.start w t n s t 0 x).next hb1)
  clear hb1
  obtain ⟨x0, x1, x2⟩ := HB1.out.arg
  obtain ⟨z0, z1, z2⟩ := HB1.out.arg2
  obtain ⟨r0, r1, r2⟩ := HB1.out.res
  obtain ⟨y0, y1, y2⟩ := HB1.out.room
  go_wp2_with fail
  refine (HW.out _).mono ?_
  rintro e w2 ⟨rfl, hb2⟩
  have HB2 := hid (HB1.out.next hb2)
  clear hb2
  clear x0 x1 x2 z0 z1 z2 r0 r1 r2 y0 y1 y2
  obtain ⟨x0, x1, x2⟩ := HB2.out.arg
  obtain ⟨z0, z1, z2⟩ := HB2.out.arg2
  obtain ⟨r0, r1, r2⟩ := HB2.out.res
  obtain ⟨y0, y1, y2⟩ := HB2.out.room
  go_wp2_with fail
  refine (HU.out _).mono ?_
  rintro e w3 ⟨rfl, hb3⟩
  have HB3 := hid (HB2.out.next hb3)
  clear hb3
  clear x0 x1 x2 z0 z1 z2 r0 r1 r2 y0 y1 y2
  obtain ⟨x0, x1, x2⟩ := HB3.out.arg
  obtain ⟨z0, z1, z2⟩ := HB3.out.arg2
  obtain ⟨r0, r1, r2⟩ := HB3.out.res
  obtain ⟨y0, y1, y2⟩ := HB3.out.room
  go_wp2
  exact bodyPost_ret (v := ans 0 0 wNone wDiv) (by simp [results, Tryd.results6, go_sem, r0, r1, r2, wDiv]) rfl ⟨rfl, setr (by omega) HB3.out.below _ _ _⟩
set_option maxHeartbeats 4000000 in
theorem specBin_c (op t n : Int) (s : ByteArray) (n2 : Int) (x : ByteArray) (L E : Bool) (hv : validB t n s = true) (hx : validB t n2 x = true) (o3 : 3 ≤ op) (o8 : op ≤ 8) (t1 : 1 ≤ t) (t10 : t ≤ 10) (hu : binT op t t = 1) (hO : ∀ W, Calls Tryd.prog 15 #[.int .i64 op, val t n s, val t n2 x] W fun e w' => e = .returned (.bool (ordB op L E)) ∧ Below W.heap.size W w') (hn1 : -9223372036854775808 ≤ n) (hn2 : n ≤ 9223372036854775807) (hm1 : -9223372036854775808 ≤ n2) (hm2 : n2 ≤ 9223372036854775807) (w : World) :
    Calls Tryd.prog 6 #[.int .i64 op, val t n s, val t n2 x] w fun e w' => e = .returned (ans 1 (if ordB op L E then 1 else 0) wNone wNone) ∧ Below w.heap.size w w' := by
  have HV : Hid (∀ W, Calls Tryd.prog 11 #[val t n s] W fun e w' => e = .returned (.bool true) ∧ Below W.heap.size W w') := fun W => by
    have := specVV t n s hn1 hn2 W
    rwa [hv] at this
  have HW : Hid (∀ W, Calls Tryd.prog 11 #[val t n2 x] W fun e w' => e = .returned (.bool true) ∧ Below W.heap.size W w') := fun W => by
    have := specVV t n2 x hm1 hm2 W
    rwa [hx] at this
  have HU : Hid (∀ W, Calls Tryd.prog 13 #[.int .i64 op, .int .i64 t, .int .i64 t] W fun e w' => e = .returned (.int .i64 1) ∧ Below W.heap.size W w') := fun W => by
    have := l12Bin_any op t t (by omega) (by omega) t1 t10 W
    rwa [show binT op t t = 1 from hu] at this
  have HO := hid hO
  have HL := hid (l13Bool_any (ordB op L E))
  have HR : Hid (∃ z : Int, boolV (ordB op L E) = val 1 z wNone ∧ (if ordB op L E then 1 else 0) = z) := ⟨_, rfl, rfl⟩
  generalize ordB op L E = R at *
  obtain ⟨z, hz, hz2⟩ := HR.out
  rw [hz] at HL
  rw [hz2]
  clear hv hx hu hO hz hz2 HR
  obtain rfl | rfl | rfl | rfl | rfl | rfl : op = 3 ∨ op = 4 ∨ op = 5 ∨ op = 6 ∨ op = 7 ∨ op = 8 := by omega
  · go_enter Tryd.func6, Tryd.ntmps6
    go_wp2_with fail
    refine (HV.out _).mono ?_
    rintro e w1 ⟨rfl, hb1⟩
    have HB1 := hid ((Three.start w t n s t n2 x).next hb1)
    clear hb1
    obtain ⟨x0, x1, x2⟩ := HB1.out.arg
    obtain ⟨z0, z1, z2⟩ := HB1.out.arg2
    obtain ⟨r0, r1, r2⟩ := HB1.out.res
    obtain ⟨y0, y1, y2⟩ := HB1.out.room
    go_wp2_with fail
    refine (HW.out _).mono ?_
    rintro e w2 ⟨rfl, hb2⟩
    have HB2 := hid (HB1.out.next hb2)
    clear hb2
    clear x0 x1 x2 z0 z1 z2 r0 r1 r2 y0 y1 y2
    obtain ⟨x0, x1, x2⟩ := HB2.out.arg
    obtain ⟨z0, z1, z2⟩ := HB2.out.arg2
    obtain ⟨r0, r1, r2⟩ := HB2.out.res
    obtain ⟨y0, y1, y2⟩ := HB2.out.room
    go_wp2_with fail
    refine (HU.out _).mono ?_
    rintro e w3 ⟨rfl, hb3⟩
    have HB3 := hid (HB2.out.next hb3)
    clear hb3
    clear x0 x1 x2 z0 z1 z2 r0 r1 r2 y0 y1 y2
    obtain ⟨x0, x1, x2⟩ := HB3.out.arg
    obtain ⟨z0, z1, z2⟩ := HB3.out.arg2
    obtain ⟨r0, r1, r2⟩ := HB3.out.res
    obtain ⟨y0, y1, y2⟩ := HB3.out.room
    go_wp2_with fail
    refine (HO.out _).mono ?_
    rintro e w4 ⟨rfl, hb4⟩
    have HB4 := hid (HB3.out.next hb4)
    clear hb4
    clear x0 x1 x2 z0 z1 z2 r0 r1 r2 y0 y1 y2
    obtain ⟨x0, x1, x2⟩ := HB4.out.arg
    obtain ⟨z0, z1, z2⟩ := HB4.out.arg2
    obtain ⟨r0, r1, r2⟩ := HB4.out.res
    obtain ⟨y0, y1, y2⟩ := HB4.out.room
    go_wp2_with fail
    refine (HL.out _).mono ?_
    rintro e w5 ⟨rfl, hb5⟩
    have HB5 := hid (HB4.out.next hb5)
    clear hb5
    clear x0 x1 x2 z0 z1 z2 r0 r1 r2 y0 y1 y2
    obtain ⟨x0, x1, x2⟩ := HB5.out.arg
    obtain ⟨z0, z1, z2⟩ := HB5.out.arg2
    obtain ⟨r0, r1, r2⟩ := HB5.out.res
    obtain ⟨y0, y1, y2⟩ := HB5.out.room
    go_wp2
    exact bodyPost_ret (v := ans 1 z wNone wNone) (by simp [results, Tryd.results6, go_sem, r0, r1, r2]) rfl ⟨rfl, setr (by omega) HB5.out.below _ _ _⟩
  · go_enter Tryd.func6, Tryd.ntmps6
    go_wp2_with fail
    refine (HV.out _).mono ?_
    rintro e w1 ⟨rfl, hb1⟩
    have HB1 := hid ((Three.start w t n s t n2 x).next hb1)
    clear hb1
    obtain ⟨x0, x1, x2⟩ := HB1.out.arg
    obtain ⟨z0, z1, z2⟩ := HB1.out.arg2
    obtain ⟨r0, r1, r2⟩ := HB1.out.res
    obtain ⟨y0, y1, y2⟩ := HB1.out.room
    go_wp2_with fail
    refine (HW.out _).mono ?_
    rintro e w2 ⟨rfl, hb2⟩
    have HB2 := hid (HB1.out.next hb2)
    clear hb2
    clear x0 x1 x2 z0 z1 z2 r0 r1 r2 y0 y1 y2
    obtain ⟨x0, x1, x2⟩ := HB2.out.arg
    obtain ⟨z0, z1, z2⟩ := HB2.out.arg2
    obtain ⟨r0, r1, r2⟩ := HB2.out.res
    obtain ⟨y0, y1, y2⟩ := HB2.out.room
    go_wp2_with fail
    refine (HU.out _).mono ?_
    rintro e w3 ⟨rfl, hb3⟩
    have HB3 := hid (HB2.out.next hb3)
    clear hb3
    clear x0 x1 x2 z0 z1 z2 r0 r1 r2 y0 y1 y2
    obtain ⟨x0, x1, x2⟩ := HB3.out.arg
    obtain ⟨z0, z1, z2⟩ := HB3.out.arg2
    obtain ⟨r0, r1, r2⟩ := HB3.out.res
    obtain ⟨y0, y1, y2⟩ := HB3.out.room
    go_wp2_with fail
    refine (HO.out _).mono ?_
    rintro e w4 ⟨rfl, hb4⟩
    have HB4 := hid (HB3.out.next hb4)
    clear hb4
    clear x0 x1 x2 z0 z1 z2 r0 r1 r2 y0 y1 y2
    obtain ⟨x0, x1, x2⟩ := HB4.out.arg
    obtain ⟨z0, z1, z2⟩ := HB4.out.arg2
    obtain ⟨r0, r1, r2⟩ := HB4.out.res
    obtain ⟨y0, y1, y2⟩ := HB4.out.room
    go_wp2_with fail
    refine (HL.out _).mono ?_
    rintro e w5 ⟨rfl, hb5⟩
    have HB5 := hid (HB4.out.next hb5)
    clear hb5
    clear x0 x1 x2 z0 z1 z2 r0 r1 r2 y0 y1 y2
    obtain ⟨x0, x1, x2⟩ := HB5.out.arg
    obtain ⟨z0, z1, z2⟩ := HB5.out.arg2
    obtain ⟨r0, r1, r2⟩ := HB5.out.res
    obtain ⟨y0, y1, y2⟩ := HB5.out.room
    go_wp2
    exact bodyPost_ret (v := ans 1 z wNone wNone) (by simp [results, Tryd.results6, go_sem, r0, r1, r2]) rfl ⟨rfl, setr (by omega) HB5.out.below _ _ _⟩
  · go_enter Tryd.func6, Tryd.ntmps6
    go_wp2_with fail
    refine (HV.out _).mono ?_
    rintro e w1 ⟨rfl, hb1⟩
    have HB1 := hid ((Three.start w t n s t n2 x).next hb1)
    clear hb1
    obtain ⟨x0, x1, x2⟩ := HB1.out.arg
    obtain ⟨z0, z1, z2⟩ := HB1.out.arg2
    obtain ⟨r0, r1, r2⟩ := HB1.out.res
    obtain ⟨y0, y1, y2⟩ := HB1.out.room
    go_wp2_with fail
    refine (HW.out _).mono ?_
    rintro e w2 ⟨rfl, hb2⟩
    have HB2 := hid (HB1.out.next hb2)
    clear hb2
    clear x0 x1 x2 z0 z1 z2 r0 r1 r2 y0 y1 y2
    obtain ⟨x0, x1, x2⟩ := HB2.out.arg
    obtain ⟨z0, z1, z2⟩ := HB2.out.arg2
    obtain ⟨r0, r1, r2⟩ := HB2.out.res
    obtain ⟨y0, y1, y2⟩ := HB2.out.room
    go_wp2_with fail
    refine (HU.out _).mono ?_
    rintro e w3 ⟨rfl, hb3⟩
    have HB3 := hid (HB2.out.next hb3)
    clear hb3
    clear x0 x1 x2 z0 z1 z2 r0 r1 r2 y0 y1 y2
    obtain ⟨x0, x1, x2⟩ := HB3.out.arg
    obtain ⟨z0, z1, z2⟩ := HB3.out.arg2
    obtain ⟨r0, r1, r2⟩ := HB3.out.res
    obtain ⟨y0, y1, y2⟩ := HB3.out.room
    go_wp2_with fail
    refine (HO.out _).mono ?_
    rintro e w4 ⟨rfl, hb4⟩
    have HB4 := hid (HB3.out.next hb4)
    clear hb4
    clear x0 x1 x2 z0 z1 z2 r0 r1 r2 y0 y1 y2
    obtain ⟨x0, x1, x2⟩ := HB4.out.arg
    obtain ⟨z0, z1, z2⟩ := HB4.out.arg2
    obtain ⟨r0, r1, r2⟩ := HB4.out.res
    obtain ⟨y0, y1, y2⟩ := HB4.out.room
    go_wp2_with fail
    refine (HL.out _).mono ?_
    rintro e w5 ⟨rfl, hb5⟩
    have HB5 := hid (HB4.out.next hb5)
    clear hb5
    clear x0 x1 x2 z0 z1 z2 r0 r1 r2 y0 y1 y2
    obtain ⟨x0, x1, x2⟩ := HB5.out.arg
    obtain ⟨z0, z1, z2⟩ := HB5.out.arg2
    obtain ⟨r0, r1, r2⟩ := HB5.out.res
    obtain ⟨y0, y1, y2⟩ := HB5.out.room
    go_wp2
    exact bodyPost_ret (v := ans 1 z wNone wNone) (by simp [results, Tryd.results6, go_sem, r0, r1, r2]) rfl ⟨rfl, setr (by omega) HB5.out.below _ _ _⟩
  · go_enter Tryd.func6, Tryd.ntmps6
    go_wp2_with fail
    refine (HV.out _).mono ?_
    rintro e w1 ⟨rfl, hb1⟩
    have HB1 := hid ((Three.start w t n s t n2 x).next hb1)
    clear hb1
    obtain ⟨x0, x1, x2⟩ := HB1.out.arg
    obtain ⟨z0, z1, z2⟩ := HB1.out.arg2
    obtain ⟨r0, r1, r2⟩ := HB1.out.res
    obtain ⟨y0, y1, y2⟩ := HB1.out.room
    go_wp2_with fail
    refine (HW.out _).mono ?_
    rintro e w2 ⟨rfl, hb2⟩
    have HB2 := hid (HB1.out.next hb2)
    clear hb2
    clear x0 x1 x2 z0 z1 z2 r0 r1 r2 y0 y1 y2
    obtain ⟨x0, x1, x2⟩ := HB2.out.arg
    obtain ⟨z0, z1, z2⟩ := HB2.out.arg2
    obtain ⟨r0, r1, r2⟩ := HB2.out.res
    obtain ⟨y0, y1, y2⟩ := HB2.out.room
    go_wp2_with fail
    refine (HU.out _).mono ?_
    rintro e w3 ⟨rfl, hb3⟩
    have HB3 := hid (HB2.out.next hb3)
    clear hb3
    clear x0 x1 x2 z0 z1 z2 r0 r1 r2 y0 y1 y2
    obtain ⟨x0, x1, x2⟩ := HB3.out.arg
    obtain ⟨z0, z1, z2⟩ := HB3.out.arg2
    obtain ⟨r0, r1, r2⟩ := HB3.out.res
    obtain ⟨y0, y1, y2⟩ := HB3.out.room
    go_wp2_with fail
    refine (HO.out _).mono ?_
    rintro e w4 ⟨rfl, hb4⟩
    have HB4 := hid (HB3.out.next hb4)
    clear hb4
    clear x0 x1 x2 z0 z1 z2 r0 r1 r2 y0 y1 y2
    obtain ⟨x0, x1, x2⟩ := HB4.out.arg
    obtain ⟨z0, z1, z2⟩ := HB4.out.arg2
    obtain ⟨r0, r1, r2⟩ := HB4.out.res
    obtain ⟨y0, y1, y2⟩ := HB4.out.room
    go_wp2_with fail
    refine (HL.out _).mono ?_
    rintro e w5 ⟨rfl, hb5⟩
    have HB5 := hid (HB4.out.next hb5)
    clear hb5
    clear x0 x1 x2 z0 z1 z2 r0 r1 r2 y0 y1 y2
    obtain ⟨x0, x1, x2⟩ := HB5.out.arg
    obtain ⟨z0, z1, z2⟩ := HB5.out.arg2
    obtain ⟨r0, r1, r2⟩ := HB5.out.res
    obtain ⟨y0, y1, y2⟩ := HB5.out.room
    go_wp2
    exact bodyPost_ret (v := ans 1 z wNone wNone) (by simp [results, Tryd.results6, go_sem, r0, r1, r2]) rfl ⟨rfl, setr (by omega) HB5.out.below _ _ _⟩
  · go_enter Tryd.func6, Tryd.ntmps6
    go_wp2_with fail
    refine (HV.out _).mono ?_
    rintro e w1 ⟨rfl, hb1⟩
    have HB1 := hid ((Three.start w t n s t n2 x).next hb1)
    clear hb1
    obtain ⟨x0, x1, x2⟩ := HB1.out.arg
    obtain ⟨z0, z1, z2⟩ := HB1.out.arg2
    obtain ⟨r0, r1, r2⟩ := HB1.out.res
    obtain ⟨y0, y1, y2⟩ := HB1.out.room
    go_wp2_with fail
    refine (HW.out _).mono ?_
    rintro e w2 ⟨rfl, hb2⟩
    have HB2 := hid (HB1.out.next hb2)
    clear hb2
    clear x0 x1 x2 z0 z1 z2 r0 r1 r2 y0 y1 y2
    obtain ⟨x0, x1, x2⟩ := HB2.out.arg
    obtain ⟨z0, z1, z2⟩ := HB2.out.arg2
    obtain ⟨r0, r1, r2⟩ := HB2.out.res
    obtain ⟨y0, y1, y2⟩ := HB2.out.room
    go_wp2_with fail
    refine (HU.out _).mono ?_
    rintro e w3 ⟨rfl, hb3⟩
    have HB3 := hid (HB2.out.next hb3)
    clear hb3
    clear x0 x1 x2 z0 z1 z2 r0 r1 r2 y0 y1 y2
    obtain ⟨x0, x1, x2⟩ := HB3.out.arg
    obtain ⟨z0, z1, z2⟩ := HB3.out.arg2
    obtain ⟨r0, r1, r2⟩ := HB3.out.res
    obtain ⟨y0, y1, y2⟩ := HB3.out.room
    go_wp2_with fail
    refine (HO.out _).mono ?_
    rintro e w4 ⟨rfl, hb4⟩
    have HB4 := hid (HB3.out.next hb4)
    clear hb4
    clear x0 x1 x2 z0 z1 z2 r0 r1 r2 y0 y1 y2
    obtain ⟨x0, x1, x2⟩ := HB4.out.arg
    obtain ⟨z0, z1, z2⟩ := HB4.out.arg2
    obtain ⟨r0, r1, r2⟩ := HB4.out.res
    obtain ⟨y0, y1, y2⟩ := HB4.out.room
    go_wp2_with fail
    refine (HL.out _).mono ?_
    rintro e w5 ⟨rfl, hb5⟩
    have HB5 := hid (HB4.out.next hb5)
    clear hb5
    clear x0 x1 x2 z0 z1 z2 r0 r1 r2 y0 y1 y2
    obtain ⟨x0, x1, x2⟩ := HB5.out.arg
    obtain ⟨z0, z1, z2⟩ := HB5.out.arg2
    obtain ⟨r0, r1, r2⟩ := HB5.out.res
    obtain ⟨y0, y1, y2⟩ := HB5.out.room
    go_wp2
    exact bodyPost_ret (v := ans 1 z wNone wNone) (by simp [results, Tryd.results6, go_sem, r0, r1, r2]) rfl ⟨rfl, setr (by omega) HB5.out.below _ _ _⟩
  · go_enter Tryd.func6, Tryd.ntmps6
    go_wp2_with fail
    refine (HV.out _).mono ?_
    rintro e w1 ⟨rfl, hb1⟩
    have HB1 := hid ((Three.start w t n s t n2 x).next hb1)
    clear hb1
    obtain ⟨x0, x1, x2⟩ := HB1.out.arg
    obtain ⟨z0, z1, z2⟩ := HB1.out.arg2
    obtain ⟨r0, r1, r2⟩ := HB1.out.res
    obtain ⟨y0, y1, y2⟩ := HB1.out.room
    go_wp2_with fail
    refine (HW.out _).mono ?_
    rintro e w2 ⟨rfl, hb2⟩
    have HB2 := hid (HB1.out.next hb2)
    clear hb2
    clear x0 x1 x2 z0 z1 z2 r0 r1 r2 y0 y1 y2
    obtain ⟨x0, x1, x2⟩ := HB2.out.arg
    obtain ⟨z0, z1, z2⟩ := HB2.out.arg2
    obtain ⟨r0, r1, r2⟩ := HB2.out.res
    obtain ⟨y0, y1, y2⟩ := HB2.out.room
    go_wp2_with fail
    refine (HU.out _).mono ?_
    rintro e w3 ⟨rfl, hb3⟩
    have HB3 := hid (HB2.out.next hb3)
    clear hb3
    clear x0 x1 x2 z0 z1 z2 r0 r1 r2 y0 y1 y2
    obtain ⟨x0, x1, x2⟩ := HB3.out.arg
    obtain ⟨z0, z1, z2⟩ := HB3.out.arg2
    obtain ⟨r0, r1, r2⟩ := HB3.out.res
    obtain ⟨y0, y1, y2⟩ := HB3.out.room
    go_wp2_with fail
    refine (HO.out _).mono ?_
    rintro e w4 ⟨rfl, hb4⟩
    have HB4 := hid (HB3.out.next hb4)
    clear hb4
    clear x0 x1 x2 z0 z1 z2 r0 r1 r2 y0 y1 y2
    obtain ⟨x0, x1, x2⟩ := HB4.out.arg
    obtain ⟨z0, z1, z2⟩ := HB4.out.arg2
    obtain ⟨r0, r1, r2⟩ := HB4.out.res
    obtain ⟨y0, y1, y2⟩ := HB4.out.room
    go_wp2_with fail
    refine (HL.out _).mono ?_
    rintro e w5 ⟨rfl, hb5⟩
    have HB5 := hid (HB4.out.next hb5)
    clear hb5
    clear x0 x1 x2 z0 z1 z2 r0 r1 r2 y0 y1 y2
    obtain ⟨x0, x1, x2⟩ := HB5.out.arg
    obtain ⟨z0, z1, z2⟩ := HB5.out.arg2
    obtain ⟨r0, r1, r2⟩ := HB5.out.res
    obtain ⟨y0, y1, y2⟩ := HB5.out.room
    go_wp2
    exact bodyPost_ret (v := ans 1 z wNone wNone) (by simp [results, Tryd.results6, go_sem, r0, r1, r2]) rfl ⟨rfl, setr (by omega) HB5.out.below _ _ _⟩
set_option maxHeartbeats 4000000 in
theorem specBin_1_00 (s x : ByteArray) (hv : validB 1 0 s = true) (hx : validB 1 0 x = true) (w : World) :
    Calls Tryd.prog 6 #[.int .i64 1, val 1 0 s, val 1 0 x] w fun e w' => e = .returned (ans 1 0 wNone wNone) ∧ Below w.heap.size w w' := by
  have HV : Hid (∀ W, Calls Tryd.prog 11 #[val 1 0 s] W fun e w' => e = .returned (.bool true) ∧ Below W.heap.size W w') := fun W => by
    have := specVV 1 0 s (by decide) (by decide) W
    rwa [hv] at this
  have HW : Hid (∀ W, Calls Tryd.prog 11 #[val 1 0 x] W fun e w' => e = .returned (.bool true) ∧ Below W.heap.size W w') := fun W => by
    have := specVV 1 0 x (by decide) (by decide) W
    rwa [hx] at this
  clear hv hx
  have HU : Hid (∀ W, Calls Tryd.prog 13 #[.int .i64 1, .int .i64 1, .int .i64 1] W fun e w' => e = .returned (.int .i64 1) ∧ Below W.heap.size W w') := fun W => by
    have := l12Bin_any 1 1 1 (by decide) (by decide) (by decide) (by decide) W
    rwa [show binT 1 1 1 = 1 from rfl] at this
  go_enter Tryd.func6, Tryd.ntmps6
  go_wp2_with fail
  refine (HV.out _).mono ?_
  rintro e w1 ⟨rfl, hb1⟩
  have HB1 := hid ((Three.start w 1 0 s 1 0 x).next hb1)
  clear hb1
  obtain ⟨x0, x1, x2⟩ := HB1.out.arg
  obtain ⟨z0, z1, z2⟩ := HB1.out.arg2
  obtain ⟨r0, r1, r2⟩ := HB1.out.res
  obtain ⟨y0, y1, y2⟩ := HB1.out.room
  go_wp2_with fail
  refine (HW.out _).mono ?_
  rintro e w2 ⟨rfl, hb2⟩
  have HB2 := hid (HB1.out.next hb2)
  clear hb2
  clear x0 x1 x2 z0 z1 z2 r0 r1 r2 y0 y1 y2
  obtain ⟨x0, x1, x2⟩ := HB2.out.arg
  obtain ⟨z0, z1, z2⟩ := HB2.out.arg2
  obtain ⟨r0, r1, r2⟩ := HB2.out.res
  obtain ⟨y0, y1, y2⟩ := HB2.out.room
  go_wp2_with fail
  refine (HU.out _).mono ?_
  rintro e w3 ⟨rfl, hb3⟩
  have HB3 := hid (HB2.out.next hb3)
  clear hb3
  clear x0 x1 x2 z0 z1 z2 r0 r1 r2 y0 y1 y2
  obtain ⟨x0, x1, x2⟩ := HB3.out.arg
  obtain ⟨z0, z1, z2⟩ := HB3.out.arg2
  obtain ⟨r0, r1, r2⟩ := HB3.out.res
  obtain ⟨y0, y1, y2⟩ := HB3.out.room
  go_wp2_with fail
  refine (l13Bool_any false _).mono ?_
  rintro e w4 ⟨rfl, hb4⟩
  have HB4 := hid (HB3.out.next hb4)
  clear hb4
  clear x0 x1 x2 z0 z1 z2 r0 r1 r2 y0 y1 y2
  obtain ⟨x0, x1, x2⟩ := HB4.out.arg
  obtain ⟨z0, z1, z2⟩ := HB4.out.arg2
  obtain ⟨r0, r1, r2⟩ := HB4.out.res
  obtain ⟨y0, y1, y2⟩ := HB4.out.room
  go_wp2
  exact bodyPost_ret (v := ans 1 0 wNone wNone) (by simp [results, Tryd.results6, go_sem, r0, r1, r2]) rfl ⟨rfl, setr (by omega) HB4.out.below _ _ _⟩
set_option maxHeartbeats 4000000 in
theorem specBin_1_01 (s x : ByteArray) (hv : validB 1 0 s = true) (hx : validB 1 1 x = true) (w : World) :
    Calls Tryd.prog 6 #[.int .i64 1, val 1 0 s, val 1 1 x] w fun e w' => e = .returned (ans 1 1 wNone wNone) ∧ Below w.heap.size w w' := by
  have HV : Hid (∀ W, Calls Tryd.prog 11 #[val 1 0 s] W fun e w' => e = .returned (.bool true) ∧ Below W.heap.size W w') := fun W => by
    have := specVV 1 0 s (by decide) (by decide) W
    rwa [hv] at this
  have HW : Hid (∀ W, Calls Tryd.prog 11 #[val 1 1 x] W fun e w' => e = .returned (.bool true) ∧ Below W.heap.size W w') := fun W => by
    have := specVV 1 1 x (by decide) (by decide) W
    rwa [hx] at this
  clear hv hx
  have HU : Hid (∀ W, Calls Tryd.prog 13 #[.int .i64 1, .int .i64 1, .int .i64 1] W fun e w' => e = .returned (.int .i64 1) ∧ Below W.heap.size W w') := fun W => by
    have := l12Bin_any 1 1 1 (by decide) (by decide) (by decide) (by decide) W
    rwa [show binT 1 1 1 = 1 from rfl] at this
  go_enter Tryd.func6, Tryd.ntmps6
  go_wp2_with fail
  refine (HV.out _).mono ?_
  rintro e w1 ⟨rfl, hb1⟩
  have HB1 := hid ((Three.start w 1 0 s 1 1 x).next hb1)
  clear hb1
  obtain ⟨x0, x1, x2⟩ := HB1.out.arg
  obtain ⟨z0, z1, z2⟩ := HB1.out.arg2
  obtain ⟨r0, r1, r2⟩ := HB1.out.res
  obtain ⟨y0, y1, y2⟩ := HB1.out.room
  go_wp2_with fail
  refine (HW.out _).mono ?_
  rintro e w2 ⟨rfl, hb2⟩
  have HB2 := hid (HB1.out.next hb2)
  clear hb2
  clear x0 x1 x2 z0 z1 z2 r0 r1 r2 y0 y1 y2
  obtain ⟨x0, x1, x2⟩ := HB2.out.arg
  obtain ⟨z0, z1, z2⟩ := HB2.out.arg2
  obtain ⟨r0, r1, r2⟩ := HB2.out.res
  obtain ⟨y0, y1, y2⟩ := HB2.out.room
  go_wp2_with fail
  refine (HU.out _).mono ?_
  rintro e w3 ⟨rfl, hb3⟩
  have HB3 := hid (HB2.out.next hb3)
  clear hb3
  clear x0 x1 x2 z0 z1 z2 r0 r1 r2 y0 y1 y2
  obtain ⟨x0, x1, x2⟩ := HB3.out.arg
  obtain ⟨z0, z1, z2⟩ := HB3.out.arg2
  obtain ⟨r0, r1, r2⟩ := HB3.out.res
  obtain ⟨y0, y1, y2⟩ := HB3.out.room
  go_wp2_with fail
  refine (l13Bool_any true _).mono ?_
  rintro e w4 ⟨rfl, hb4⟩
  have HB4 := hid (HB3.out.next hb4)
  clear hb4
  clear x0 x1 x2 z0 z1 z2 r0 r1 r2 y0 y1 y2
  obtain ⟨x0, x1, x2⟩ := HB4.out.arg
  obtain ⟨z0, z1, z2⟩ := HB4.out.arg2
  obtain ⟨r0, r1, r2⟩ := HB4.out.res
  obtain ⟨y0, y1, y2⟩ := HB4.out.room
  go_wp2
  exact bodyPost_ret (v := ans 1 1 wNone wNone) (by simp [results, Tryd.results6, go_sem, r0, r1, r2]) rfl ⟨rfl, setr (by omega) HB4.out.below _ _ _⟩
set_option maxHeartbeats 4000000 in
theorem specBin_1_10 (s x : ByteArray) (hv : validB 1 1 s = true) (hx : validB 1 0 x = true) (w : World) :
    Calls Tryd.prog 6 #[.int .i64 1, val 1 1 s, val 1 0 x] w fun e w' => e = .returned (ans 1 1 wNone wNone) ∧ Below w.heap.size w w' := by
  have HV : Hid (∀ W, Calls Tryd.prog 11 #[val 1 1 s] W fun e w' => e = .returned (.bool true) ∧ Below W.heap.size W w') := fun W => by
    have := specVV 1 1 s (by decide) (by decide) W
    rwa [hv] at this
  have HW : Hid (∀ W, Calls Tryd.prog 11 #[val 1 0 x] W fun e w' => e = .returned (.bool true) ∧ Below W.heap.size W w') := fun W => by
    have := specVV 1 0 x (by decide) (by decide) W
    rwa [hx] at this
  clear hv hx
  have HU : Hid (∀ W, Calls Tryd.prog 13 #[.int .i64 1, .int .i64 1, .int .i64 1] W fun e w' => e = .returned (.int .i64 1) ∧ Below W.heap.size W w') := fun W => by
    have := l12Bin_any 1 1 1 (by decide) (by decide) (by decide) (by decide) W
    rwa [show binT 1 1 1 = 1 from rfl] at this
  go_enter Tryd.func6, Tryd.ntmps6
  go_wp2_with fail
  refine (HV.out _).mono ?_
  rintro e w1 ⟨rfl, hb1⟩
  have HB1 := hid ((Three.start w 1 1 s 1 0 x).next hb1)
  clear hb1
  obtain ⟨x0, x1, x2⟩ := HB1.out.arg
  obtain ⟨z0, z1, z2⟩ := HB1.out.arg2
  obtain ⟨r0, r1, r2⟩ := HB1.out.res
  obtain ⟨y0, y1, y2⟩ := HB1.out.room
  go_wp2_with fail
  refine (HW.out _).mono ?_
  rintro e w2 ⟨rfl, hb2⟩
  have HB2 := hid (HB1.out.next hb2)
  clear hb2
  clear x0 x1 x2 z0 z1 z2 r0 r1 r2 y0 y1 y2
  obtain ⟨x0, x1, x2⟩ := HB2.out.arg
  obtain ⟨z0, z1, z2⟩ := HB2.out.arg2
  obtain ⟨r0, r1, r2⟩ := HB2.out.res
  obtain ⟨y0, y1, y2⟩ := HB2.out.room
  go_wp2_with fail
  refine (HU.out _).mono ?_
  rintro e w3 ⟨rfl, hb3⟩
  have HB3 := hid (HB2.out.next hb3)
  clear hb3
  clear x0 x1 x2 z0 z1 z2 r0 r1 r2 y0 y1 y2
  obtain ⟨x0, x1, x2⟩ := HB3.out.arg
  obtain ⟨z0, z1, z2⟩ := HB3.out.arg2
  obtain ⟨r0, r1, r2⟩ := HB3.out.res
  obtain ⟨y0, y1, y2⟩ := HB3.out.room
  go_wp2_with fail
  refine (l13Bool_any true _).mono ?_
  rintro e w4 ⟨rfl, hb4⟩
  have HB4 := hid (HB3.out.next hb4)
  clear hb4
  clear x0 x1 x2 z0 z1 z2 r0 r1 r2 y0 y1 y2
  obtain ⟨x0, x1, x2⟩ := HB4.out.arg
  obtain ⟨z0, z1, z2⟩ := HB4.out.arg2
  obtain ⟨r0, r1, r2⟩ := HB4.out.res
  obtain ⟨y0, y1, y2⟩ := HB4.out.room
  go_wp2
  exact bodyPost_ret (v := ans 1 1 wNone wNone) (by simp [results, Tryd.results6, go_sem, r0, r1, r2]) rfl ⟨rfl, setr (by omega) HB4.out.below _ _ _⟩
set_option maxHeartbeats 4000000 in
theorem specBin_1_11 (s x : ByteArray) (hv : validB 1 1 s = true) (hx : validB 1 1 x = true) (w : World) :
    Calls Tryd.prog 6 #[.int .i64 1, val 1 1 s, val 1 1 x] w fun e w' => e = .returned (ans 1 1 wNone wNone) ∧ Below w.heap.size w w' := by
  have HV : Hid (∀ W, Calls Tryd.prog 11 #[val 1 1 s] W fun e w' => e = .returned (.bool true) ∧ Below W.heap.size W w') := fun W => by
    have := specVV 1 1 s (by decide) (by decide) W
    rwa [hv] at this
  have HW : Hid (∀ W, Calls Tryd.prog 11 #[val 1 1 x] W fun e w' => e = .returned (.bool true) ∧ Below W.heap.size W w') := fun W => by
    have := specVV 1 1 x (by decide) (by decide) W
    rwa [hx] at this
  clear hv hx
  have HU : Hid (∀ W, Calls Tryd.prog 13 #[.int .i64 1, .int .i64 1, .int .i64 1] W fun e w' => e = .returned (.int .i64 1) ∧ Below W.heap.size W w') := fun W => by
    have := l12Bin_any 1 1 1 (by decide) (by decide) (by decide) (by decide) W
    rwa [show binT 1 1 1 = 1 from rfl] at this
  go_enter Tryd.func6, Tryd.ntmps6
  go_wp2_with fail
  refine (HV.out _).mono ?_
  rintro e w1 ⟨rfl, hb1⟩
  have HB1 := hid ((Three.start w 1 1 s 1 1 x).next hb1)
  clear hb1
  obtain ⟨x0, x1, x2⟩ := HB1.out.arg
  obtain ⟨z0, z1, z2⟩ := HB1.out.arg2
  obtain ⟨r0, r1, r2⟩ := HB1.out.res
  obtain ⟨y0, y1, y2⟩ := HB1.out.room
  go_wp2_with fail
  refine (HW.out _).mono ?_
  rintro e w2 ⟨rfl, hb2⟩
  have HB2 := hid (HB1.out.next hb2)
  clear hb2
  clear x0 x1 x2 z0 z1 z2 r0 r1 r2 y0 y1 y2
  obtain ⟨x0, x1, x2⟩ := HB2.out.arg
  obtain ⟨z0, z1, z2⟩ := HB2.out.arg2
  obtain ⟨r0, r1, r2⟩ := HB2.out.res
  obtain ⟨y0, y1, y2⟩ := HB2.out.room
  go_wp2_with fail
  refine (HU.out _).mono ?_
  rintro e w3 ⟨rfl, hb3⟩
  have HB3 := hid (HB2.out.next hb3)
  clear hb3
  clear x0 x1 x2 z0 z1 z2 r0 r1 r2 y0 y1 y2
  obtain ⟨x0, x1, x2⟩ := HB3.out.arg
  obtain ⟨z0, z1, z2⟩ := HB3.out.arg2
  obtain ⟨r0, r1, r2⟩ := HB3.out.res
  obtain ⟨y0, y1, y2⟩ := HB3.out.room
  go_wp2_with fail
  refine (l13Bool_any true _).mono ?_
  rintro e w4 ⟨rfl, hb4⟩
  have HB4 := hid (HB3.out.next hb4)
  clear hb4
  clear x0 x1 x2 z0 z1 z2 r0 r1 r2 y0 y1 y2
  obtain ⟨x0, x1, x2⟩ := HB4.out.arg
  obtain ⟨z0, z1, z2⟩ := HB4.out.arg2
  obtain ⟨r0, r1, r2⟩ := HB4.out.res
  obtain ⟨y0, y1, y2⟩ := HB4.out.room
  go_wp2
  exact bodyPost_ret (v := ans 1 1 wNone wNone) (by simp [results, Tryd.results6, go_sem, r0, r1, r2]) rfl ⟨rfl, setr (by omega) HB4.out.below _ _ _⟩
set_option maxHeartbeats 4000000 in
theorem specBin_2_00 (s x : ByteArray) (hv : validB 1 0 s = true) (hx : validB 1 0 x = true) (w : World) :
    Calls Tryd.prog 6 #[.int .i64 2, val 1 0 s, val 1 0 x] w fun e w' => e = .returned (ans 1 0 wNone wNone) ∧ Below w.heap.size w w' := by
  have HV : Hid (∀ W, Calls Tryd.prog 11 #[val 1 0 s] W fun e w' => e = .returned (.bool true) ∧ Below W.heap.size W w') := fun W => by
    have := specVV 1 0 s (by decide) (by decide) W
    rwa [hv] at this
  have HW : Hid (∀ W, Calls Tryd.prog 11 #[val 1 0 x] W fun e w' => e = .returned (.bool true) ∧ Below W.heap.size W w') := fun W => by
    have := specVV 1 0 x (by decide) (by decide) W
    rwa [hx] at this
  clear hv hx
  have HU : Hid (∀ W, Calls Tryd.prog 13 #[.int .i64 2, .int .i64 1, .int .i64 1] W fun e w' => e = .returned (.int .i64 1) ∧ Below W.heap.size W w') := fun W => by
    have := l12Bin_any 2 1 1 (by decide) (by decide) (by decide) (by decide) W
    rwa [show binT 2 1 1 = 1 from rfl] at this
  go_enter Tryd.func6, Tryd.ntmps6
  go_wp2_with fail
  refine (HV.out _).mono ?_
  rintro e w1 ⟨rfl, hb1⟩
  have HB1 := hid ((Three.start w 1 0 s 1 0 x).next hb1)
  clear hb1
  obtain ⟨x0, x1, x2⟩ := HB1.out.arg
  obtain ⟨z0, z1, z2⟩ := HB1.out.arg2
  obtain ⟨r0, r1, r2⟩ := HB1.out.res
  obtain ⟨y0, y1, y2⟩ := HB1.out.room
  go_wp2_with fail
  refine (HW.out _).mono ?_
  rintro e w2 ⟨rfl, hb2⟩
  have HB2 := hid (HB1.out.next hb2)
  clear hb2
  clear x0 x1 x2 z0 z1 z2 r0 r1 r2 y0 y1 y2
  obtain ⟨x0, x1, x2⟩ := HB2.out.arg
  obtain ⟨z0, z1, z2⟩ := HB2.out.arg2
  obtain ⟨r0, r1, r2⟩ := HB2.out.res
  obtain ⟨y0, y1, y2⟩ := HB2.out.room
  go_wp2_with fail
  refine (HU.out _).mono ?_
  rintro e w3 ⟨rfl, hb3⟩
  have HB3 := hid (HB2.out.next hb3)
  clear hb3
  clear x0 x1 x2 z0 z1 z2 r0 r1 r2 y0 y1 y2
  obtain ⟨x0, x1, x2⟩ := HB3.out.arg
  obtain ⟨z0, z1, z2⟩ := HB3.out.arg2
  obtain ⟨r0, r1, r2⟩ := HB3.out.res
  obtain ⟨y0, y1, y2⟩ := HB3.out.room
  go_wp2_with fail
  refine (l13Bool_any false _).mono ?_
  rintro e w4 ⟨rfl, hb4⟩
  have HB4 := hid (HB3.out.next hb4)
  clear hb4
  clear x0 x1 x2 z0 z1 z2 r0 r1 r2 y0 y1 y2
  obtain ⟨x0, x1, x2⟩ := HB4.out.arg
  obtain ⟨z0, z1, z2⟩ := HB4.out.arg2
  obtain ⟨r0, r1, r2⟩ := HB4.out.res
  obtain ⟨y0, y1, y2⟩ := HB4.out.room
  go_wp2
  exact bodyPost_ret (v := ans 1 0 wNone wNone) (by simp [results, Tryd.results6, go_sem, r0, r1, r2]) rfl ⟨rfl, setr (by omega) HB4.out.below _ _ _⟩
set_option maxHeartbeats 4000000 in
theorem specBin_2_01 (s x : ByteArray) (hv : validB 1 0 s = true) (hx : validB 1 1 x = true) (w : World) :
    Calls Tryd.prog 6 #[.int .i64 2, val 1 0 s, val 1 1 x] w fun e w' => e = .returned (ans 1 0 wNone wNone) ∧ Below w.heap.size w w' := by
  have HV : Hid (∀ W, Calls Tryd.prog 11 #[val 1 0 s] W fun e w' => e = .returned (.bool true) ∧ Below W.heap.size W w') := fun W => by
    have := specVV 1 0 s (by decide) (by decide) W
    rwa [hv] at this
  have HW : Hid (∀ W, Calls Tryd.prog 11 #[val 1 1 x] W fun e w' => e = .returned (.bool true) ∧ Below W.heap.size W w') := fun W => by
    have := specVV 1 1 x (by decide) (by decide) W
    rwa [hx] at this
  clear hv hx
  have HU : Hid (∀ W, Calls Tryd.prog 13 #[.int .i64 2, .int .i64 1, .int .i64 1] W fun e w' => e = .returned (.int .i64 1) ∧ Below W.heap.size W w') := fun W => by
    have := l12Bin_any 2 1 1 (by decide) (by decide) (by decide) (by decide) W
    rwa [show binT 2 1 1 = 1 from rfl] at this
  go_enter Tryd.func6, Tryd.ntmps6
  go_wp2_with fail
  refine (HV.out _).mono ?_
  rintro e w1 ⟨rfl, hb1⟩
  have HB1 := hid ((Three.start w 1 0 s 1 1 x).next hb1)
  clear hb1
  obtain ⟨x0, x1, x2⟩ := HB1.out.arg
  obtain ⟨z0, z1, z2⟩ := HB1.out.arg2
  obtain ⟨r0, r1, r2⟩ := HB1.out.res
  obtain ⟨y0, y1, y2⟩ := HB1.out.room
  go_wp2_with fail
  refine (HW.out _).mono ?_
  rintro e w2 ⟨rfl, hb2⟩
  have HB2 := hid (HB1.out.next hb2)
  clear hb2
  clear x0 x1 x2 z0 z1 z2 r0 r1 r2 y0 y1 y2
  obtain ⟨x0, x1, x2⟩ := HB2.out.arg
  obtain ⟨z0, z1, z2⟩ := HB2.out.arg2
  obtain ⟨r0, r1, r2⟩ := HB2.out.res
  obtain ⟨y0, y1, y2⟩ := HB2.out.room
  go_wp2_with fail
  refine (HU.out _).mono ?_
  rintro e w3 ⟨rfl, hb3⟩
  have HB3 := hid (HB2.out.next hb3)
  clear hb3
  clear x0 x1 x2 z0 z1 z2 r0 r1 r2 y0 y1 y2
  obtain ⟨x0, x1, x2⟩ := HB3.out.arg
  obtain ⟨z0, z1, z2⟩ := HB3.out.arg2
  obtain ⟨r0, r1, r2⟩ := HB3.out.res
  obtain ⟨y0, y1, y2⟩ := HB3.out.room
  go_wp2_with fail
  refine (l13Bool_any false _).mono ?_
  rintro e w4 ⟨rfl, hb4⟩
  have HB4 := hid (HB3.out.next hb4)
  clear hb4
  clear x0 x1 x2 z0 z1 z2 r0 r1 r2 y0 y1 y2
  obtain ⟨x0, x1, x2⟩ := HB4.out.arg
  obtain ⟨z0, z1, z2⟩ := HB4.out.arg2
  obtain ⟨r0, r1, r2⟩ := HB4.out.res
  obtain ⟨y0, y1, y2⟩ := HB4.out.room
  go_wp2
  exact bodyPost_ret (v := ans 1 0 wNone wNone) (by simp [results, Tryd.results6, go_sem, r0, r1, r2]) rfl ⟨rfl, setr (by omega) HB4.out.below _ _ _⟩
set_option maxHeartbeats 4000000 in
theorem specBin_2_10 (s x : ByteArray) (hv : validB 1 1 s = true) (hx : validB 1 0 x = true) (w : World) :
    Calls Tryd.prog 6 #[.int .i64 2, val 1 1 s, val 1 0 x] w fun e w' => e = .returned (ans 1 0 wNone wNone) ∧ Below w.heap.size w w' := by
  have HV : Hid (∀ W, Calls Tryd.prog 11 #[val 1 1 s] W fun e w' => e = .returned (.bool true) ∧ Below W.heap.size W w') := fun W => by
    have := specVV 1 1 s (by decide) (by decide) W
    rwa [hv] at this
  have HW : Hid (∀ W, Calls Tryd.prog 11 #[val 1 0 x] W fun e w' => e = .returned (.bool true) ∧ Below W.heap.size W w') := fun W => by
    have := specVV 1 0 x (by decide) (by decide) W
    rwa [hx] at this
  clear hv hx
  have HU : Hid (∀ W, Calls Tryd.prog 13 #[.int .i64 2, .int .i64 1, .int .i64 1] W fun e w' => e = .returned (.int .i64 1) ∧ Below W.heap.size W w') := fun W => by
    have := l12Bin_any 2 1 1 (by decide) (by decide) (by decide) (by decide) W
    rwa [show binT 2 1 1 = 1 from rfl] at this
  go_enter Tryd.func6, Tryd.ntmps6
  go_wp2_with fail
  refine (HV.out _).mono ?_
  rintro e w1 ⟨rfl, hb1⟩
  have HB1 := hid ((Three.start w 1 1 s 1 0 x).next hb1)
  clear hb1
  obtain ⟨x0, x1, x2⟩ := HB1.out.arg
  obtain ⟨z0, z1, z2⟩ := HB1.out.arg2
  obtain ⟨r0, r1, r2⟩ := HB1.out.res
  obtain ⟨y0, y1, y2⟩ := HB1.out.room
  go_wp2_with fail
  refine (HW.out _).mono ?_
  rintro e w2 ⟨rfl, hb2⟩
  have HB2 := hid (HB1.out.next hb2)
  clear hb2
  clear x0 x1 x2 z0 z1 z2 r0 r1 r2 y0 y1 y2
  obtain ⟨x0, x1, x2⟩ := HB2.out.arg
  obtain ⟨z0, z1, z2⟩ := HB2.out.arg2
  obtain ⟨r0, r1, r2⟩ := HB2.out.res
  obtain ⟨y0, y1, y2⟩ := HB2.out.room
  go_wp2_with fail
  refine (HU.out _).mono ?_
  rintro e w3 ⟨rfl, hb3⟩
  have HB3 := hid (HB2.out.next hb3)
  clear hb3
  clear x0 x1 x2 z0 z1 z2 r0 r1 r2 y0 y1 y2
  obtain ⟨x0, x1, x2⟩ := HB3.out.arg
  obtain ⟨z0, z1, z2⟩ := HB3.out.arg2
  obtain ⟨r0, r1, r2⟩ := HB3.out.res
  obtain ⟨y0, y1, y2⟩ := HB3.out.room
  go_wp2_with fail
  refine (l13Bool_any false _).mono ?_
  rintro e w4 ⟨rfl, hb4⟩
  have HB4 := hid (HB3.out.next hb4)
  clear hb4
  clear x0 x1 x2 z0 z1 z2 r0 r1 r2 y0 y1 y2
  obtain ⟨x0, x1, x2⟩ := HB4.out.arg
  obtain ⟨z0, z1, z2⟩ := HB4.out.arg2
  obtain ⟨r0, r1, r2⟩ := HB4.out.res
  obtain ⟨y0, y1, y2⟩ := HB4.out.room
  go_wp2
  exact bodyPost_ret (v := ans 1 0 wNone wNone) (by simp [results, Tryd.results6, go_sem, r0, r1, r2]) rfl ⟨rfl, setr (by omega) HB4.out.below _ _ _⟩
set_option maxHeartbeats 4000000 in
theorem specBin_2_11 (s x : ByteArray) (hv : validB 1 1 s = true) (hx : validB 1 1 x = true) (w : World) :
    Calls Tryd.prog 6 #[.int .i64 2, val 1 1 s, val 1 1 x] w fun e w' => e = .returned (ans 1 1 wNone wNone) ∧ Below w.heap.size w w' := by
  have HV : Hid (∀ W, Calls Tryd.prog 11 #[val 1 1 s] W fun e w' => e = .returned (.bool true) ∧ Below W.heap.size W w') := fun W => by
    have := specVV 1 1 s (by decide) (by decide) W
    rwa [hv] at this
  have HW : Hid (∀ W, Calls Tryd.prog 11 #[val 1 1 x] W fun e w' => e = .returned (.bool true) ∧ Below W.heap.size W w') := fun W => by
    have := specVV 1 1 x (by decide) (by decide) W
    rwa [hx] at this
  clear hv hx
  have HU : Hid (∀ W, Calls Tryd.prog 13 #[.int .i64 2, .int .i64 1, .int .i64 1] W fun e w' => e = .returned (.int .i64 1) ∧ Below W.heap.size W w') := fun W => by
    have := l12Bin_any 2 1 1 (by decide) (by decide) (by decide) (by decide) W
    rwa [show binT 2 1 1 = 1 from rfl] at this
  go_enter Tryd.func6, Tryd.ntmps6
  go_wp2_with fail
  refine (HV.out _).mono ?_
  rintro e w1 ⟨rfl, hb1⟩
  have HB1 := hid ((Three.start w 1 1 s 1 1 x).next hb1)
  clear hb1
  obtain ⟨x0, x1, x2⟩ := HB1.out.arg
  obtain ⟨z0, z1, z2⟩ := HB1.out.arg2
  obtain ⟨r0, r1, r2⟩ := HB1.out.res
  obtain ⟨y0, y1, y2⟩ := HB1.out.room
  go_wp2_with fail
  refine (HW.out _).mono ?_
  rintro e w2 ⟨rfl, hb2⟩
  have HB2 := hid (HB1.out.next hb2)
  clear hb2
  clear x0 x1 x2 z0 z1 z2 r0 r1 r2 y0 y1 y2
  obtain ⟨x0, x1, x2⟩ := HB2.out.arg
  obtain ⟨z0, z1, z2⟩ := HB2.out.arg2
  obtain ⟨r0, r1, r2⟩ := HB2.out.res
  obtain ⟨y0, y1, y2⟩ := HB2.out.room
  go_wp2_with fail
  refine (HU.out _).mono ?_
  rintro e w3 ⟨rfl, hb3⟩
  have HB3 := hid (HB2.out.next hb3)
  clear hb3
  clear x0 x1 x2 z0 z1 z2 r0 r1 r2 y0 y1 y2
  obtain ⟨x0, x1, x2⟩ := HB3.out.arg
  obtain ⟨z0, z1, z2⟩ := HB3.out.arg2
  obtain ⟨r0, r1, r2⟩ := HB3.out.res
  obtain ⟨y0, y1, y2⟩ := HB3.out.room
  go_wp2_with fail
  refine (l13Bool_any true _).mono ?_
  rintro e w4 ⟨rfl, hb4⟩
  have HB4 := hid (HB3.out.next hb4)
  clear hb4
  clear x0 x1 x2 z0 z1 z2 r0 r1 r2 y0 y1 y2
  obtain ⟨x0, x1, x2⟩ := HB4.out.arg
  obtain ⟨z0, z1, z2⟩ := HB4.out.arg2
  obtain ⟨r0, r1, r2⟩ := HB4.out.res
  obtain ⟨y0, y1, y2⟩ := HB4.out.room
  go_wp2
  exact bodyPost_ret (v := ans 1 1 wNone wNone) (by simp [results, Tryd.results6, go_sem, r0, r1, r2]) rfl ⟨rfl, setr (by omega) HB4.out.below _ _ _⟩
set_option maxHeartbeats 4000000 in
theorem specBin_long (s x : ByteArray) (hv : validB 2 0 s = true) (hx : validB 2 0 x = true) (hl : 3000 < s.size + x.size) (hs : s.size ≤ 3000) (hy : x.size ≤ 3000) (w : World) :
    Calls Tryd.prog 6 #[.int .i64 9, val 2 0 s, val 2 0 x] w fun e w' => e = .returned (ans 0 0 wNone wLong) ∧ Below w.heap.size w w' := by
  have HV : Hid (∀ W, Calls Tryd.prog 11 #[val 2 0 s] W fun e w' => e = .returned (.bool true) ∧ Below W.heap.size W w') := fun W => by
    have := specVV 2 0 s (by decide) (by decide) W
    rwa [hv] at this
  have HW : Hid (∀ W, Calls Tryd.prog 11 #[val 2 0 x] W fun e w' => e = .returned (.bool true) ∧ Below W.heap.size W w') := fun W => by
    have := specVV 2 0 x (by decide) (by decide) W
    rwa [hx] at this
  clear hv hx
  have HU : Hid (∀ W, Calls Tryd.prog 13 #[.int .i64 9, .int .i64 2, .int .i64 2] W fun e w' => e = .returned (.int .i64 2) ∧ Below W.heap.size W w') := fun W => by
    have := l12Bin_any 9 2 2 (by decide) (by decide) (by decide) (by decide) W
    rwa [show binT 9 2 2 = 2 from rfl] at this
  go_enter Tryd.func6, Tryd.ntmps6
  go_wp2_with fail
  refine (HV.out _).mono ?_
  rintro e w1 ⟨rfl, hb1⟩
  have HB1 := hid ((Three.start w 2 0 s 2 0 x).next hb1)
  clear hb1
  obtain ⟨x0, x1, x2⟩ := HB1.out.arg
  obtain ⟨z0, z1, z2⟩ := HB1.out.arg2
  obtain ⟨r0, r1, r2⟩ := HB1.out.res
  obtain ⟨y0, y1, y2⟩ := HB1.out.room
  go_wp2_with fail
  refine (HW.out _).mono ?_
  rintro e w2 ⟨rfl, hb2⟩
  have HB2 := hid (HB1.out.next hb2)
  clear hb2
  clear x0 x1 x2 z0 z1 z2 r0 r1 r2 y0 y1 y2
  obtain ⟨x0, x1, x2⟩ := HB2.out.arg
  obtain ⟨z0, z1, z2⟩ := HB2.out.arg2
  obtain ⟨r0, r1, r2⟩ := HB2.out.res
  obtain ⟨y0, y1, y2⟩ := HB2.out.room
  go_wp2_with fail
  refine (HU.out _).mono ?_
  rintro e w3 ⟨rfl, hb3⟩
  have HB3 := hid (HB2.out.next hb3)
  clear hb3
  clear x0 x1 x2 z0 z1 z2 r0 r1 r2 y0 y1 y2
  obtain ⟨x0, x1, x2⟩ := HB3.out.arg
  obtain ⟨z0, z1, z2⟩ := HB3.out.arg2
  obtain ⟨r0, r1, r2⟩ := HB3.out.res
  obtain ⟨y0, y1, y2⟩ := HB3.out.room
  go_wp2
  exact bodyPost_ret (v := ans 0 0 wNone wLong) (by simp [results, Tryd.results6, go_sem, r0, r1, r2, wLong]) rfl ⟨rfl, setr (by omega) HB3.out.below _ _ _⟩
set_option maxHeartbeats 4000000 in
theorem specBin_join (s x : ByteArray) (hv : validB 2 0 s = true) (hx : validB 2 0 x = true) (hl : s.size + x.size ≤ 3000) (w : World) :
    Calls Tryd.prog 6 #[.int .i64 9, val 2 0 s, val 2 0 x] w fun e w' => e = .returned (ans 2 0 (s ++ x) wNone) ∧ Below w.heap.size w w' := by
  have HV : Hid (∀ W, Calls Tryd.prog 11 #[val 2 0 s] W fun e w' => e = .returned (.bool true) ∧ Below W.heap.size W w') := fun W => by
    have := specVV 2 0 s (by decide) (by decide) W
    rwa [hv] at this
  have HW : Hid (∀ W, Calls Tryd.prog 11 #[val 2 0 x] W fun e w' => e = .returned (.bool true) ∧ Below W.heap.size W w') := fun W => by
    have := specVV 2 0 x (by decide) (by decide) W
    rwa [hx] at this
  clear hv hx
  have HU : Hid (∀ W, Calls Tryd.prog 13 #[.int .i64 9, .int .i64 2, .int .i64 2] W fun e w' => e = .returned (.int .i64 2) ∧ Below W.heap.size W w') := fun W => by
    have := l12Bin_any 9 2 2 (by decide) (by decide) (by decide) (by decide) W
    rwa [show binT 9 2 2 = 2 from rfl] at this
  have HT := hid (l13Text_any (s ++ x))
  go_enter Tryd.func6, Tryd.ntmps6
  go_wp2_with fail
  refine (HV.out _).mono ?_
  rintro e w1 ⟨rfl, hb1⟩
  have HB1 := hid ((Three.start w 2 0 s 2 0 x).next hb1)
  clear hb1
  obtain ⟨x0, x1, x2⟩ := HB1.out.arg
  obtain ⟨z0, z1, z2⟩ := HB1.out.arg2
  obtain ⟨r0, r1, r2⟩ := HB1.out.res
  obtain ⟨y0, y1, y2⟩ := HB1.out.room
  go_wp2_with fail
  refine (HW.out _).mono ?_
  rintro e w2 ⟨rfl, hb2⟩
  have HB2 := hid (HB1.out.next hb2)
  clear hb2
  clear x0 x1 x2 z0 z1 z2 r0 r1 r2 y0 y1 y2
  obtain ⟨x0, x1, x2⟩ := HB2.out.arg
  obtain ⟨z0, z1, z2⟩ := HB2.out.arg2
  obtain ⟨r0, r1, r2⟩ := HB2.out.res
  obtain ⟨y0, y1, y2⟩ := HB2.out.room
  go_wp2_with fail
  refine (HU.out _).mono ?_
  rintro e w3 ⟨rfl, hb3⟩
  have HB3 := hid (HB2.out.next hb3)
  clear hb3
  clear x0 x1 x2 z0 z1 z2 r0 r1 r2 y0 y1 y2
  obtain ⟨x0, x1, x2⟩ := HB3.out.arg
  obtain ⟨z0, z1, z2⟩ := HB3.out.arg2
  obtain ⟨r0, r1, r2⟩ := HB3.out.res
  obtain ⟨y0, y1, y2⟩ := HB3.out.room
  go_wp2_with fail
  refine (HT.out _).mono ?_
  rintro e w4 ⟨rfl, hb4⟩
  have HB4 := hid (HB3.out.next hb4)
  clear hb4
  clear x0 x1 x2 z0 z1 z2 r0 r1 r2 y0 y1 y2
  obtain ⟨x0, x1, x2⟩ := HB4.out.arg
  obtain ⟨z0, z1, z2⟩ := HB4.out.arg2
  obtain ⟨r0, r1, r2⟩ := HB4.out.res
  obtain ⟨y0, y1, y2⟩ := HB4.out.room
  go_wp2
  exact bodyPost_ret (v := ans 2 0 (s ++ x) wNone) (by simp [results, Tryd.results6, go_sem, r0, r1, r2]) rfl ⟨rfl, setr (by omega) HB4.out.below _ _ _⟩
end Go.Proofs.YtmmgpbjmegfffaaDoor.V
