import Derived.Test.YtabefhpgeaihgaaDoorVBltQ
import Derived.Test.YtabefhpgeaihgaaDoorVNumI
import Derived.Shelf.Strconv.Clone
import Derived.Deep.DeepCutAuto
/-! What built words do: the program's. Printed by gen_vblti.py. -/
namespace Go.Proofs.YtabefhpgeaihgaaDoor.V
open Go.RowKit Go.Shelf
set_option maxRecDepth 20000
def cl_ren : Go.Shelf.Ren := ⟨fun | 316 => 46 | n => n, fun | 5 => 5 | 9 => 9 | 3 => 3 | 4 => 4 | 37 => 41 | 127 => 87 | n => n, fun n => n⟩
theorem laysCl : Go.Proofs.LaysM.n316 Tryd.prog cl_ren where
  mixed := by kernel_rfl
  f316 := Tryd.func46.trans (congrArg some (by kernel_rfl))
  t0 := Tryd.underlying0
  a0 := Tryd.isAgg0
  z0 := Tryd.sizeOf0
  v0 := Tryd.zeroValue0
  t3 := Tryd.underlying3
  a3 := Tryd.isAgg3
  z3 := Tryd.sizeOf3
  v3 := Tryd.zeroValue3
  t4 := Tryd.underlying4
  a4 := Tryd.isAgg4
  z4 := Tryd.sizeOf4
  v4 := Tryd.zeroValue4
  t9 := Tryd.underlying9
  a9 := Tryd.isAgg9
  z9 := Tryd.sizeOf9
  v9 := Tryd.zeroValue9
  t37 := Tryd.underlying41
  a37 := Tryd.isAgg41
  z37 := Tryd.sizeOf41
  v37 := Tryd.zeroValue41
  t127 := Tryd.underlying87
  a127 := Tryd.isAgg87
  z127 := Tryd.sizeOf87
  v127 := Tryd.zeroValue87
  t5 := Tryd.underlying5
  a5 := Tryd.isAgg5
  z5 := Tryd.sizeOf5
  v5 := Tryd.zeroValue5
  i0 := by kernel_rfl
  i3 := by kernel_rfl
  i4 := by kernel_rfl
  i9 := by kernel_rfl
  i37 := by kernel_rfl
  i127 := by kernel_rfl
  i5 := by kernel_rfl
theorem vclone_any (s : ByteArray) (w : World) (hs : s.size ≤ 1048576) :
    Calls Tryd.prog 38 #[.string s] w fun e w' => e = .returned (.string s) ∧ Below w.heap.size w w' := by
  have HC : Hid (∀ W, Calls Tryd.prog 46 #[.string s] W fun e w' => e = .returned (.string s) ∧ Below W.heap.size W w') := fun W => Any.stringslite_Clone laysCl s W (by omega)
  go_enter Tryd.func38, Tryd.ntmps38
  go_wp2_with fail
  refine (HC.out _).mono ?_
  rintro e w1 ⟨rfl, hb⟩
  have HB := hid hb
  clear hb
  go_wp2
  go_ret
  exact ⟨rfl, HB.out⟩
set_option maxHeartbeats 1000000 in
theorem iText_any (s : ByteArray) (w : World) :
    Calls Tryd.prog 31 #[.string s] w fun e w' => e = .returned (val 2 0 s) ∧ Below w.heap.size w w' := by
  go_enter Tryd.func31, Tryd.ntmps31
  go_wp2
  exact bodyPost_ret (v := val 2 0 s) (by simp [results, Tryd.results31, go_sem]) rfl ⟨rfl, alloc_below _ _⟩
set_option maxHeartbeats 1000000 in
theorem iSize_any (n : Int) (w : World) :
    Calls Tryd.prog 29 #[.int .i64 n] w fun e w' => e = .returned (val 10 n wNone) ∧ Below w.heap.size w w' := by
  go_enter Tryd.func29, Tryd.ntmps29
  go_wp2
  exact bodyPost_ret (v := val 10 n wNone) (by simp [results, Tryd.results29, go_sem]) rfl ⟨rfl, alloc_below _ _⟩
set_option maxHeartbeats 2000000 in
theorem millAt_ok (s : ByteArray) (i : Nat) (hi : i < s.size) (_hs : s.size ≤ 3000) (w : World) :
    Calls Tryd.prog 27 #[.string s, .int .i64 i] w fun e w' => e = .returned (.tuple #[val 3 (s[i].toNat : Int) wNone, .nilIface]) ∧ Below w.heap.size w w' := by
  have k1 : ¬ ((i : Int) < 0) := by omega
  have k2 : ¬ ((s.size : Int) ≤ i) := by omega
  have hw64 : wrap64 (s[i].toNat : Int) = s[i].toNat := by have := s[i].toNat_lt; unfold wrap64; omega
  go_enter Tryd.func27, Tryd.ntmps27
  go_wp2
  exact bodyPost_ret (v := .tuple #[val 3 (s[i].toNat : Int) wNone, .nilIface]) (by simp [results, Tryd.results27, go_sem]) rfl ⟨rfl, alloc_below _ _⟩
set_option maxHeartbeats 2000000 in
theorem millAt_no (s : ByteArray) (n : Int) (h : ¬ (0 ≤ n ∧ n < s.size)) (_hs : s.size ≤ 3000) (p : Addr) (y : ByteArray) (w : World) (he : ErrAt w 1 p y) :
    Calls Tryd.prog 27 #[.string s, .int .i64 n] w fun e w' => e = .returned (.tuple #[val 0 0 wNone, errV p]) ∧ Below w.heap.size w w' := by
  have HE := hid he
  clear he
  by_cases k1 : n < 0
  · clear h
    have HB0 := hid (alloc_below w (vbox 0 0 wNone))
    have HG0 := hid (heap_new w (vbox 0 0 wNone))
    go_enter Tryd.func27, Tryd.ntmps27
    go_upto_region 2 with fail
    obtain ⟨W, hW⟩ : ∃ W, w.alloc (vbox 0 0 wNone) = W := ⟨_, rfl⟩
    rw [hW] at HB0 HG0 ⊢
    clear hW
    obtain ⟨r0, r1, r2, f0, f1, f2⟩ := six HG0.out
    have g0 := (HE.out.next HB0.out).glob
    have hlg := HE.out.lg
    have d1 : ¬ w.heap.size = 1 := by omega
    have d2 : ¬ 1 = w.heap.size := by omega
    go_region
    go_wp2
    exact bodyPost_ret (v := .tuple #[val 0 0 wNone, errV p]) (by simp [results, Tryd.results27, go_sem, r0, r1, r2]) rfl ⟨rfl, (setr (Nat.le_refl _) HB0.out _ _ _).drew⟩
  · have k2 : (s.size : Int) ≤ n := by omega
    clear h
    have HB0 := hid (alloc_below w (vbox 0 0 wNone))
    have HG0 := hid (heap_new w (vbox 0 0 wNone))
    go_enter Tryd.func27, Tryd.ntmps27
    go_upto_region 2 with fail
    obtain ⟨W, hW⟩ : ∃ W, w.alloc (vbox 0 0 wNone) = W := ⟨_, rfl⟩
    rw [hW] at HB0 HG0 ⊢
    clear hW
    obtain ⟨r0, r1, r2, f0, f1, f2⟩ := six HG0.out
    have g0 := (HE.out.next HB0.out).glob
    have hlg := HE.out.lg
    have d1 : ¬ w.heap.size = 1 := by omega
    have d2 : ¬ 1 = w.heap.size := by omega
    go_region
    go_wp2
    exact bodyPost_ret (v := .tuple #[val 0 0 wNone, errV p]) (by simp [results, Tryd.results27, go_sem, r0, r1, r2]) rfl ⟨rfl, (setr (Nat.le_refl _) HB0.out _ _ _).drew⟩
set_option maxHeartbeats 2000000 in
theorem millCut_ok (s : ByteArray) (i j : Nat) (h1 : i ≤ j) (h2 : j ≤ s.size) (hs : s.size ≤ 3000) (w : World) :
    Calls Tryd.prog 28 #[.string s, .int .i64 i, .int .i64 j] w fun e w' => e = .returned (.tuple #[val 2 0 (s.extract i j), .nilIface]) ∧ Below w.heap.size w w' := by
  have HC := hid (fun W => vclone_any (s.extract i j) W (by have : (s.extract i j).size ≤ s.size := by rw [ByteArray.size_extract]; omega
                                                            omega))
  have HT := hid (iText_any (s.extract i j))
  have HG := hid (heap_new w (vbox 0 0 wNone))
  have k1 : ¬ ((i : Int) < 0) := by omega
  have k2 : ¬ ((j : Int) < i) := by omega
  have k3 : ¬ ((s.size : Int) < j) := by omega
  go_enter Tryd.func28, Tryd.ntmps28
  go_wp2_with fail
  refine (HC.out _).mono ?_
  rintro e w1 ⟨rfl, hb1⟩
  have HB1 := hid ((alloc_below w (vbox 0 0 wNone)).trans (hb1.mono (by simp)))
  have HG1 := hid (keep_box HG.out hb1)
  clear hb1
  go_wp2_with fail
  refine (HT.out _).mono ?_
  rintro e w2 ⟨rfl, hb2⟩
  have HB2 := hid (go2 HB1.out hb2)
  obtain ⟨r0, r1, r2, f0, f1, f2⟩ := six (keep_box HG1.out hb2)
  clear hb2
  go_wp2
  exact bodyPost_ret (v := .tuple #[val 2 0 (s.extract i j), .nilIface]) (by simp [results, Tryd.results28, go_sem, r0, r1, r2]) rfl ⟨rfl, setr (Nat.le_refl _) HB2.out _ _ _⟩
set_option maxHeartbeats 4000000 in
theorem millCut_no (s : ByteArray) (i j : Int) (h : ¬ (0 ≤ i ∧ i ≤ j ∧ j ≤ s.size)) (_hs : s.size ≤ 3000) (p : Addr) (y : ByteArray) (w : World) (he : ErrAt w 1 p y) :
    Calls Tryd.prog 28 #[.string s, .int .i64 i, .int .i64 j] w fun e w' => e = .returned (.tuple #[val 0 0 wNone, errV p]) ∧ Below w.heap.size w w' := by
  have HE := hid he
  clear he
  by_cases k1 : i < 0
  · clear h
    have HB0 := hid (alloc_below w (vbox 0 0 wNone))
    have HG0 := hid (heap_new w (vbox 0 0 wNone))
    go_enter Tryd.func28, Tryd.ntmps28
    go_upto_region 2 with fail
    obtain ⟨W, hW⟩ : ∃ W, w.alloc (vbox 0 0 wNone) = W := ⟨_, rfl⟩
    rw [hW] at HB0 HG0 ⊢
    clear hW
    obtain ⟨r0, r1, r2, f0, f1, f2⟩ := six HG0.out
    have g0 := (HE.out.next HB0.out).glob
    have hlg := HE.out.lg
    have d1 : ¬ w.heap.size = 1 := by omega
    have d2 : ¬ 1 = w.heap.size := by omega
    go_region
    go_wp2
    exact bodyPost_ret (v := .tuple #[val 0 0 wNone, errV p]) (by simp [results, Tryd.results28, go_sem, r0, r1, r2]) rfl ⟨rfl, (setr (Nat.le_refl _) HB0.out _ _ _).drew⟩
  by_cases k2 : j < i
  · clear h
    have HB0 := hid (alloc_below w (vbox 0 0 wNone))
    have HG0 := hid (heap_new w (vbox 0 0 wNone))
    go_enter Tryd.func28, Tryd.ntmps28
    go_upto_region 2 with fail
    obtain ⟨W, hW⟩ : ∃ W, w.alloc (vbox 0 0 wNone) = W := ⟨_, rfl⟩
    rw [hW] at HB0 HG0 ⊢
    clear hW
    obtain ⟨r0, r1, r2, f0, f1, f2⟩ := six HG0.out
    have g0 := (HE.out.next HB0.out).glob
    have hlg := HE.out.lg
    have d1 : ¬ w.heap.size = 1 := by omega
    have d2 : ¬ 1 = w.heap.size := by omega
    go_region
    go_wp2
    exact bodyPost_ret (v := .tuple #[val 0 0 wNone, errV p]) (by simp [results, Tryd.results28, go_sem, r0, r1, r2]) rfl ⟨rfl, (setr (Nat.le_refl _) HB0.out _ _ _).drew⟩
  · have k3 : (s.size : Int) < j := by omega
    clear h
    have HB0 := hid (alloc_below w (vbox 0 0 wNone))
    have HG0 := hid (heap_new w (vbox 0 0 wNone))
    go_enter Tryd.func28, Tryd.ntmps28
    go_upto_region 2 with fail
    obtain ⟨W, hW⟩ : ∃ W, w.alloc (vbox 0 0 wNone) = W := ⟨_, rfl⟩
    rw [hW] at HB0 HG0 ⊢
    clear hW
    obtain ⟨r0, r1, r2, f0, f1, f2⟩ := six HG0.out
    have g0 := (HE.out.next HB0.out).glob
    have hlg := HE.out.lg
    have d1 : ¬ w.heap.size = 1 := by omega
    have d2 : ¬ 1 = w.heap.size := by omega
    go_region
    go_wp2
    exact bodyPost_ret (v := .tuple #[val 0 0 wNone, errV p]) (by simp [results, Tryd.results28, go_sem, r0, r1, r2]) rfl ⟨rfl, (setr (Nat.le_refl _) HB0.out _ _ _).drew⟩
end Go.Proofs.YtabefhpgeaihgaaDoor.V
