import Derived.Shelf.Strconv.Clone
import Derived.Deep.DeepCutAuto
import Derived.Test.YtabefhpgeaihgaaGreatDoorJ41
import Derived.Test.YtabefhpgeaihgaaGreatDoorJ37
/-! What built words do: the program's. Printed by gen_vblti.py. -/
namespace Go.Proofs.YtabefhpgeaihgaaGreatDoor.V
open Go.RowKit Go.Shelf
set_option maxRecDepth 20000
def cl_ren : Go.Shelf.Ren := ⟨fun | 316 => 91 | n => n, fun | 5 => 5 | 9 => 9 | 3 => 3 | 4 => 4 | 37 => 22 | 127 => 124 | n => n, fun n => n⟩
theorem laysCl : Go.Proofs.LaysM.n316 Tryz.prog cl_ren where
  mixed := by kernel_rfl
  f316 := Tryz.func91.trans (congrArg some (by kernel_rfl))
  t0 := Tryz.underlying0
  a0 := Tryz.isAgg0
  z0 := Tryz.sizeOf0
  v0 := Tryz.zeroValue0
  t3 := Tryz.underlying3
  a3 := Tryz.isAgg3
  z3 := Tryz.sizeOf3
  v3 := Tryz.zeroValue3
  t4 := Tryz.underlying4
  a4 := Tryz.isAgg4
  z4 := Tryz.sizeOf4
  v4 := Tryz.zeroValue4
  t9 := Tryz.underlying9
  a9 := Tryz.isAgg9
  z9 := Tryz.sizeOf9
  v9 := Tryz.zeroValue9
  t37 := Tryz.underlying22
  a37 := Tryz.isAgg22
  z37 := Tryz.sizeOf22
  v37 := Tryz.zeroValue22
  t127 := Tryz.underlying124
  a127 := Tryz.isAgg124
  z127 := Tryz.sizeOf124
  v127 := Tryz.zeroValue124
  t5 := Tryz.underlying5
  a5 := Tryz.isAgg5
  z5 := Tryz.sizeOf5
  v5 := Tryz.zeroValue5
  i0 := by kernel_rfl
  i3 := by kernel_rfl
  i4 := by kernel_rfl
  i9 := by kernel_rfl
  i37 := by kernel_rfl
  i127 := by kernel_rfl
  i5 := by kernel_rfl
theorem vclone_any (s : ByteArray) (w : World) (hs : s.size ≤ 1048576) :
    Calls Tryz.prog 66 #[.string s] w fun e w' => e = .returned (.string s) ∧ Below w.heap.size w w' := by
  have HC : Hid (∀ W, Calls Tryz.prog 91 #[.string s] W fun e w' => e = .returned (.string s) ∧ Below W.heap.size W w') := fun W => Any.stringslite_Clone laysCl s W (by omega)
  go_enter Tryz.func66, Tryz.ntmps66
  go_wp2_with fail
  refine (HC.out _).mono ?_
  rintro e w1 ⟨rfl, hb⟩
  have HB := hid hb
  clear hb
  go_wp2
  go_ret
  exact ⟨rfl, HB.out⟩
set_option maxHeartbeats 1000000 in
theorem iText_any (s : ByteArray) (w : World) :
    Calls Tryz.prog 46 #[.string s] w fun e w' => e = .returned (val 2 0 s) ∧ Below w.heap.size w w' := by
  go_enter Tryz.func46, Tryz.ntmps46
  go_wp2
  exact bodyPost_ret (v := val 2 0 s) (by simp [results, Tryz.results46, go_sem]) rfl ⟨rfl, alloc_below _ _⟩
set_option maxHeartbeats 1000000 in
theorem iSize_any (n : Int) (w : World) :
    Calls Tryz.prog 44 #[.int .i64 n] w fun e w' => e = .returned (val 10 n wNone) ∧ Below w.heap.size w w' := by
  go_enter Tryz.func44, Tryz.ntmps44
  go_wp2
  exact bodyPost_ret (v := val 10 n wNone) (by simp [results, Tryz.results44, go_sem]) rfl ⟨rfl, alloc_below _ _⟩
set_option maxHeartbeats 2000000 in
theorem millAt_ok (s : ByteArray) (i : Nat) (hi : i < s.size) (_hs : s.size ≤ 3000) (w : World) :
    Calls Tryz.prog 42 #[.string s, .int .i64 i] w fun e w' => e = .returned (.tuple #[val 3 (s[i].toNat : Int) wNone, .nilIface]) ∧ Below w.heap.size w w' := by
  have k1 : ¬ ((i : Int) < 0) := by omega
  have k2 : ¬ ((s.size : Int) ≤ i) := by omega
  have hw64 : wrap64 (s[i].toNat : Int) = s[i].toNat := by have := s[i].toNat_lt; unfold wrap64; omega
  go_enter Tryz.func42, Tryz.ntmps42
  go_wp2
  exact bodyPost_ret (v := .tuple #[val 3 (s[i].toNat : Int) wNone, .nilIface]) (by simp [results, Tryz.results42, go_sem]) rfl ⟨rfl, alloc_below _ _⟩
set_option maxHeartbeats 2000000 in
theorem millAt_no (s : ByteArray) (n : Int) (h : ¬ (0 ≤ n ∧ n < s.size)) (_hs : s.size ≤ 3000) (p : Addr) (y : ByteArray) (w : World) (he : ErrAt w 2 p y) :
    Calls Tryz.prog 42 #[.string s, .int .i64 n] w fun e w' => e = .returned (.tuple #[val 0 0 wNone, errV p]) ∧ Below w.heap.size w w' := by
  have HE := hid he
  clear he
  by_cases k1 : n < 0
  · clear h
    have HB0 := hid (alloc_below w (vbox 0 0 wNone))
    have HG0 := hid (heap_new w (vbox 0 0 wNone))
    go_enter Tryz.func42, Tryz.ntmps42
    go_upto_region 2 with fail
    obtain ⟨W, hW⟩ : ∃ W, w.alloc (vbox 0 0 wNone) = W := ⟨_, rfl⟩
    rw [hW] at HB0 HG0 ⊢
    clear hW
    obtain ⟨r0, r1, r2, f0, f1, f2⟩ := six HG0.out
    have g0 := (HE.out.next HB0.out).glob
    have hlg := HE.out.lg
    have d1 : ¬ w.heap.size = 2 := by omega
    have d2 : ¬ 2 = w.heap.size := by omega
    go_region
    go_wp2
    exact bodyPost_ret (v := .tuple #[val 0 0 wNone, errV p]) (by simp [results, Tryz.results42, go_sem, r0, r1, r2]) rfl ⟨rfl, (setr (Nat.le_refl _) HB0.out _ _ _).drew⟩
  · have k2 : (s.size : Int) ≤ n := by omega
    clear h
    have HB0 := hid (alloc_below w (vbox 0 0 wNone))
    have HG0 := hid (heap_new w (vbox 0 0 wNone))
    go_enter Tryz.func42, Tryz.ntmps42
    go_upto_region 2 with fail
    obtain ⟨W, hW⟩ : ∃ W, w.alloc (vbox 0 0 wNone) = W := ⟨_, rfl⟩
    rw [hW] at HB0 HG0 ⊢
    clear hW
    obtain ⟨r0, r1, r2, f0, f1, f2⟩ := six HG0.out
    have g0 := (HE.out.next HB0.out).glob
    have hlg := HE.out.lg
    have d1 : ¬ w.heap.size = 2 := by omega
    have d2 : ¬ 2 = w.heap.size := by omega
    go_region
    go_wp2
    exact bodyPost_ret (v := .tuple #[val 0 0 wNone, errV p]) (by simp [results, Tryz.results42, go_sem, r0, r1, r2]) rfl ⟨rfl, (setr (Nat.le_refl _) HB0.out _ _ _).drew⟩
set_option maxHeartbeats 2000000 in
theorem millCut_ok (s : ByteArray) (i j : Nat) (h1 : i ≤ j) (h2 : j ≤ s.size) (hs : s.size ≤ 3000) (w : World) :
    Calls Tryz.prog 43 #[.string s, .int .i64 i, .int .i64 j] w fun e w' => e = .returned (.tuple #[val 2 0 (s.extract i j), .nilIface]) ∧ Below w.heap.size w w' := by
  have HC := hid (fun W => vclone_any (s.extract i j) W (by have : (s.extract i j).size ≤ s.size := by rw [ByteArray.size_extract]; omega
                                                            omega))
  have HT := hid (iText_any (s.extract i j))
  have HG := hid (heap_new w (vbox 0 0 wNone))
  have k1 : ¬ ((i : Int) < 0) := by omega
  have k2 : ¬ ((j : Int) < i) := by omega
  have k3 : ¬ ((s.size : Int) < j) := by omega
  go_enter Tryz.func43, Tryz.ntmps43
  go_wp2_with fail
  refine (HC.out _).mono ?_
  rintro e w1 ⟨rfl, hb1⟩
  have HB1 := hid ((alloc_below w (vbox 0 0 wNone)).trans (hb1.mono (by simp)))
  have HG1 := hid (keep_box HG.out hb1)
  clear hb1
  go_wp2_with fail
  refine (HT.out _).mono ?_
  rintro e w2 ⟨rfl, hb2⟩
  have HB2 := hid (go2 HB1.out hb2)
  obtain ⟨r0, r1, r2, f0, f1, f2⟩ := six (keep_box HG1.out hb2)
  clear hb2
  go_wp2
  exact bodyPost_ret (v := .tuple #[val 2 0 (s.extract i j), .nilIface]) (by simp [results, Tryz.results43, go_sem, r0, r1, r2]) rfl ⟨rfl, setr (Nat.le_refl _) HB2.out _ _ _⟩
set_option maxHeartbeats 4000000 in
theorem millCut_no (s : ByteArray) (i j : Int) (h : ¬ (0 ≤ i ∧ i ≤ j ∧ j ≤ s.size)) (_hs : s.size ≤ 3000) (p : Addr) (y : ByteArray) (w : World) (he : ErrAt w 2 p y) :
    Calls Tryz.prog 43 #[.string s, .int .i64 i, .int .i64 j] w fun e w' => e = .returned (.tuple #[val 0 0 wNone, errV p]) ∧ Below w.heap.size w w' := by
  have HE := hid he
  clear he
  by_cases k1 : i < 0
  · clear h
    have HB0 := hid (alloc_below w (vbox 0 0 wNone))
    have HG0 := hid (heap_new w (vbox 0 0 wNone))
    go_enter Tryz.func43, Tryz.ntmps43
    go_upto_region 2 with fail
    obtain ⟨W, hW⟩ : ∃ W, w.alloc (vbox 0 0 wNone) = W := ⟨_, rfl⟩
    rw [hW] at HB0 HG0 ⊢
    clear hW
    obtain ⟨r0, r1, r2, f0, f1, f2⟩ := six HG0.out
    have g0 := (HE.out.next HB0.out).glob
    have hlg := HE.out.lg
    have d1 : ¬ w.heap.size = 2 := by omega
    have d2 : ¬ 2 = w.heap.size := by omega
    go_region
    go_wp2
    exact bodyPost_ret (v := .tuple #[val 0 0 wNone, errV p]) (by simp [results, Tryz.results43, go_sem, r0, r1, r2]) rfl ⟨rfl, (setr (Nat.le_refl _) HB0.out _ _ _).drew⟩
  by_cases k2 : j < i
  · clear h
    have HB0 := hid (alloc_below w (vbox 0 0 wNone))
    have HG0 := hid (heap_new w (vbox 0 0 wNone))
    go_enter Tryz.func43, Tryz.ntmps43
    go_upto_region 2 with fail
    obtain ⟨W, hW⟩ : ∃ W, w.alloc (vbox 0 0 wNone) = W := ⟨_, rfl⟩
    rw [hW] at HB0 HG0 ⊢
    clear hW
    obtain ⟨r0, r1, r2, f0, f1, f2⟩ := six HG0.out
    have g0 := (HE.out.next HB0.out).glob
    have hlg := HE.out.lg
    have d1 : ¬ w.heap.size = 2 := by omega
    have d2 : ¬ 2 = w.heap.size := by omega
    go_region
    go_wp2
    exact bodyPost_ret (v := .tuple #[val 0 0 wNone, errV p]) (by simp [results, Tryz.results43, go_sem, r0, r1, r2]) rfl ⟨rfl, (setr (Nat.le_refl _) HB0.out _ _ _).drew⟩
  · have k3 : (s.size : Int) < j := by omega
    clear h
    have HB0 := hid (alloc_below w (vbox 0 0 wNone))
    have HG0 := hid (heap_new w (vbox 0 0 wNone))
    go_enter Tryz.func43, Tryz.ntmps43
    go_upto_region 2 with fail
    obtain ⟨W, hW⟩ : ∃ W, w.alloc (vbox 0 0 wNone) = W := ⟨_, rfl⟩
    rw [hW] at HB0 HG0 ⊢
    clear hW
    obtain ⟨r0, r1, r2, f0, f1, f2⟩ := six HG0.out
    have g0 := (HE.out.next HB0.out).glob
    have hlg := HE.out.lg
    have d1 : ¬ w.heap.size = 2 := by omega
    have d2 : ¬ 2 = w.heap.size := by omega
    go_region
    go_wp2
    exact bodyPost_ret (v := .tuple #[val 0 0 wNone, errV p]) (by simp [results, Tryz.results43, go_sem, r0, r1, r2]) rfl ⟨rfl, (setr (Nat.le_refl _) HB0.out _ _ _).drew⟩
end Go.Proofs.YtabefhpgeaihgaaGreatDoor.V
/-! The model's built words. Printed by gen_vblt.py. -/
namespace Go.Proofs.YtabefhpgeaihgaaGreatDoor.V
open Go.RowKit Go.Shelf
set_option maxRecDepth 20000
end Go.Proofs.YtabefhpgeaihgaaGreatDoor.V
