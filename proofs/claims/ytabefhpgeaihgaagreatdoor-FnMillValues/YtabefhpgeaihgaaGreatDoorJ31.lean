import Derived.Test.YtabefhpgeaihgaaGreatDoorJ26
import Derived.Test.YtabefhpgeaihgaaGreatDoorJ23
import Derived.Test.YtabefhpgeaihgaaGreatDoorJ24
import Derived.Test.YtabefhpgeaihgaaGreatDoorJ25
import Derived.Test.YtabefhpgeaihgaaGreatDoorJ22
import Derived.Test.YtabefhpgeaihgaaGreatDoorJ19
import Derived.Test.YtabefhpgeaihgaaGreatDoorJ20
import Derived.Test.YtabefhpgeaihgaaGreatDoorJ21
/-! Printed by gen_vints.py. -/
namespace Go.Proofs.YtabefhpgeaihgaaGreatDoor.V
open Go.RowKit Go.Shelf
set_option maxRecDepth 20000
set_option maxHeartbeats 4000000 in
theorem intsC (t op a b : Int) (t1 : 3 ≤ t) (t2 : t ≤ 10) (h3 : 3 ≤ op) (h8 : op ≤ 8) (ha1 : -9223372036854775808 ≤ a) (ha2 : a ≤ 9223372036854775807) (hb1 : -9223372036854775808 ≤ b) (hb2 : b ≤ 9223372036854775807) (w : World) :
    Calls Tryz.prog 32 #[.int .i64 op, .int .i64 t, .int .i64 a, .int .i64 b] w fun e w' => e = .returned (.tuple #[boolV (cmpB op ((kT t).wrap a) ((kT t).wrap b)), .nilIface]) ∧ Below w.heap.size w w' := by
  have HR : Hid (∃ y z x, boolV (cmpB op ((kT t).wrap a) ((kT t).wrap b)) = val y z x) := ⟨_, _, _, rfl⟩
  obtain rfl | rfl | rfl | rfl | rfl | rfl | rfl | rfl := typ8 t1 t2
  · have HC : Hid (∀ W, Below w.heap.size w W → Calls Tryz.prog 57 #[.int .i64 op, .int .i64 3, .int .i64 a, .int .i64 b] W fun e w' => e = .returned (.tuple #[boolV (cmpB op ((kT 3).wrap a) ((kT 3).wrap b)), .nilIface]) ∧ Below W.heap.size W w') := fun W hW => pairC_u8 op 3 a b h3 h8 ha1 ha2 hb1 hb2 W
    obtain ⟨y, z, s, hv⟩ := HR.out
    rw [hv] at HC ⊢
    clear hv HR t1 t2
    go_enter Tryz.func32, Tryz.ntmps32
    go_wp2_with fail
    refine (HC.out _ (alloc_below _ _)).mono ?_
    rintro e w1 ⟨rfl, hb1⟩
    have HB1 := hid (box_next (Below.refl _ _) hb1)
    obtain ⟨x0, x1, x2, y0, y1, y2⟩ := box_room HB1.out
    clear hb1
    go_wp2
    exact bodyPost_ret (v := .tuple #[val y z s, .nilIface]) (by simp [results, Tryz.results32, go_sem, x0, x1, x2]) rfl ⟨rfl, set3 (box_below HB1.out) _ _ _⟩
  · have HC : Hid (∀ W, Below w.heap.size w W → Calls Tryz.prog 58 #[.int .i64 op, .int .i64 4, .int .i64 a, .int .i64 b] W fun e w' => e = .returned (.tuple #[boolV (cmpB op ((kT 4).wrap a) ((kT 4).wrap b)), .nilIface]) ∧ Below W.heap.size W w') := fun W hW => pairC_u16 op 4 a b h3 h8 ha1 ha2 hb1 hb2 W
    obtain ⟨y, z, s, hv⟩ := HR.out
    rw [hv] at HC ⊢
    clear hv HR t1 t2
    go_enter Tryz.func32, Tryz.ntmps32
    go_wp2_with fail
    refine (HC.out _ (alloc_below _ _)).mono ?_
    rintro e w1 ⟨rfl, hb1⟩
    have HB1 := hid (box_next (Below.refl _ _) hb1)
    obtain ⟨x0, x1, x2, y0, y1, y2⟩ := box_room HB1.out
    clear hb1
    go_wp2
    exact bodyPost_ret (v := .tuple #[val y z s, .nilIface]) (by simp [results, Tryz.results32, go_sem, x0, x1, x2]) rfl ⟨rfl, set3 (box_below HB1.out) _ _ _⟩
  · have HC : Hid (∀ W, Below w.heap.size w W → Calls Tryz.prog 59 #[.int .i64 op, .int .i64 5, .int .i64 a, .int .i64 b] W fun e w' => e = .returned (.tuple #[boolV (cmpB op ((kT 5).wrap a) ((kT 5).wrap b)), .nilIface]) ∧ Below W.heap.size W w') := fun W hW => pairC_u32 op 5 a b h3 h8 ha1 ha2 hb1 hb2 W
    obtain ⟨y, z, s, hv⟩ := HR.out
    rw [hv] at HC ⊢
    clear hv HR t1 t2
    go_enter Tryz.func32, Tryz.ntmps32
    go_wp2_with fail
    refine (HC.out _ (alloc_below _ _)).mono ?_
    rintro e w1 ⟨rfl, hb1⟩
    have HB1 := hid (box_next (Below.refl _ _) hb1)
    obtain ⟨x0, x1, x2, y0, y1, y2⟩ := box_room HB1.out
    clear hb1
    go_wp2
    exact bodyPost_ret (v := .tuple #[val y z s, .nilIface]) (by simp [results, Tryz.results32, go_sem, x0, x1, x2]) rfl ⟨rfl, set3 (box_below HB1.out) _ _ _⟩
  · have HC : Hid (∀ W, Below w.heap.size w W → Calls Tryz.prog 60 #[.int .i64 op, .int .i64 6, .int .i64 a, .int .i64 b] W fun e w' => e = .returned (.tuple #[boolV (cmpB op ((kT 6).wrap a) ((kT 6).wrap b)), .nilIface]) ∧ Below W.heap.size W w') := fun W hW => pairC_u64 op 6 a b h3 h8 ha1 ha2 hb1 hb2 W
    obtain ⟨y, z, s, hv⟩ := HR.out
    rw [hv] at HC ⊢
    clear hv HR t1 t2
    go_enter Tryz.func32, Tryz.ntmps32
    go_wp2_with fail
    refine (HC.out _ (alloc_below _ _)).mono ?_
    rintro e w1 ⟨rfl, hb1⟩
    have HB1 := hid (box_next (Below.refl _ _) hb1)
    obtain ⟨x0, x1, x2, y0, y1, y2⟩ := box_room HB1.out
    clear hb1
    go_wp2
    exact bodyPost_ret (v := .tuple #[val y z s, .nilIface]) (by simp [results, Tryz.results32, go_sem, x0, x1, x2]) rfl ⟨rfl, set3 (box_below HB1.out) _ _ _⟩
  · have HC : Hid (∀ W, Below w.heap.size w W → Calls Tryz.prog 61 #[.int .i64 op, .int .i64 7, .int .i64 a, .int .i64 b] W fun e w' => e = .returned (.tuple #[boolV (cmpB op ((kT 7).wrap a) ((kT 7).wrap b)), .nilIface]) ∧ Below W.heap.size W w') := fun W hW => pairC_i8 op 7 a b h3 h8 ha1 ha2 hb1 hb2 W
    obtain ⟨y, z, s, hv⟩ := HR.out
    rw [hv] at HC ⊢
    clear hv HR t1 t2
    go_enter Tryz.func32, Tryz.ntmps32
    go_wp2_with fail
    refine (HC.out _ (alloc_below _ _)).mono ?_
    rintro e w1 ⟨rfl, hb1⟩
    have HB1 := hid (box_next (Below.refl _ _) hb1)
    obtain ⟨x0, x1, x2, y0, y1, y2⟩ := box_room HB1.out
    clear hb1
    go_wp2
    exact bodyPost_ret (v := .tuple #[val y z s, .nilIface]) (by simp [results, Tryz.results32, go_sem, x0, x1, x2]) rfl ⟨rfl, set3 (box_below HB1.out) _ _ _⟩
  · have HC : Hid (∀ W, Below w.heap.size w W → Calls Tryz.prog 62 #[.int .i64 op, .int .i64 8, .int .i64 a, .int .i64 b] W fun e w' => e = .returned (.tuple #[boolV (cmpB op ((kT 8).wrap a) ((kT 8).wrap b)), .nilIface]) ∧ Below W.heap.size W w') := fun W hW => pairC_i16 op 8 a b h3 h8 ha1 ha2 hb1 hb2 W
    obtain ⟨y, z, s, hv⟩ := HR.out
    rw [hv] at HC ⊢
    clear hv HR t1 t2
    go_enter Tryz.func32, Tryz.ntmps32
    go_wp2_with fail
    refine (HC.out _ (alloc_below _ _)).mono ?_
    rintro e w1 ⟨rfl, hb1⟩
    have HB1 := hid (box_next (Below.refl _ _) hb1)
    obtain ⟨x0, x1, x2, y0, y1, y2⟩ := box_room HB1.out
    clear hb1
    go_wp2
    exact bodyPost_ret (v := .tuple #[val y z s, .nilIface]) (by simp [results, Tryz.results32, go_sem, x0, x1, x2]) rfl ⟨rfl, set3 (box_below HB1.out) _ _ _⟩
  · have HC : Hid (∀ W, Below w.heap.size w W → Calls Tryz.prog 63 #[.int .i64 op, .int .i64 9, .int .i64 a, .int .i64 b] W fun e w' => e = .returned (.tuple #[boolV (cmpB op ((kT 9).wrap a) ((kT 9).wrap b)), .nilIface]) ∧ Below W.heap.size W w') := fun W hW => pairC_i32 op 9 a b h3 h8 ha1 ha2 hb1 hb2 W
    obtain ⟨y, z, s, hv⟩ := HR.out
    rw [hv] at HC ⊢
    clear hv HR t1 t2
    go_enter Tryz.func32, Tryz.ntmps32
    go_wp2_with fail
    refine (HC.out _ (alloc_below _ _)).mono ?_
    rintro e w1 ⟨rfl, hb1⟩
    have HB1 := hid (box_next (Below.refl _ _) hb1)
    obtain ⟨x0, x1, x2, y0, y1, y2⟩ := box_room HB1.out
    clear hb1
    go_wp2
    exact bodyPost_ret (v := .tuple #[val y z s, .nilIface]) (by simp [results, Tryz.results32, go_sem, x0, x1, x2]) rfl ⟨rfl, set3 (box_below HB1.out) _ _ _⟩
  · have HC : Hid (∀ W, Below w.heap.size w W → Calls Tryz.prog 64 #[.int .i64 op, .int .i64 10, .int .i64 a, .int .i64 b] W fun e w' => e = .returned (.tuple #[boolV (cmpB op ((kT 10).wrap a) ((kT 10).wrap b)), .nilIface]) ∧ Below W.heap.size W w') := fun W hW => pairC_i64 op 10 a b h3 h8 ha1 ha2 hb1 hb2 W
    obtain ⟨y, z, s, hv⟩ := HR.out
    rw [hv] at HC ⊢
    clear hv HR t1 t2
    go_enter Tryz.func32, Tryz.ntmps32
    go_wp2_with fail
    refine (HC.out _ (alloc_below _ _)).mono ?_
    rintro e w1 ⟨rfl, hb1⟩
    have HB1 := hid (box_next (Below.refl _ _) hb1)
    obtain ⟨x0, x1, x2, y0, y1, y2⟩ := box_room HB1.out
    clear hb1
    go_wp2
    exact bodyPost_ret (v := .tuple #[val y z s, .nilIface]) (by simp [results, Tryz.results32, go_sem, x0, x1, x2]) rfl ⟨rfl, set3 (box_below HB1.out) _ _ _⟩
set_option maxHeartbeats 4000000 in
theorem intsN (t op a b : Int) (t1 : 3 ≤ t) (t2 : t ≤ 10) (h9 : 9 ≤ op) (h18 : op ≤ 18) (ha1 : -9223372036854775808 ≤ a) (ha2 : a ≤ 9223372036854775807) (hb1 : -9223372036854775808 ≤ b) (hb2 : b ≤ 9223372036854775807) (hz : op = 14 ∨ op = 15 → (kT t).wrap b ≠ 0) (w : World) :
    Calls Tryz.prog 32 #[.int .i64 op, .int .i64 t, .int .i64 a, .int .i64 b] w fun e w' => e = .returned (.tuple #[val t (IntKind.i64.wrap (cntK (kT t) op ((kT t).wrap a) ((kT t).wrap b))) wNone, .nilIface]) ∧ Below w.heap.size w w' := by
  have HR : Hid (∃ y z x, val t (IntKind.i64.wrap (cntK (kT t) op ((kT t).wrap a) ((kT t).wrap b))) wNone = val y z x) := ⟨_, _, _, rfl⟩
  obtain rfl | rfl | rfl | rfl | rfl | rfl | rfl | rfl := typ8 t1 t2
  · have HC : Hid (∀ W, Below w.heap.size w W → Calls Tryz.prog 57 #[.int .i64 op, .int .i64 3, .int .i64 a, .int .i64 b] W fun e w' => e = .returned (.tuple #[val 3 (IntKind.i64.wrap (cntK (kT 3) op ((kT 3).wrap a) ((kT 3).wrap b))) wNone, .nilIface]) ∧ Below W.heap.size W w') := fun W hW => pairN_u8 op 3 a b h9 h18 ha1 ha2 hb1 hb2 hz W
    obtain ⟨y, z, s, hv⟩ := HR.out
    rw [hv] at HC ⊢
    clear hv HR t1 t2 hz
    go_enter Tryz.func32, Tryz.ntmps32
    go_wp2_with fail
    refine (HC.out _ (alloc_below _ _)).mono ?_
    rintro e w1 ⟨rfl, hb1⟩
    have HB1 := hid (box_next (Below.refl _ _) hb1)
    obtain ⟨x0, x1, x2, y0, y1, y2⟩ := box_room HB1.out
    clear hb1
    go_wp2
    exact bodyPost_ret (v := .tuple #[val y z s, .nilIface]) (by simp [results, Tryz.results32, go_sem, x0, x1, x2]) rfl ⟨rfl, set3 (box_below HB1.out) _ _ _⟩
  · have HC : Hid (∀ W, Below w.heap.size w W → Calls Tryz.prog 58 #[.int .i64 op, .int .i64 4, .int .i64 a, .int .i64 b] W fun e w' => e = .returned (.tuple #[val 4 (IntKind.i64.wrap (cntK (kT 4) op ((kT 4).wrap a) ((kT 4).wrap b))) wNone, .nilIface]) ∧ Below W.heap.size W w') := fun W hW => pairN_u16 op 4 a b h9 h18 ha1 ha2 hb1 hb2 hz W
    obtain ⟨y, z, s, hv⟩ := HR.out
    rw [hv] at HC ⊢
    clear hv HR t1 t2 hz
    go_enter Tryz.func32, Tryz.ntmps32
    go_wp2_with fail
    refine (HC.out _ (alloc_below _ _)).mono ?_
    rintro e w1 ⟨rfl, hb1⟩
    have HB1 := hid (box_next (Below.refl _ _) hb1)
    obtain ⟨x0, x1, x2, y0, y1, y2⟩ := box_room HB1.out
    clear hb1
    go_wp2
    exact bodyPost_ret (v := .tuple #[val y z s, .nilIface]) (by simp [results, Tryz.results32, go_sem, x0, x1, x2]) rfl ⟨rfl, set3 (box_below HB1.out) _ _ _⟩
  · have HC : Hid (∀ W, Below w.heap.size w W → Calls Tryz.prog 59 #[.int .i64 op, .int .i64 5, .int .i64 a, .int .i64 b] W fun e w' => e = .returned (.tuple #[val 5 (IntKind.i64.wrap (cntK (kT 5) op ((kT 5).wrap a) ((kT 5).wrap b))) wNone, .nilIface]) ∧ Below W.heap.size W w') := fun W hW => pairN_u32 op 5 a b h9 h18 ha1 ha2 hb1 hb2 hz W
    obtain ⟨y, z, s, hv⟩ := HR.out
    rw [hv] at HC ⊢
    clear hv HR t1 t2 hz
    go_enter Tryz.func32, Tryz.ntmps32
    go_wp2_with fail
    refine (HC.out _ (alloc_below _ _)).mono ?_
    rintro e w1 ⟨rfl, hb1⟩
    have HB1 := hid (box_next (Below.refl _ _) hb1)
    obtain ⟨x0, x1, x2, y0, y1, y2⟩ := box_room HB1.out
    clear hb1
    go_wp2
    exact bodyPost_ret (v := .tuple #[val y z s, .nilIface]) (by simp [results, Tryz.results32, go_sem, x0, x1, x2]) rfl ⟨rfl, set3 (box_below HB1.out) _ _ _⟩
  · have HC : Hid (∀ W, Below w.heap.size w W → Calls Tryz.prog 60 #[.int .i64 op, .int .i64 6, .int .i64 a, .int .i64 b] W fun e w' => e = .returned (.tuple #[val 6 (IntKind.i64.wrap (cntK (kT 6) op ((kT 6).wrap a) ((kT 6).wrap b))) wNone, .nilIface]) ∧ Below W.heap.size W w') := fun W hW => pairN_u64 op 6 a b h9 h18 ha1 ha2 hb1 hb2 hz W
    obtain ⟨y, z, s, hv⟩ := HR.out
    rw [hv] at HC ⊢
    clear hv HR t1 t2 hz
    go_enter Tryz.func32, Tryz.ntmps32
    go_wp2_with fail
    refine (HC.out _ (alloc_below _ _)).mono ?_
    rintro e w1 ⟨rfl, hb1⟩
    have HB1 := hid (box_next (Below.refl _ _) hb1)
    obtain ⟨x0, x1, x2, y0, y1, y2⟩ := box_room HB1.out
    clear hb1
    go_wp2
    exact bodyPost_ret (v := .tuple #[val y z s, .nilIface]) (by simp [results, Tryz.results32, go_sem, x0, x1, x2]) rfl ⟨rfl, set3 (box_below HB1.out) _ _ _⟩
  · have HC : Hid (∀ W, Below w.heap.size w W → Calls Tryz.prog 61 #[.int .i64 op, .int .i64 7, .int .i64 a, .int .i64 b] W fun e w' => e = .returned (.tuple #[val 7 (IntKind.i64.wrap (cntK (kT 7) op ((kT 7).wrap a) ((kT 7).wrap b))) wNone, .nilIface]) ∧ Below W.heap.size W w') := fun W hW => pairN_i8 op 7 a b h9 h18 ha1 ha2 hb1 hb2 hz W
    obtain ⟨y, z, s, hv⟩ := HR.out
    rw [hv] at HC ⊢
    clear hv HR t1 t2 hz
    go_enter Tryz.func32, Tryz.ntmps32
    go_wp2_with fail
    refine (HC.out _ (alloc_below _ _)).mono ?_
    rintro e w1 ⟨rfl, hb1⟩
    have HB1 := hid (box_next (Below.refl _ _) hb1)
    obtain ⟨x0, x1, x2, y0, y1, y2⟩ := box_room HB1.out
    clear hb1
    go_wp2
    exact bodyPost_ret (v := .tuple #[val y z s, .nilIface]) (by simp [results, Tryz.results32, go_sem, x0, x1, x2]) rfl ⟨rfl, set3 (box_below HB1.out) _ _ _⟩
  · have HC : Hid (∀ W, Below w.heap.size w W → Calls Tryz.prog 62 #[.int .i64 op, .int .i64 8, .int .i64 a, .int .i64 b] W fun e w' => e = .returned (.tuple #[val 8 (IntKind.i64.wrap (cntK (kT 8) op ((kT 8).wrap a) ((kT 8).wrap b))) wNone, .nilIface]) ∧ Below W.heap.size W w') := fun W hW => pairN_i16 op 8 a b h9 h18 ha1 ha2 hb1 hb2 hz W
    obtain ⟨y, z, s, hv⟩ := HR.out
    rw [hv] at HC ⊢
    clear hv HR t1 t2 hz
    go_enter Tryz.func32, Tryz.ntmps32
    go_wp2_with fail
    refine (HC.out _ (alloc_below _ _)).mono ?_
    rintro e w1 ⟨rfl, hb1⟩
    have HB1 := hid (box_next (Below.refl _ _) hb1)
    obtain ⟨x0, x1, x2, y0, y1, y2⟩ := box_room HB1.out
    clear hb1
    go_wp2
    exact bodyPost_ret (v := .tuple #[val y z s, .nilIface]) (by simp [results, Tryz.results32, go_sem, x0, x1, x2]) rfl ⟨rfl, set3 (box_below HB1.out) _ _ _⟩
  · have HC : Hid (∀ W, Below w.heap.size w W → Calls Tryz.prog 63 #[.int .i64 op, .int .i64 9, .int .i64 a, .int .i64 b] W fun e w' => e = .returned (.tuple #[val 9 (IntKind.i64.wrap (cntK (kT 9) op ((kT 9).wrap a) ((kT 9).wrap b))) wNone, .nilIface]) ∧ Below W.heap.size W w') := fun W hW => pairN_i32 op 9 a b h9 h18 ha1 ha2 hb1 hb2 hz W
    obtain ⟨y, z, s, hv⟩ := HR.out
    rw [hv] at HC ⊢
    clear hv HR t1 t2 hz
    go_enter Tryz.func32, Tryz.ntmps32
    go_wp2_with fail
    refine (HC.out _ (alloc_below _ _)).mono ?_
    rintro e w1 ⟨rfl, hb1⟩
    have HB1 := hid (box_next (Below.refl _ _) hb1)
    obtain ⟨x0, x1, x2, y0, y1, y2⟩ := box_room HB1.out
    clear hb1
    go_wp2
    exact bodyPost_ret (v := .tuple #[val y z s, .nilIface]) (by simp [results, Tryz.results32, go_sem, x0, x1, x2]) rfl ⟨rfl, set3 (box_below HB1.out) _ _ _⟩
  · have HC : Hid (∀ W, Below w.heap.size w W → Calls Tryz.prog 64 #[.int .i64 op, .int .i64 10, .int .i64 a, .int .i64 b] W fun e w' => e = .returned (.tuple #[val 10 (IntKind.i64.wrap (cntK (kT 10) op ((kT 10).wrap a) ((kT 10).wrap b))) wNone, .nilIface]) ∧ Below W.heap.size W w') := fun W hW => pairN_i64 op 10 a b h9 h18 ha1 ha2 hb1 hb2 hz W
    obtain ⟨y, z, s, hv⟩ := HR.out
    rw [hv] at HC ⊢
    clear hv HR t1 t2 hz
    go_enter Tryz.func32, Tryz.ntmps32
    go_wp2_with fail
    refine (HC.out _ (alloc_below _ _)).mono ?_
    rintro e w1 ⟨rfl, hb1⟩
    have HB1 := hid (box_next (Below.refl _ _) hb1)
    obtain ⟨x0, x1, x2, y0, y1, y2⟩ := box_room HB1.out
    clear hb1
    go_wp2
    exact bodyPost_ret (v := .tuple #[val y z s, .nilIface]) (by simp [results, Tryz.results32, go_sem, x0, x1, x2]) rfl ⟨rfl, set3 (box_below HB1.out) _ _ _⟩
set_option maxHeartbeats 4000000 in
theorem intsZ (t op a b : Int) (t1 : 3 ≤ t) (t2 : t ≤ 10) (ho : op = 14 ∨ op = 15) (ha1 : -9223372036854775808 ≤ a) (ha2 : a ≤ 9223372036854775807) (hb1 : -9223372036854775808 ≤ b) (hb2 : b ≤ 9223372036854775807) (hz : (kT t).wrap b = 0) (p : Addr) (x : ByteArray) (w : World) (he : ErrAt w 6 p x) :
    Calls Tryz.prog 32 #[.int .i64 op, .int .i64 t, .int .i64 a, .int .i64 b] w fun e w' => e = .returned (.tuple #[val t 0 wNone, errV p]) ∧ Below w.heap.size w w' := by
  have HR : Hid (∃ y z x, val t 0 wNone = val y z x) := ⟨_, _, _, rfl⟩
  obtain rfl | rfl | rfl | rfl | rfl | rfl | rfl | rfl := typ8 t1 t2
  · have HC : Hid (∀ W, Below w.heap.size w W → Calls Tryz.prog 57 #[.int .i64 op, .int .i64 3, .int .i64 a, .int .i64 b] W fun e w' => e = .returned (.tuple #[val 3 0 wNone, errV p]) ∧ Below W.heap.size W w') := fun W hW => pairZ_u8 op 3 a b ho ha1 ha2 hb1 hb2 hz p x W (he.next hW)
    obtain ⟨y, z, s, hv⟩ := HR.out
    rw [hv] at HC ⊢
    clear hv HR t1 t2 hz he
    go_enter Tryz.func32, Tryz.ntmps32
    go_wp2_with fail
    refine (HC.out _ (alloc_below _ _)).mono ?_
    rintro e w1 ⟨rfl, hb1⟩
    have HB1 := hid (box_next (Below.refl _ _) hb1)
    obtain ⟨x0, x1, x2, y0, y1, y2⟩ := box_room HB1.out
    clear hb1
    go_wp2
    exact bodyPost_ret (v := .tuple #[val y z s, errV p]) (by simp [results, Tryz.results32, go_sem, x0, x1, x2]) rfl ⟨rfl, set3 (box_below HB1.out) _ _ _⟩
  · have HC : Hid (∀ W, Below w.heap.size w W → Calls Tryz.prog 58 #[.int .i64 op, .int .i64 4, .int .i64 a, .int .i64 b] W fun e w' => e = .returned (.tuple #[val 4 0 wNone, errV p]) ∧ Below W.heap.size W w') := fun W hW => pairZ_u16 op 4 a b ho ha1 ha2 hb1 hb2 hz p x W (he.next hW)
    obtain ⟨y, z, s, hv⟩ := HR.out
    rw [hv] at HC ⊢
    clear hv HR t1 t2 hz he
    go_enter Tryz.func32, Tryz.ntmps32
    go_wp2_with fail
    refine (HC.out _ (alloc_below _ _)).mono ?_
    rintro e w1 ⟨rfl, hb1⟩
    have HB1 := hid (box_next (Below.refl _ _) hb1)
    obtain ⟨x0, x1, x2, y0, y1, y2⟩ := box_room HB1.out
    clear hb1
    go_wp2
    exact bodyPost_ret (v := .tuple #[val y z s, errV p]) (by simp [results, Tryz.results32, go_sem, x0, x1, x2]) rfl ⟨rfl, set3 (box_below HB1.out) _ _ _⟩
  · have HC : Hid (∀ W, Below w.heap.size w W → Calls Tryz.prog 59 #[.int .i64 op, .int .i64 5, .int .i64 a, .int .i64 b] W fun e w' => e = .returned (.tuple #[val 5 0 wNone, errV p]) ∧ Below W.heap.size W w') := fun W hW => pairZ_u32 op 5 a b ho ha1 ha2 hb1 hb2 hz p x W (he.next hW)
    obtain ⟨y, z, s, hv⟩ := HR.out
    rw [hv] at HC ⊢
    clear hv HR t1 t2 hz he
    go_enter Tryz.func32, Tryz.ntmps32
    go_wp2_with fail
    refine (HC.out _ (alloc_below _ _)).mono ?_
    rintro e w1 ⟨rfl, hb1⟩
    have HB1 := hid (box_next (Below.refl _ _) hb1)
    obtain ⟨x0, x1, x2, y0, y1, y2⟩ := box_room HB1.out
    clear hb1
    go_wp2
    exact bodyPost_ret (v := .tuple #[val y z s, errV p]) (by simp [results, Tryz.results32, go_sem, x0, x1, x2]) rfl ⟨rfl, set3 (box_below HB1.out) _ _ _⟩
  · have HC : Hid (∀ W, Below w.heap.size w W → Calls Tryz.prog 60 #[.int .i64 op, .int .i64 6, .int .i64 a, .int .i64 b] W fun e w' => e = .returned (.tuple #[val 6 0 wNone, errV p]) ∧ Below W.heap.size W w') := fun W hW => pairZ_u64 op 6 a b ho ha1 ha2 hb1 hb2 hz p x W (he.next hW)
    obtain ⟨y, z, s, hv⟩ := HR.out
    rw [hv] at HC ⊢
    clear hv HR t1 t2 hz he
    go_enter Tryz.func32, Tryz.ntmps32
    go_wp2_with fail
    refine (HC.out _ (alloc_below _ _)).mono ?_
    rintro e w1 ⟨rfl, hb1⟩
    have HB1 := hid (box_next (Below.refl _ _) hb1)
    obtain ⟨x0, x1, x2, y0, y1, y2⟩ := box_room HB1.out
    clear hb1
    go_wp2
    exact bodyPost_ret (v := .tuple #[val y z s, errV p]) (by simp [results, Tryz.results32, go_sem, x0, x1, x2]) rfl ⟨rfl, set3 (box_below HB1.out) _ _ _⟩
  · have HC : Hid (∀ W, Below w.heap.size w W → Calls Tryz.prog 61 #[.int .i64 op, .int .i64 7, .int .i64 a, .int .i64 b] W fun e w' => e = .returned (.tuple #[val 7 0 wNone, errV p]) ∧ Below W.heap.size W w') := fun W hW => pairZ_i8 op 7 a b ho ha1 ha2 hb1 hb2 hz p x W (he.next hW)
    obtain ⟨y, z, s, hv⟩ := HR.out
    rw [hv] at HC ⊢
    clear hv HR t1 t2 hz he
    go_enter Tryz.func32, Tryz.ntmps32
    go_wp2_with fail
    refine (HC.out _ (alloc_below _ _)).mono ?_
    rintro e w1 ⟨rfl, hb1⟩
    have HB1 := hid (box_next (Below.refl _ _) hb1)
    obtain ⟨x0, x1, x2, y0, y1, y2⟩ := box_room HB1.out
    clear hb1
    go_wp2
    exact bodyPost_ret (v := .tuple #[val y z s, errV p]) (by simp [results, Tryz.results32, go_sem, x0, x1, x2]) rfl ⟨rfl, set3 (box_below HB1.out) _ _ _⟩
  · have HC : Hid (∀ W, Below w.heap.size w W → Calls Tryz.prog 62 #[.int .i64 op, .int .i64 8, .int .i64 a, .int .i64 b] W fun e w' => e = .returned (.tuple #[val 8 0 wNone, errV p]) ∧ Below W.heap.size W w') := fun W hW => pairZ_i16 op 8 a b ho ha1 ha2 hb1 hb2 hz p x W (he.next hW)
    obtain ⟨y, z, s, hv⟩ := HR.out
    rw [hv] at HC ⊢
    clear hv HR t1 t2 hz he
    go_enter Tryz.func32, Tryz.ntmps32
    go_wp2_with fail
    refine (HC.out _ (alloc_below _ _)).mono ?_
    rintro e w1 ⟨rfl, hb1⟩
    have HB1 := hid (box_next (Below.refl _ _) hb1)
    obtain ⟨x0, x1, x2, y0, y1, y2⟩ := box_room HB1.out
    clear hb1
    go_wp2
    exact bodyPost_ret (v := .tuple #[val y z s, errV p]) (by simp [results, Tryz.results32, go_sem, x0, x1, x2]) rfl ⟨rfl, set3 (box_below HB1.out) _ _ _⟩
  · have HC : Hid (∀ W, Below w.heap.size w W → Calls Tryz.prog 63 #[.int .i64 op, .int .i64 9, .int .i64 a, .int .i64 b] W fun e w' => e = .returned (.tuple #[val 9 0 wNone, errV p]) ∧ Below W.heap.size W w') := fun W hW => pairZ_i32 op 9 a b ho ha1 ha2 hb1 hb2 hz p x W (he.next hW)
    obtain ⟨y, z, s, hv⟩ := HR.out
    rw [hv] at HC ⊢
    clear hv HR t1 t2 hz he
    go_enter Tryz.func32, Tryz.ntmps32
    go_wp2_with fail
    refine (HC.out _ (alloc_below _ _)).mono ?_
    rintro e w1 ⟨rfl, hb1⟩
    have HB1 := hid (box_next (Below.refl _ _) hb1)
    obtain ⟨x0, x1, x2, y0, y1, y2⟩ := box_room HB1.out
    clear hb1
    go_wp2
    exact bodyPost_ret (v := .tuple #[val y z s, errV p]) (by simp [results, Tryz.results32, go_sem, x0, x1, x2]) rfl ⟨rfl, set3 (box_below HB1.out) _ _ _⟩
  · have HC : Hid (∀ W, Below w.heap.size w W → Calls Tryz.prog 64 #[.int .i64 op, .int .i64 10, .int .i64 a, .int .i64 b] W fun e w' => e = .returned (.tuple #[val 10 0 wNone, errV p]) ∧ Below W.heap.size W w') := fun W hW => pairZ_i64 op 10 a b ho ha1 ha2 hb1 hb2 hz p x W (he.next hW)
    obtain ⟨y, z, s, hv⟩ := HR.out
    rw [hv] at HC ⊢
    clear hv HR t1 t2 hz he
    go_enter Tryz.func32, Tryz.ntmps32
    go_wp2_with fail
    refine (HC.out _ (alloc_below _ _)).mono ?_
    rintro e w1 ⟨rfl, hb1⟩
    have HB1 := hid (box_next (Below.refl _ _) hb1)
    obtain ⟨x0, x1, x2, y0, y1, y2⟩ := box_room HB1.out
    clear hb1
    go_wp2
    exact bodyPost_ret (v := .tuple #[val y z s, errV p]) (by simp [results, Tryz.results32, go_sem, x0, x1, x2]) rfl ⟨rfl, set3 (box_below HB1.out) _ _ _⟩
end Go.Proofs.YtabefhpgeaihgaaGreatDoor.V
