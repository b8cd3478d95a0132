import Derived.Test.YtabefhpgeaihgaaGreatDoorJ08
import Derived.Test.YtabefhpgeaihgaaGreatDoorJ13
/-! Printed by gen_vcnt.py. -/
namespace Go.Proofs.YtabefhpgeaihgaaGreatDoor.V
open Go.RowKit Go.Shelf
set_option maxRecDepth 20000
theorem wr_i8 (n : Int) : -128 ≤ IntKind.i8.wrap n ∧ IntKind.i8.wrap n ≤ 127 := by
  simp [IntKind.wrap, IntKind.bits, IntKind.signed] <;> omega
theorem counted_i8 (op a b : Int) (h9 : 9 ≤ op) (h18 : op ≤ 18) (ha : -128 ≤ a ∧ a ≤ 127) (hb : -128 ≤ b ∧ b ≤ 127) (hz : op = 14 ∨ op = 15 → b ≠ 0) (w : World) :
    Calls Tryz.prog 84 #[.int .i64 op, .int .i8 a, .int .i8 b] w fun e w' => e = .returned (.tuple #[.int .i8 (cntK .i8 op a b), .nilIface]) ∧ w' = w := by
  obtain ⟨h1, h2⟩ := ha
  obtain ⟨h3, h4⟩ := hb
  obtain rfl | rfl | rfl | rfl | rfl | rfl | rfl | rfl | rfl | rfl : op = 9 ∨ op = 10 ∨ op = 11 ∨ op = 12 ∨ op = 13 ∨ op = 14 ∨ op = 15 ∨ op = 16 ∨ op = 17 ∨ op = 18 := by omega
  · exact cnt_i8_add a b h1 h2 h3 h4 w
  · exact cnt_i8_sub a b h1 h2 h3 h4 w
  · exact cnt_i8_or a b h1 h2 h3 h4 w
  · exact cnt_i8_xor a b h1 h2 h3 h4 w
  · exact cnt_i8_mul a b h1 h2 h3 h4 w
  · exact cnt_i8_quo a b h1 h2 h3 h4 (hz (by decide)) w
  · exact cnt_i8_rem a b h1 h2 h3 h4 (hz (by decide)) w
  · exact cnt_i8_and a b h1 h2 h3 h4 w
  · exact cnt_i8_shl a b h1 h2 h3 h4 w
  · exact cnt_i8_shr a b h1 h2 h3 h4 w
set_option maxHeartbeats 1000000 in
theorem zero_i8 (op a : Int) (ho : op = 14 ∨ op = 15) (p : Addr) (w : World) (hg : w.cell? ⟨6, 0, none⟩ = some (errV p)) :
    Calls Tryz.prog 84 #[.int .i64 op, .int .i8 a, .int .i8 0] w fun e w' => e = .returned (.tuple #[.int .i8 0, errV p]) ∧ Below w.heap.size w w' := by
  obtain rfl | rfl := ho
  all_goals go_enter Tryz.func84, Tryz.ntmps84
  all_goals go_wp2
  all_goals go_quiet (fail)
  all_goals go_wp2
  all_goals exact bodyPost_ret (v := .tuple #[.int .i8 0, errV p]) (by simp [results, Tryz.results84, go_sem]) rfl ⟨rfl, drewN_below _ _⟩
set_option maxHeartbeats 1000000 in
theorem pairC_i8 (op t a b : Int) (h3 : 3 ≤ op) (h8 : op ≤ 8) (_ha1 : -9223372036854775808 ≤ a) (_ha2 : a ≤ 9223372036854775807) (_hb1 : -9223372036854775808 ≤ b) (_hb2 : b ≤ 9223372036854775807) (w : World) :
    Calls Tryz.prog 61 #[.int .i64 op, .int .i64 t, .int .i64 a, .int .i64 b] w fun e w' => e = .returned (.tuple #[boolV (cmpB op (IntKind.i8.wrap a) (IntKind.i8.wrap b)), .nilIface]) ∧ Below w.heap.size w w' := by
  have HC : Hid (∀ W, Calls Tryz.prog 83 #[.int .i64 op, .int .i8 (IntKind.i8.wrap a), .int .i8 (IntKind.i8.wrap b)] W fun e w' => e = .returned (.bool (cmpB op (IntKind.i8.wrap a) (IntKind.i8.wrap b))) ∧ w' = W) := fun W => by
    have := cmp_i8 op (IntKind.i8.wrap a) (IntKind.i8.wrap b) h3 h8 W
    rwa [show IntKind.i8.wrap a = (IntKind.i8.wrap a) from rfl, show IntKind.i8.wrap b = (IntKind.i8.wrap b) from rfl] at this ⊢
  generalize cmpB op (IntKind.i8.wrap a) (IntKind.i8.wrap b) = R at *
  have HR : Hid (∃ z : Int, boolV R = val 1 z wNone) := ⟨_, rfl⟩
  have HO := hid (ofBool_any R)
  obtain ⟨z, hz⟩ := HR.out
  rw [hz] at HO ⊢
  clear hz HR
  go_enter Tryz.func61, Tryz.ntmps61
  go_wp2_with fail
  refine (HC.out _).mono ?_
  rintro e w' ⟨rfl, hw⟩
  have hw2 := hw.symm
  clear hw
  subst hw2
  go_wp2_with fail
  refine (HO.out _).mono ?_
  rintro e w1 ⟨rfl, hb1⟩
  have HB1 := hid (box_next (Below.refl _ _) hb1)
  obtain ⟨x0, x1, x2, y0, y1, y2⟩ := box_room HB1.out
  clear hb1
  go_wp2
  exact bodyPost_ret (v := .tuple #[val 1 z wNone, .nilIface]) (by simp [results, Tryz.results61, go_sem, x0, x1, x2]) rfl ⟨rfl, set3 (box_below HB1.out) _ _ _⟩
set_option maxHeartbeats 1000000 in
theorem pairN_i8 (op t a b : Int) (h9 : 9 ≤ op) (h18 : op ≤ 18) (_ha1 : -9223372036854775808 ≤ a) (_ha2 : a ≤ 9223372036854775807) (_hb1 : -9223372036854775808 ≤ b) (_hb2 : b ≤ 9223372036854775807) (hz : op = 14 ∨ op = 15 → IntKind.i8.wrap b ≠ 0) (w : World) :
    Calls Tryz.prog 61 #[.int .i64 op, .int .i64 t, .int .i64 a, .int .i64 b] w fun e w' => e = .returned (.tuple #[val t (IntKind.i64.wrap (cntK .i8 op (IntKind.i8.wrap a) (IntKind.i8.wrap b))) wNone, .nilIface]) ∧ Below w.heap.size w w' := by
  have HC : Hid (∀ W, Calls Tryz.prog 84 #[.int .i64 op, .int .i8 (IntKind.i8.wrap a), .int .i8 (IntKind.i8.wrap b)] W fun e w' => e = .returned (.tuple #[.int .i8 (cntK .i8 op (IntKind.i8.wrap a) (IntKind.i8.wrap b)), .nilIface]) ∧ w' = W) := fun W => by
    have := counted_i8 op (IntKind.i8.wrap a) (IntKind.i8.wrap b) h9 h18 (wr_i8 a) (wr_i8 b) hz W
    rwa [show IntKind.i8.wrap a = (IntKind.i8.wrap a) from rfl, show IntKind.i8.wrap b = (IntKind.i8.wrap b) from rfl] at this ⊢
  clear hz
  generalize cntK .i8 op (IntKind.i8.wrap a) (IntKind.i8.wrap b) = R at *
  go_enter Tryz.func61, Tryz.ntmps61
  go_wp2_with fail
  refine (HC.out _).mono ?_
  rintro e w' ⟨rfl, hw⟩
  have hw2 := hw.symm
  clear hw
  subst hw2
  go_wp2
  exact bodyPost_ret (v := .tuple #[val t (IntKind.i64.wrap R) wNone, .nilIface]) (by simp [results, Tryz.results61, go_sem, IntWalk.i64_left]) rfl ⟨rfl, alloc_below _ _⟩
set_option maxHeartbeats 1000000 in
theorem pairZ_i8 (op t a b : Int) (ho : op = 14 ∨ op = 15) (_ha1 : -9223372036854775808 ≤ a) (_ha2 : a ≤ 9223372036854775807) (_hb1 : -9223372036854775808 ≤ b) (_hb2 : b ≤ 9223372036854775807) (hz : IntKind.i8.wrap b = 0) (p : Addr) (x : ByteArray) (w : World) (he : ErrAt w 6 p x) :
    Calls Tryz.prog 61 #[.int .i64 op, .int .i64 t, .int .i64 a, .int .i64 b] w fun e w' => e = .returned (.tuple #[val t 0 wNone, errV p]) ∧ Below w.heap.size w w' := by
  have HC : Hid (∀ W, Below w.heap.size w W → Calls Tryz.prog 84 #[.int .i64 op, .int .i8 (IntKind.i8.wrap a), .int .i8 (IntKind.i8.wrap b)] W fun e w' => e = .returned (.tuple #[.int .i8 0, errV p]) ∧ Below W.heap.size W w') := fun W hW => by
    have := zero_i8 op (IntKind.i8.wrap a) ho p W (he.next hW).glob
    rw [← hz] at this
    rw [show IntKind.i8.wrap b = (IntKind.i8.wrap b) from rfl, show IntKind.i8.wrap a = (IntKind.i8.wrap a) from rfl] at this
    rw [show (IntKind.i8.wrap b) = 0 from (show IntKind.i8.wrap b = (IntKind.i8.wrap b) from rfl).symm.trans hz] at this ⊢
    exact this
  have h9 : 9 ≤ op := by omega
  clear hz he ho
  go_enter Tryz.func61, Tryz.ntmps61
  go_wp2_with fail
  refine (HC.out _ (alloc_below _ _)).mono ?_
  rintro e w1 ⟨rfl, hb1⟩
  have HB1 := hid (box_next (Below.refl _ _) hb1)
  obtain ⟨x0, x1, x2, y0, y1, y2⟩ := box_room HB1.out
  clear hb1
  go_wp2
  exact bodyPost_ret (v := .tuple #[val t 0 wNone, errV p]) (by simp [results, Tryz.results61, go_sem, x0, x1, x2]) rfl ⟨rfl, set3 (box_below HB1.out) _ _ _⟩
end Go.Proofs.YtabefhpgeaihgaaGreatDoor.V
