import Derived.Test.YtabefhpgeaihgaaGreatDoorJ09
import Derived.Test.YtabefhpgeaihgaaGreatDoorJ13
/-! Printed by gen_vcnt.py. -/
namespace Go.Proofs.YtabefhpgeaihgaaGreatDoor.V
open Go.RowKit Go.Shelf
set_option maxRecDepth 20000
theorem wr_u16 (n : Int) : 0 ≤ IntKind.u16.wrap n ∧ IntKind.u16.wrap n ≤ 65535 := by
  simp [IntKind.wrap, IntKind.bits, IntKind.signed] <;> omega
theorem counted_u16 (op a b : Int) (h9 : 9 ≤ op) (h18 : op ≤ 18) (ha : 0 ≤ a ∧ a ≤ 65535) (hb : 0 ≤ b ∧ b ≤ 65535) (hz : op = 14 ∨ op = 15 → b ≠ 0) (w : World) :
    Calls Tryz.prog 78 #[.int .i64 op, .int .u16 a, .int .u16 b] w fun e w' => e = .returned (.tuple #[.int .u16 (cntK .u16 op a b), .nilIface]) ∧ w' = w := by
  obtain ⟨h1, h2⟩ := ha
  obtain ⟨h3, h4⟩ := hb
  obtain rfl | rfl | rfl | rfl | rfl | rfl | rfl | rfl | rfl | rfl : op = 9 ∨ op = 10 ∨ op = 11 ∨ op = 12 ∨ op = 13 ∨ op = 14 ∨ op = 15 ∨ op = 16 ∨ op = 17 ∨ op = 18 := by omega
  · exact cnt_u16_add a b h1 h2 h3 h4 w
  · exact cnt_u16_sub a b h1 h2 h3 h4 w
  · exact cnt_u16_or a b h1 h2 h3 h4 w
  · exact cnt_u16_xor a b h1 h2 h3 h4 w
  · exact cnt_u16_mul a b h1 h2 h3 h4 w
  · exact cnt_u16_quo a b h1 h2 h3 h4 (hz (by decide)) w
  · exact cnt_u16_rem a b h1 h2 h3 h4 (hz (by decide)) w
  · exact cnt_u16_and a b h1 h2 h3 h4 w
  · exact cnt_u16_shl a b h1 h2 h3 h4 w
  · exact cnt_u16_shr a b h1 h2 h3 h4 w
set_option maxHeartbeats 1000000 in
theorem zero_u16 (op a : Int) (ho : op = 14 ∨ op = 15) (p : Addr) (w : World) (hg : w.cell? ⟨6, 0, none⟩ = some (errV p)) :
    Calls Tryz.prog 78 #[.int .i64 op, .int .u16 a, .int .u16 0] w fun e w' => e = .returned (.tuple #[.int .u16 0, errV p]) ∧ Below w.heap.size w w' := by
  obtain rfl | rfl := ho
  all_goals go_enter Tryz.func78, Tryz.ntmps78
  all_goals go_wp2
  all_goals go_quiet (fail)
  all_goals go_wp2
  all_goals exact bodyPost_ret (v := .tuple #[.int .u16 0, errV p]) (by simp [results, Tryz.results78, go_sem]) rfl ⟨rfl, drewN_below _ _⟩
set_option maxHeartbeats 1000000 in
theorem pairC_u16 (op t a b : Int) (h3 : 3 ≤ op) (h8 : op ≤ 8) (_ha1 : -9223372036854775808 ≤ a) (_ha2 : a ≤ 9223372036854775807) (_hb1 : -9223372036854775808 ≤ b) (_hb2 : b ≤ 9223372036854775807) (w : World) :
    Calls Tryz.prog 58 #[.int .i64 op, .int .i64 t, .int .i64 a, .int .i64 b] w fun e w' => e = .returned (.tuple #[boolV (cmpB op (IntKind.u16.wrap a) (IntKind.u16.wrap b)), .nilIface]) ∧ Below w.heap.size w w' := by
  have HC : Hid (∀ W, Calls Tryz.prog 77 #[.int .i64 op, .int .u16 (IntKind.u16.wrap a), .int .u16 (IntKind.u16.wrap b)] W fun e w' => e = .returned (.bool (cmpB op (IntKind.u16.wrap a) (IntKind.u16.wrap b))) ∧ w' = W) := fun W => by
    have := cmp_u16 op (IntKind.u16.wrap a) (IntKind.u16.wrap b) h3 h8 W
    rwa [show IntKind.u16.wrap a = (IntKind.u16.wrap a) from rfl, show IntKind.u16.wrap b = (IntKind.u16.wrap b) from rfl] at this ⊢
  generalize cmpB op (IntKind.u16.wrap a) (IntKind.u16.wrap b) = R at *
  have HR : Hid (∃ z : Int, boolV R = val 1 z wNone) := ⟨_, rfl⟩
  have HO := hid (ofBool_any R)
  obtain ⟨z, hz⟩ := HR.out
  rw [hz] at HO ⊢
  clear hz HR
  go_enter Tryz.func58, Tryz.ntmps58
  go_wp2_with fail
  refine (HC.out _).mono ?_
  rintro e w' ⟨rfl, hw⟩
  have hw2 := hw.symm
  clear hw
  subst hw2
  go_wp2_with fail
  refine (HO.out _).mono ?_
  rintro e w1 ⟨rfl, hb1⟩
  have HB1 := hid (box_next (Below.refl _ _) hb1)
  obtain ⟨x0, x1, x2, y0, y1, y2⟩ := box_room HB1.out
  clear hb1
  go_wp2
  exact bodyPost_ret (v := .tuple #[val 1 z wNone, .nilIface]) (by simp [results, Tryz.results58, go_sem, x0, x1, x2]) rfl ⟨rfl, set3 (box_below HB1.out) _ _ _⟩
set_option maxHeartbeats 1000000 in
theorem pairN_u16 (op t a b : Int) (h9 : 9 ≤ op) (h18 : op ≤ 18) (_ha1 : -9223372036854775808 ≤ a) (_ha2 : a ≤ 9223372036854775807) (_hb1 : -9223372036854775808 ≤ b) (_hb2 : b ≤ 9223372036854775807) (hz : op = 14 ∨ op = 15 → IntKind.u16.wrap b ≠ 0) (w : World) :
    Calls Tryz.prog 58 #[.int .i64 op, .int .i64 t, .int .i64 a, .int .i64 b] w fun e w' => e = .returned (.tuple #[val t (IntKind.i64.wrap (cntK .u16 op (IntKind.u16.wrap a) (IntKind.u16.wrap b))) wNone, .nilIface]) ∧ Below w.heap.size w w' := by
  have HC : Hid (∀ W, Calls Tryz.prog 78 #[.int .i64 op, .int .u16 (IntKind.u16.wrap a), .int .u16 (IntKind.u16.wrap b)] W fun e w' => e = .returned (.tuple #[.int .u16 (cntK .u16 op (IntKind.u16.wrap a) (IntKind.u16.wrap b)), .nilIface]) ∧ w' = W) := fun W => by
    have := counted_u16 op (IntKind.u16.wrap a) (IntKind.u16.wrap b) h9 h18 (wr_u16 a) (wr_u16 b) hz W
    rwa [show IntKind.u16.wrap a = (IntKind.u16.wrap a) from rfl, show IntKind.u16.wrap b = (IntKind.u16.wrap b) from rfl] at this ⊢
  clear hz
  generalize cntK .u16 op (IntKind.u16.wrap a) (IntKind.u16.wrap b) = R at *
  go_enter Tryz.func58, Tryz.ntmps58
  go_wp2_with fail
  refine (HC.out _).mono ?_
  rintro e w' ⟨rfl, hw⟩
  have hw2 := hw.symm
  clear hw
  subst hw2
  go_wp2
  exact bodyPost_ret (v := .tuple #[val t (IntKind.i64.wrap R) wNone, .nilIface]) (by simp [results, Tryz.results58, go_sem, IntWalk.i64_left]) rfl ⟨rfl, alloc_below _ _⟩
set_option maxHeartbeats 1000000 in
theorem pairZ_u16 (op t a b : Int) (ho : op = 14 ∨ op = 15) (_ha1 : -9223372036854775808 ≤ a) (_ha2 : a ≤ 9223372036854775807) (_hb1 : -9223372036854775808 ≤ b) (_hb2 : b ≤ 9223372036854775807) (hz : IntKind.u16.wrap b = 0) (p : Addr) (x : ByteArray) (w : World) (he : ErrAt w 6 p x) :
    Calls Tryz.prog 58 #[.int .i64 op, .int .i64 t, .int .i64 a, .int .i64 b] w fun e w' => e = .returned (.tuple #[val t 0 wNone, errV p]) ∧ Below w.heap.size w w' := by
  have HC : Hid (∀ W, Below w.heap.size w W → Calls Tryz.prog 78 #[.int .i64 op, .int .u16 (IntKind.u16.wrap a), .int .u16 (IntKind.u16.wrap b)] W fun e w' => e = .returned (.tuple #[.int .u16 0, errV p]) ∧ Below W.heap.size W w') := fun W hW => by
    have := zero_u16 op (IntKind.u16.wrap a) ho p W (he.next hW).glob
    rw [← hz] at this
    rw [show IntKind.u16.wrap b = (IntKind.u16.wrap b) from rfl, show IntKind.u16.wrap a = (IntKind.u16.wrap a) from rfl] at this
    rw [show (IntKind.u16.wrap b) = 0 from (show IntKind.u16.wrap b = (IntKind.u16.wrap b) from rfl).symm.trans hz] at this ⊢
    exact this
  have h9 : 9 ≤ op := by omega
  clear hz he ho
  go_enter Tryz.func58, Tryz.ntmps58
  go_wp2_with fail
  refine (HC.out _ (alloc_below _ _)).mono ?_
  rintro e w1 ⟨rfl, hb1⟩
  have HB1 := hid (box_next (Below.refl _ _) hb1)
  obtain ⟨x0, x1, x2, y0, y1, y2⟩ := box_room HB1.out
  clear hb1
  go_wp2
  exact bodyPost_ret (v := .tuple #[val t 0 wNone, errV p]) (by simp [results, Tryz.results58, go_sem, x0, x1, x2]) rfl ⟨rfl, set3 (box_below HB1.out) _ _ _⟩
end Go.Proofs.YtabefhpgeaihgaaGreatDoor.V
