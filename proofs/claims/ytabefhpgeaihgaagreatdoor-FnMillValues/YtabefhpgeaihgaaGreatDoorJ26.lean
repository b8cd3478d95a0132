import Derived.Test.YtabefhpgeaihgaaGreatDoorJ12
import Derived.Test.YtabefhpgeaihgaaGreatDoorJ13
import Derived.Test.YtabefhpgeaihgaaGreatDoorJ16
/-! Printed by gen_vcnt.py. -/
namespace Go.Proofs.YtabefhpgeaihgaaGreatDoor.V
open Go.RowKit Go.Shelf
set_option maxRecDepth 20000
theorem wr_u8 (n : Int) : 0 ≤ IntKind.u8.wrap n ∧ IntKind.u8.wrap n ≤ 255 := by
  simp [IntKind.wrap, IntKind.bits, IntKind.signed] <;> omega
theorem counted_u8 (op a b : Int) (h9 : 9 ≤ op) (h18 : op ≤ 18) (ha : 0 ≤ a ∧ a ≤ 255) (hb : 0 ≤ b ∧ b ≤ 255) (hz : op = 14 ∨ op = 15 → b ≠ 0) (w : World) :
    Calls Tryz.prog 76 #[.int .i64 op, .int .u8 a, .int .u8 b] w fun e w' => e = .returned (.tuple #[.int .u8 (cntK .u8 op a b), .nilIface]) ∧ w' = w := by
  obtain ⟨h1, h2⟩ := ha
  obtain ⟨h3, h4⟩ := hb
  obtain rfl | rfl | rfl | rfl | rfl | rfl | rfl | rfl | rfl | rfl : op = 9 ∨ op = 10 ∨ op = 11 ∨ op = 12 ∨ op = 13 ∨ op = 14 ∨ op = 15 ∨ op = 16 ∨ op = 17 ∨ op = 18 := by omega
  · exact cnt_u8_add a b h1 h2 h3 h4 w
  · exact cnt_u8_sub a b h1 h2 h3 h4 w
  · exact cnt_u8_or a b h1 h2 h3 h4 w
  · exact cnt_u8_xor a b h1 h2 h3 h4 w
  · exact cnt_u8_mul a b h1 h2 h3 h4 w
  · exact cnt_u8_quo a b h1 h2 h3 h4 (hz (by decide)) w
  · exact cnt_u8_rem a b h1 h2 h3 h4 (hz (by decide)) w
  · exact cnt_u8_and a b h1 h2 h3 h4 w
  · exact cnt_u8_shl a b h1 h2 h3 h4 w
  · exact cnt_u8_shr a b h1 h2 h3 h4 w
set_option maxHeartbeats 1000000 in
theorem zero_u8 (op a : Int) (ho : op = 14 ∨ op = 15) (p : Addr) (w : World) (hg : w.cell? ⟨6, 0, none⟩ = some (errV p)) :
    Calls Tryz.prog 76 #[.int .i64 op, .int .u8 a, .int .u8 0] w fun e w' => e = .returned (.tuple #[.int .u8 0, errV p]) ∧ Below w.heap.size w w' := by
  obtain rfl | rfl := ho
  all_goals go_enter Tryz.func76, Tryz.ntmps76
  all_goals go_wp2
  all_goals go_quiet (fail)
  all_goals go_wp2
  all_goals exact bodyPost_ret (v := .tuple #[.int .u8 0, errV p]) (by simp [results, Tryz.results76, go_sem]) rfl ⟨rfl, drewN_below _ _⟩
set_option maxHeartbeats 1000000 in
theorem pairC_u8 (op t a b : Int) (h3 : 3 ≤ op) (h8 : op ≤ 8) (_ha1 : -9223372036854775808 ≤ a) (_ha2 : a ≤ 9223372036854775807) (_hb1 : -9223372036854775808 ≤ b) (_hb2 : b ≤ 9223372036854775807) (w : World) :
    Calls Tryz.prog 57 #[.int .i64 op, .int .i64 t, .int .i64 a, .int .i64 b] w fun e w' => e = .returned (.tuple #[boolV (cmpB op (IntKind.u8.wrap a) (IntKind.u8.wrap b)), .nilIface]) ∧ Below w.heap.size w w' := by
  have HC : Hid (∀ W, Calls Tryz.prog 75 #[.int .i64 op, .int .u8 (a % 256), .int .u8 (b % 256)] W fun e w' => e = .returned (.bool (cmpB op (IntKind.u8.wrap a) (IntKind.u8.wrap b))) ∧ w' = W) := fun W => by
    have := cmp_u8 op (IntKind.u8.wrap a) (IntKind.u8.wrap b) h3 h8 W
    rwa [show IntKind.u8.wrap a = (a % 256) from IntKind.wrap_u8 a, show IntKind.u8.wrap b = (b % 256) from IntKind.wrap_u8 b] at this ⊢
  generalize cmpB op (IntKind.u8.wrap a) (IntKind.u8.wrap b) = R at *
  have HR : Hid (∃ z : Int, boolV R = val 1 z wNone) := ⟨_, rfl⟩
  have HO := hid (ofBool_any R)
  obtain ⟨z, hz⟩ := HR.out
  rw [hz] at HO ⊢
  clear hz HR
  go_enter Tryz.func57, Tryz.ntmps57
  go_wp2_with fail
  refine (HC.out _).mono ?_
  rintro e w' ⟨rfl, hw⟩
  have hw2 := hw.symm
  clear hw
  subst hw2
  go_wp2_with fail
  refine (HO.out _).mono ?_
  rintro e w1 ⟨rfl, hb1⟩
  have HB1 := hid (box_next (Below.refl _ _) hb1)
  obtain ⟨x0, x1, x2, y0, y1, y2⟩ := box_room HB1.out
  clear hb1
  go_wp2
  exact bodyPost_ret (v := .tuple #[val 1 z wNone, .nilIface]) (by simp [results, Tryz.results57, go_sem, x0, x1, x2]) rfl ⟨rfl, set3 (box_below HB1.out) _ _ _⟩
set_option maxHeartbeats 1000000 in
theorem pairN_u8 (op t a b : Int) (h9 : 9 ≤ op) (h18 : op ≤ 18) (_ha1 : -9223372036854775808 ≤ a) (_ha2 : a ≤ 9223372036854775807) (_hb1 : -9223372036854775808 ≤ b) (_hb2 : b ≤ 9223372036854775807) (hz : op = 14 ∨ op = 15 → IntKind.u8.wrap b ≠ 0) (w : World) :
    Calls Tryz.prog 57 #[.int .i64 op, .int .i64 t, .int .i64 a, .int .i64 b] w fun e w' => e = .returned (.tuple #[val t (IntKind.i64.wrap (cntK .u8 op (IntKind.u8.wrap a) (IntKind.u8.wrap b))) wNone, .nilIface]) ∧ Below w.heap.size w w' := by
  have HC : Hid (∀ W, Calls Tryz.prog 76 #[.int .i64 op, .int .u8 (a % 256), .int .u8 (b % 256)] W fun e w' => e = .returned (.tuple #[.int .u8 (cntK .u8 op (IntKind.u8.wrap a) (IntKind.u8.wrap b)), .nilIface]) ∧ w' = W) := fun W => by
    have := counted_u8 op (IntKind.u8.wrap a) (IntKind.u8.wrap b) h9 h18 (wr_u8 a) (wr_u8 b) hz W
    rwa [show IntKind.u8.wrap a = (a % 256) from IntKind.wrap_u8 a, show IntKind.u8.wrap b = (b % 256) from IntKind.wrap_u8 b] at this ⊢
  clear hz
  generalize cntK .u8 op (IntKind.u8.wrap a) (IntKind.u8.wrap b) = R at *
  go_enter Tryz.func57, Tryz.ntmps57
  go_wp2_with fail
  refine (HC.out _).mono ?_
  rintro e w' ⟨rfl, hw⟩
  have hw2 := hw.symm
  clear hw
  subst hw2
  go_wp2
  exact bodyPost_ret (v := .tuple #[val t (IntKind.i64.wrap R) wNone, .nilIface]) (by simp [results, Tryz.results57, go_sem, IntWalk.i64_left]) rfl ⟨rfl, alloc_below _ _⟩
set_option maxHeartbeats 1000000 in
theorem pairZ_u8 (op t a b : Int) (ho : op = 14 ∨ op = 15) (_ha1 : -9223372036854775808 ≤ a) (_ha2 : a ≤ 9223372036854775807) (_hb1 : -9223372036854775808 ≤ b) (_hb2 : b ≤ 9223372036854775807) (hz : IntKind.u8.wrap b = 0) (p : Addr) (x : ByteArray) (w : World) (he : ErrAt w 6 p x) :
    Calls Tryz.prog 57 #[.int .i64 op, .int .i64 t, .int .i64 a, .int .i64 b] w fun e w' => e = .returned (.tuple #[val t 0 wNone, errV p]) ∧ Below w.heap.size w w' := by
  have HC : Hid (∀ W, Below w.heap.size w W → Calls Tryz.prog 76 #[.int .i64 op, .int .u8 (a % 256), .int .u8 (b % 256)] W fun e w' => e = .returned (.tuple #[.int .u8 0, errV p]) ∧ Below W.heap.size W w') := fun W hW => by
    have := zero_u8 op (IntKind.u8.wrap a) ho p W (he.next hW).glob
    rw [← hz] at this
    rw [show IntKind.u8.wrap b = (b % 256) from IntKind.wrap_u8 b, show IntKind.u8.wrap a = (a % 256) from IntKind.wrap_u8 a] at this
    rw [show (b % 256) = 0 from (show IntKind.u8.wrap b = (b % 256) from IntKind.wrap_u8 b).symm.trans hz] at this ⊢
    exact this
  have h9 : 9 ≤ op := by omega
  clear hz he ho
  go_enter Tryz.func57, Tryz.ntmps57
  go_wp2_with fail
  refine (HC.out _ (alloc_below _ _)).mono ?_
  rintro e w1 ⟨rfl, hb1⟩
  have HB1 := hid (box_next (Below.refl _ _) hb1)
  obtain ⟨x0, x1, x2, y0, y1, y2⟩ := box_room HB1.out
  clear hb1
  go_wp2
  exact bodyPost_ret (v := .tuple #[val t 0 wNone, errV p]) (by simp [results, Tryz.results57, go_sem, x0, x1, x2]) rfl ⟨rfl, set3 (box_below HB1.out) _ _ _⟩
end Go.Proofs.YtabefhpgeaihgaaGreatDoor.V
/-! What a mark with one kid gives. -/
namespace Go.Proofs.YtabefhpgeaihgaaGreatDoor.V
open Go.RowKit Go.Shelf
set_option maxRecDepth 20000
/-- What a mark with one kid gives. -/
def unT (op t : Int) : Int := if (op = 2 ∧ t = 1) ∨ (op ≠ 2 ∧ 3 ≤ t ∧ t ≤ 10) then t else 0
set_option maxHeartbeats 1000000 in
theorem unGives_any (op t : Int) (w : World) :
    Calls Tryz.prog 33 #[.int .i64 op, .int .i64 t] w fun e w' => e = .returned (.int .i64 (unT op t)) ∧ Below w.heap.size w w' := by
  by_cases h2 : op = 2
  · subst h2
    by_cases h1 : t = 1
    · subst h1
      go_enter Tryz.func33, Tryz.ntmps33
      go_wp2
      try (go_quiet (fail); go_wp2)
      go_ret
      exact ⟨rfl, by first | exact drewN_below _ _ | exact Below.refl _ _⟩
    · have HU : Hid (unT 2 t = 0) := by show _ = _; simp [unT, h1]
      go_enter Tryz.func33, Tryz.ntmps33
      go_wp2
      try (go_quiet (fail); go_wp2)
      go_ret
      exact ⟨ret_int (by rw [HU.out]), by first | exact drewN_below _ _ | exact Below.refl _ _⟩
  · by_cases h : 3 ≤ t ∧ t ≤ 10
    · have HU : Hid (unT op t = t) := by show _ = _; simp [unT, h2, h]
      obtain ⟨h3, h4⟩ := h
      go_enter Tryz.func33, Tryz.ntmps33
      go_wp2_with (first | (go_at_call 21; refine (millIsInteger_t t h3 h4 _).mono ?_; rintro e w' ⟨rfl, hw⟩; have hw2 := hw.symm; clear hw; subst hw2) | fail)
      go_ret
      exact ⟨ret_int (by rw [HU.out]), Below.refl _ _⟩
    · have HU : Hid (unT op t = 0) := by show _ = _; simp [unT, h2]; omega
      have HH := hid h
      clear h
      go_enter Tryz.func33, Tryz.ntmps33
      go_wp2_with (first | (go_at_call 21; refine (millIsInteger_f t HH.out _).mono ?_; rintro e w' ⟨rfl, hw⟩; have hw2 := hw.symm; clear hw; subst hw2) | fail)
      go_ret
      exact ⟨ret_int (by rw [HU.out]), Below.refl _ _⟩
end Go.Proofs.YtabefhpgeaihgaaGreatDoor.V
