import Derived.Shelf.Strings.OnBuilder
import Derived.Test.YtabefhpgeaihgaaGreatDoorJ13
import Derived.Test.YtabefhpgeaihgaaGreatDoorJ05
/-! strings.Join of two texts, by the shelf. -/
namespace Go.Proofs.YtabefhpgeaihgaaGreatDoor.V
open Go.RowKit Go.Shelf
set_option maxRecDepth 20000
def jo_ren : Go.Shelf.Ren := ⟨fun | 156 => 56 | 165 => 72 | 166 => 73 | 169 => 74 | 240 => 100 | 241 => 101 | 276 => 122 | 277 => 123 | n => n, fun | 0 => 0 | 3 => 3 | 4 => 4 | 5 => 5 | 9 => 9 | 20 => 20 | 31 => 77 | 37 => 22 | 70 => 90 | 72 => 92 | 75 => 47 | 76 => 94 | 80 => 57 | 127 => 124 | 164 => 147 | n => n, fun  | n => n⟩
theorem jo_lays : Go.Proofs.Lays.n156 Tryz.prog jo_ren where
  mixed := by kernel_rfl
  f156 := Tryz.func56.trans (congrArg some (by kernel_rfl))
  f165 := Tryz.func72.trans (congrArg some (by kernel_rfl))
  f166 := Tryz.func73.trans (congrArg some (by kernel_rfl))
  f169 := Tryz.func74.trans (congrArg some (by kernel_rfl))
  f240 := Tryz.func100.trans (congrArg some (by kernel_rfl))
  f241 := Tryz.func101.trans (congrArg some (by kernel_rfl))
  f276 := Tryz.func122.trans (congrArg some (by kernel_rfl))
  f277 := Tryz.func123.trans (congrArg some (by kernel_rfl))
  t0 := Tryz.underlying0
  a0 := Tryz.isAgg0
  z0 := Tryz.sizeOf0
  v0 := Tryz.zeroValue0
  t3 := Tryz.underlying3
  a3 := Tryz.isAgg3
  z3 := Tryz.sizeOf3
  v3 := Tryz.zeroValue3
  t4 := Tryz.underlying4
  a4 := Tryz.isAgg4
  z4 := Tryz.sizeOf4
  v4 := Tryz.zeroValue4
  t9 := Tryz.underlying9
  a9 := Tryz.isAgg9
  z9 := Tryz.sizeOf9
  v9 := Tryz.zeroValue9
  t20 := Tryz.underlying20
  a20 := Tryz.isAgg20
  z20 := Tryz.sizeOf20
  v20 := Tryz.zeroValue20
  t31 := Tryz.underlying77
  a31 := Tryz.isAgg77
  z31 := Tryz.sizeOf77
  v31 := Tryz.zeroValue77
  t37 := Tryz.underlying22
  a37 := Tryz.isAgg22
  z37 := Tryz.sizeOf22
  v37 := Tryz.zeroValue22
  t70 := Tryz.underlying90
  a70 := Tryz.isAgg90
  z70 := Tryz.sizeOf90
  v70 := Tryz.zeroValue90
  t72 := Tryz.underlying92
  a72 := Tryz.isAgg92
  z72 := Tryz.sizeOf92
  v72 := Tryz.zeroValue92
  t75 := Tryz.underlying47
  a75 := Tryz.isAgg47
  z75 := Tryz.sizeOf47
  v75 := Tryz.zeroValue47
  t76 := Tryz.underlying94
  a76 := Tryz.isAgg94
  z76 := Tryz.sizeOf94
  v76 := Tryz.zeroValue94
  t127 := Tryz.underlying124
  a127 := Tryz.isAgg124
  z127 := Tryz.sizeOf124
  v127 := Tryz.zeroValue124
  t164 := Tryz.underlying147
  a164 := Tryz.isAgg147
  z164 := Tryz.sizeOf147
  v164 := Tryz.zeroValue147
theorem jo_extra : Go.Proofs.Builder.Extra Tryz.prog jo_ren where
  sizeBuilder := by kernel_rfl
  liesBuilder := by kernel_rfl
  t5 := Tryz.underlying5
  a5 := Tryz.isAgg5
  z5 := Tryz.sizeOf5
  v5 := Tryz.zeroValue5
  infoByte := by kernel_rfl
  cellsByte := by kernel_rfl
  sizeByte := by kernel_rfl
  neB5 := by decide
theorem join_any (g : Nat) (a b : ByteArray) (w : World) (h0 : w.cell? ⟨g, 0, none⟩ = some (.string a)) (h1 : w.cell? ⟨g, 1, none⟩ = some (.string b)) (hg : g < w.heap.size) (hs : a.size + b.size ≤ 3000) :
    Calls Tryz.prog 56 #[.slice (some ⟨g, 0, none⟩) 2 2, .string ⟨#[]⟩] w fun e w' => e = .returned (.string (a ++ b)) ∧ Below w.heap.size w w' := by
  have hl : Lib.join ([a, b].map (·.data.toList)) (⟨#[]⟩ : ByteArray).data.toList = a.data.toList ++ b.data.toList := by simp [Lib.join]
  have hn : (a.data.toList ++ b.data.toList).length ≤ 140737488355328 := by
    rw [List.length_append]
    have e1 : a.data.toList.length = a.size := by simp
    have e2 : b.data.toList.length = b.size := by simp
    omega
  have := Go.Proofs.Any.strings_Join jo_lays jo_extra g 0 2 [a, b] ⟨#[]⟩ w (fun j x hx => by
    match j, hx with
    | 0, hx => cases hx; exact h0
    | 1, hx => cases hx; exact h1) hg (by simp) (by simp) (by rw [hl]; exact hn)
  rw [hl] at this
  refine this.mono ?_
  rintro e w' ⟨rfl, hb⟩
  refine ⟨?_, hb⟩
  have e : (⟨(a.data.toList ++ b.data.toList).toArray⟩ : ByteArray) = a ++ b := by
    apply ByteArray.ext
    simp
  rw [e]
end Go.Proofs.YtabefhpgeaihgaaGreatDoor.V
/-! Printed by gen_vcnt.py. -/
namespace Go.Proofs.YtabefhpgeaihgaaGreatDoor.V
open Go.RowKit Go.Shelf
set_option maxRecDepth 20000
theorem wr_i16 (n : Int) : -32768 ≤ IntKind.i16.wrap n ∧ IntKind.i16.wrap n ≤ 32767 := by
  simp [IntKind.wrap, IntKind.bits, IntKind.signed] <;> omega
theorem counted_i16 (op a b : Int) (h9 : 9 ≤ op) (h18 : op ≤ 18) (ha : -32768 ≤ a ∧ a ≤ 32767) (hb : -32768 ≤ b ∧ b ≤ 32767) (hz : op = 14 ∨ op = 15 → b ≠ 0) (w : World) :
    Calls Tryz.prog 86 #[.int .i64 op, .int .i16 a, .int .i16 b] w fun e w' => e = .returned (.tuple #[.int .i16 (cntK .i16 op a b), .nilIface]) ∧ w' = w := by
  obtain ⟨h1, h2⟩ := ha
  obtain ⟨h3, h4⟩ := hb
  obtain rfl | rfl | rfl | rfl | rfl | rfl | rfl | rfl | rfl | rfl : op = 9 ∨ op = 10 ∨ op = 11 ∨ op = 12 ∨ op = 13 ∨ op = 14 ∨ op = 15 ∨ op = 16 ∨ op = 17 ∨ op = 18 := by omega
  · exact cnt_i16_add a b h1 h2 h3 h4 w
  · exact cnt_i16_sub a b h1 h2 h3 h4 w
  · exact cnt_i16_or a b h1 h2 h3 h4 w
  · exact cnt_i16_xor a b h1 h2 h3 h4 w
  · exact cnt_i16_mul a b h1 h2 h3 h4 w
  · exact cnt_i16_quo a b h1 h2 h3 h4 (hz (by decide)) w
  · exact cnt_i16_rem a b h1 h2 h3 h4 (hz (by decide)) w
  · exact cnt_i16_and a b h1 h2 h3 h4 w
  · exact cnt_i16_shl a b h1 h2 h3 h4 w
  · exact cnt_i16_shr a b h1 h2 h3 h4 w
set_option maxHeartbeats 1000000 in
theorem zero_i16 (op a : Int) (ho : op = 14 ∨ op = 15) (p : Addr) (w : World) (hg : w.cell? ⟨6, 0, none⟩ = some (errV p)) :
    Calls Tryz.prog 86 #[.int .i64 op, .int .i16 a, .int .i16 0] w fun e w' => e = .returned (.tuple #[.int .i16 0, errV p]) ∧ Below w.heap.size w w' := by
  obtain rfl | rfl := ho
  all_goals go_enter Tryz.func86, Tryz.ntmps86
  all_goals go_wp2
  all_goals go_quiet (fail)
  all_goals go_wp2
  all_goals exact bodyPost_ret (v := .tuple #[.int .i16 0, errV p]) (by simp [results, Tryz.results86, go_sem]) rfl ⟨rfl, drewN_below _ _⟩
set_option maxHeartbeats 1000000 in
theorem pairC_i16 (op t a b : Int) (h3 : 3 ≤ op) (h8 : op ≤ 8) (_ha1 : -9223372036854775808 ≤ a) (_ha2 : a ≤ 9223372036854775807) (_hb1 : -9223372036854775808 ≤ b) (_hb2 : b ≤ 9223372036854775807) (w : World) :
    Calls Tryz.prog 62 #[.int .i64 op, .int .i64 t, .int .i64 a, .int .i64 b] w fun e w' => e = .returned (.tuple #[boolV (cmpB op (IntKind.i16.wrap a) (IntKind.i16.wrap b)), .nilIface]) ∧ Below w.heap.size w w' := by
  have HC : Hid (∀ W, Calls Tryz.prog 85 #[.int .i64 op, .int .i16 (IntKind.i16.wrap a), .int .i16 (IntKind.i16.wrap b)] W fun e w' => e = .returned (.bool (cmpB op (IntKind.i16.wrap a) (IntKind.i16.wrap b))) ∧ w' = W) := fun W => by
    have := cmp_i16 op (IntKind.i16.wrap a) (IntKind.i16.wrap b) h3 h8 W
    rwa [show IntKind.i16.wrap a = (IntKind.i16.wrap a) from rfl, show IntKind.i16.wrap b = (IntKind.i16.wrap b) from rfl] at this ⊢
  generalize cmpB op (IntKind.i16.wrap a) (IntKind.i16.wrap b) = R at *
  have HR : Hid (∃ z : Int, boolV R = val 1 z wNone) := ⟨_, rfl⟩
  have HO := hid (ofBool_any R)
  obtain ⟨z, hz⟩ := HR.out
  rw [hz] at HO ⊢
  clear hz HR
  go_enter Tryz.func62, Tryz.ntmps62
  go_wp2_with fail
  refine (HC.out _).mono ?_
  rintro e w' ⟨rfl, hw⟩
  have hw2 := hw.symm
  clear hw
  subst hw2
  go_wp2_with fail
  refine (HO.out _).mono ?_
  rintro e w1 ⟨rfl, hb1⟩
  have HB1 := hid (box_next (Below.refl _ _) hb1)
  obtain ⟨x0, x1, x2, y0, y1, y2⟩ := box_room HB1.out
  clear hb1
  go_wp2
  exact bodyPost_ret (v := .tuple #[val 1 z wNone, .nilIface]) (by simp [results, Tryz.results62, go_sem, x0, x1, x2]) rfl ⟨rfl, set3 (box_below HB1.out) _ _ _⟩
set_option maxHeartbeats 1000000 in
theorem pairN_i16 (op t a b : Int) (h9 : 9 ≤ op) (h18 : op ≤ 18) (_ha1 : -9223372036854775808 ≤ a) (_ha2 : a ≤ 9223372036854775807) (_hb1 : -9223372036854775808 ≤ b) (_hb2 : b ≤ 9223372036854775807) (hz : op = 14 ∨ op = 15 → IntKind.i16.wrap b ≠ 0) (w : World) :
    Calls Tryz.prog 62 #[.int .i64 op, .int .i64 t, .int .i64 a, .int .i64 b] w fun e w' => e = .returned (.tuple #[val t (IntKind.i64.wrap (cntK .i16 op (IntKind.i16.wrap a) (IntKind.i16.wrap b))) wNone, .nilIface]) ∧ Below w.heap.size w w' := by
  have HC : Hid (∀ W, Calls Tryz.prog 86 #[.int .i64 op, .int .i16 (IntKind.i16.wrap a), .int .i16 (IntKind.i16.wrap b)] W fun e w' => e = .returned (.tuple #[.int .i16 (cntK .i16 op (IntKind.i16.wrap a) (IntKind.i16.wrap b)), .nilIface]) ∧ w' = W) := fun W => by
    have := counted_i16 op (IntKind.i16.wrap a) (IntKind.i16.wrap b) h9 h18 (wr_i16 a) (wr_i16 b) hz W
    rwa [show IntKind.i16.wrap a = (IntKind.i16.wrap a) from rfl, show IntKind.i16.wrap b = (IntKind.i16.wrap b) from rfl] at this ⊢
  clear hz
  generalize cntK .i16 op (IntKind.i16.wrap a) (IntKind.i16.wrap b) = R at *
  go_enter Tryz.func62, Tryz.ntmps62
  go_wp2_with fail
  refine (HC.out _).mono ?_
  rintro e w' ⟨rfl, hw⟩
  have hw2 := hw.symm
  clear hw
  subst hw2
  go_wp2
  exact bodyPost_ret (v := .tuple #[val t (IntKind.i64.wrap R) wNone, .nilIface]) (by simp [results, Tryz.results62, go_sem, IntWalk.i64_left]) rfl ⟨rfl, alloc_below _ _⟩
set_option maxHeartbeats 1000000 in
theorem pairZ_i16 (op t a b : Int) (ho : op = 14 ∨ op = 15) (_ha1 : -9223372036854775808 ≤ a) (_ha2 : a ≤ 9223372036854775807) (_hb1 : -9223372036854775808 ≤ b) (_hb2 : b ≤ 9223372036854775807) (hz : IntKind.i16.wrap b = 0) (p : Addr) (x : ByteArray) (w : World) (he : ErrAt w 6 p x) :
    Calls Tryz.prog 62 #[.int .i64 op, .int .i64 t, .int .i64 a, .int .i64 b] w fun e w' => e = .returned (.tuple #[val t 0 wNone, errV p]) ∧ Below w.heap.size w w' := by
  have HC : Hid (∀ W, Below w.heap.size w W → Calls Tryz.prog 86 #[.int .i64 op, .int .i16 (IntKind.i16.wrap a), .int .i16 (IntKind.i16.wrap b)] W fun e w' => e = .returned (.tuple #[.int .i16 0, errV p]) ∧ Below W.heap.size W w') := fun W hW => by
    have := zero_i16 op (IntKind.i16.wrap a) ho p W (he.next hW).glob
    rw [← hz] at this
    rw [show IntKind.i16.wrap b = (IntKind.i16.wrap b) from rfl, show IntKind.i16.wrap a = (IntKind.i16.wrap a) from rfl] at this
    rw [show (IntKind.i16.wrap b) = 0 from (show IntKind.i16.wrap b = (IntKind.i16.wrap b) from rfl).symm.trans hz] at this ⊢
    exact this
  have h9 : 9 ≤ op := by omega
  clear hz he ho
  go_enter Tryz.func62, Tryz.ntmps62
  go_wp2_with fail
  refine (HC.out _ (alloc_below _ _)).mono ?_
  rintro e w1 ⟨rfl, hb1⟩
  have HB1 := hid (box_next (Below.refl _ _) hb1)
  obtain ⟨x0, x1, x2, y0, y1, y2⟩ := box_room HB1.out
  clear hb1
  go_wp2
  exact bodyPost_ret (v := .tuple #[val t 0 wNone, errV p]) (by simp [results, Tryz.results62, go_sem, x0, x1, x2]) rfl ⟨rfl, set3 (box_below HB1.out) _ _ _⟩
end Go.Proofs.YtabefhpgeaihgaaGreatDoor.V
