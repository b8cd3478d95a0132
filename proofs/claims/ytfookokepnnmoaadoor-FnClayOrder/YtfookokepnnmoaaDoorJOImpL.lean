import Derived.Test.YtfookokepnnmoaaDoorJOFunT
import Derived.Test.YtfookokepnnmoaaDoorJOFunF
import Derived.Test.YtfookokepnnmoaaDoorJITof
namespace Go.Proofs.YtfookokepnnmoaaDoor
open Go.RowKit
set_option maxRecDepth 20000
/-! The tests of a thing's type, as closed facts. -/
theorem tnTextNone (W : World) : (Instr.typeAssert (.iface 99 (.agg #[])) 45 65 true).run Tryd.prog W = .ok (.tuple #[.string ⟨#[]⟩, .bool false]) W := by kernel_rfl
theorem tnTextBool (b : Bool) (W : World) : (Instr.typeAssert (.iface 100 (.bool b)) 45 65 true).run Tryd.prog W = .ok (.tuple #[.string ⟨#[]⟩, .bool false]) W := by kernel_rfl
theorem tnTextInt (n : Int) (W : World) : (Instr.typeAssert (.iface 101 (.int .i64 n)) 45 65 true).run Tryd.prog W = .ok (.tuple #[.string ⟨#[]⟩, .bool false]) W := by kernel_rfl
theorem ttText (s : ByteArray) (W : World) : (Instr.typeAssert (.iface 65 (.string s)) 45 65 true).run Tryd.prog W = .ok (.tuple #[.string s, .bool true]) W := by kernel_rfl
theorem tfText (s : ByteArray) (W : World) : (Instr.typeAssert (.iface 65 (.string s)) 45 65 false).run Tryd.prog W = .ok (.string s) W := by kernel_rfl
theorem tnTextList (a b : Int) (ad : Option Addr) (m c : Nat) (W : World) : (Instr.typeAssert (.iface 70 (.agg #[.int .i64 a, .int .i64 b, .slice ad m c])) 45 65 true).run Tryd.prog W = .ok (.tuple #[.string ⟨#[]⟩, .bool false]) W := by kernel_rfl
theorem tnTextRec (a b : Int) (ad : Option Addr) (m c : Nat) (W : World) : (Instr.typeAssert (.iface 74 (.agg #[.int .i64 a, .int .i64 b, .slice ad m c])) 45 65 true).run Tryd.prog W = .ok (.tuple #[.string ⟨#[]⟩, .bool false]) W := by kernel_rfl
theorem tnListNone (W : World) : (Instr.typeAssert (.iface 99 (.agg #[])) 45 70 true).run Tryd.prog W = .ok (.tuple #[.agg #[.int .i64 0, .int .i64 0, .slice none 0 0], .bool false]) W := by kernel_rfl
theorem tnListBool (b : Bool) (W : World) : (Instr.typeAssert (.iface 100 (.bool b)) 45 70 true).run Tryd.prog W = .ok (.tuple #[.agg #[.int .i64 0, .int .i64 0, .slice none 0 0], .bool false]) W := by kernel_rfl
theorem tnListInt (n : Int) (W : World) : (Instr.typeAssert (.iface 101 (.int .i64 n)) 45 70 true).run Tryd.prog W = .ok (.tuple #[.agg #[.int .i64 0, .int .i64 0, .slice none 0 0], .bool false]) W := by kernel_rfl
theorem tnListText (s : ByteArray) (W : World) : (Instr.typeAssert (.iface 65 (.string s)) 45 70 true).run Tryd.prog W = .ok (.tuple #[.agg #[.int .i64 0, .int .i64 0, .slice none 0 0], .bool false]) W := by kernel_rfl
theorem ttList (a b : Int) (ad : Option Addr) (m c : Nat) (W : World) : (Instr.typeAssert (.iface 70 (.agg #[.int .i64 a, .int .i64 b, .slice ad m c])) 45 70 true).run Tryd.prog W = .ok (.tuple #[.agg #[.int .i64 a, .int .i64 b, .slice ad m c], .bool true]) W := by kernel_rfl
theorem tfList (a b : Int) (ad : Option Addr) (m c : Nat) (W : World) : (Instr.typeAssert (.iface 70 (.agg #[.int .i64 a, .int .i64 b, .slice ad m c])) 45 70 false).run Tryd.prog W = .ok (.agg #[.int .i64 a, .int .i64 b, .slice ad m c]) W := by kernel_rfl
theorem tnListRec (a b : Int) (ad : Option Addr) (m c : Nat) (W : World) : (Instr.typeAssert (.iface 74 (.agg #[.int .i64 a, .int .i64 b, .slice ad m c])) 45 70 true).run Tryd.prog W = .ok (.tuple #[.agg #[.int .i64 0, .int .i64 0, .slice none 0 0], .bool false]) W := by kernel_rfl
theorem tnRecNone (W : World) : (Instr.typeAssert (.iface 99 (.agg #[])) 45 74 true).run Tryd.prog W = .ok (.tuple #[.agg #[.int .i64 0, .int .i64 0, .slice none 0 0], .bool false]) W := by kernel_rfl
theorem tnRecBool (b : Bool) (W : World) : (Instr.typeAssert (.iface 100 (.bool b)) 45 74 true).run Tryd.prog W = .ok (.tuple #[.agg #[.int .i64 0, .int .i64 0, .slice none 0 0], .bool false]) W := by kernel_rfl
theorem tnRecInt (n : Int) (W : World) : (Instr.typeAssert (.iface 101 (.int .i64 n)) 45 74 true).run Tryd.prog W = .ok (.tuple #[.agg #[.int .i64 0, .int .i64 0, .slice none 0 0], .bool false]) W := by kernel_rfl
theorem tnRecText (s : ByteArray) (W : World) : (Instr.typeAssert (.iface 65 (.string s)) 45 74 true).run Tryd.prog W = .ok (.tuple #[.agg #[.int .i64 0, .int .i64 0, .slice none 0 0], .bool false]) W := by kernel_rfl
theorem tnRecList (a b : Int) (ad : Option Addr) (m c : Nat) (W : World) : (Instr.typeAssert (.iface 70 (.agg #[.int .i64 a, .int .i64 b, .slice ad m c])) 45 74 true).run Tryd.prog W = .ok (.tuple #[.agg #[.int .i64 0, .int .i64 0, .slice none 0 0], .bool false]) W := by kernel_rfl
theorem ttRec (a b : Int) (ad : Option Addr) (m c : Nat) (W : World) : (Instr.typeAssert (.iface 74 (.agg #[.int .i64 a, .int .i64 b, .slice ad m c])) 45 74 true).run Tryd.prog W = .ok (.tuple #[.agg #[.int .i64 a, .int .i64 b, .slice ad m c], .bool true]) W := by kernel_rfl
theorem tfRec (a b : Int) (ad : Option Addr) (m c : Nat) (W : World) : (Instr.typeAssert (.iface 74 (.agg #[.int .i64 a, .int .i64 b, .slice ad m c])) 45 74 false).run Tryd.prog W = .ok (.agg #[.int .i64 a, .int .i64 b, .slice ad m c]) W := by kernel_rfl
theorem fldKind (k n d : Int) (s : ByteArray) (w : World) : (Instr.field 51 (.agg #[.int .i64 k, .int .i64 n, .string s, .int .i64 d]) 0).run Tryd.prog w = .ok (.int .i64 k) w := by kernel_rfl
theorem fldNum (k n d : Int) (s : ByteArray) (w : World) : (Instr.field 51 (.agg #[.int .i64 k, .int .i64 n, .string s, .int .i64 d]) 1).run Tryd.prog w = .ok (.int .i64 n) w := by kernel_rfl
theorem fldItems (a b : Int) (ad : Option Addr) (m c : Nat) (w : World) : (Instr.field 70 (.agg #[.int .i64 a, .int .i64 b, .slice ad m c]) 1).run Tryd.prog w = .ok (.slice ad m c) w := by kernel_rfl
theorem fldFields (a b : Int) (ad : Option Addr) (m c : Nat) (w : World) : (Instr.field 74 (.agg #[.int .i64 a, .int .i64 b, .slice ad m c]) 1).run Tryd.prog w = .ok (.slice ad m c) w := by kernel_rfl
theorem cmpSame_any (k : Int) (w : World) : Calls Tryd.prog 32 #[.int .i64 k, .int .i64 k] w fun e w' => e = .returned (.int .i64 0) ∧ w' = w := by
  have h := cmpInt_any k k w
  unfold cmpI at h
  rw [if_neg (by omega), if_pos rfl] at h
  exact h
theorem cmpI_ne {a b : Int} (h : ¬ a = b) : (cmpI a b != 0) = true := by
  unfold cmpI; split <;> simp_all
set_option maxHeartbeats 2000000 in
theorem order_diff (a a' : At) (v v' : Value) (w : World) (h : AtomM a v) (h' : AtomM a' v') (hk : ¬ a.kind = a'.kind) :
    Calls Tryd.prog 20 #[v, v'] w fun e w' => e = .returned (.int .i64 (cmpI a.kind a'.kind)) ∧ Below w.heap.size w w' := by
  obtain ⟨T, x, f, rv, rfl, m1, m2, m3⟩ := h
  obtain ⟨T', x', f', rv', rfl, n1, n2, n3⟩ := h'
  have M3 := hid m3
  have N3 := hid n3
  have hne := cmpI_ne hk
  have HS := hid (cmpInt_any a.kind a'.kind)
  generalize cmpI a.kind a'.kind = c at HS hne ⊢
  have g1 := fldKind a.kind a.n a.kids a.text
  have g2 := fldKind a'.kind a'.n a'.kids a'.text
  clear m3 n3 hk
  go_enter Tryd.func20, Tryd.ntmps20
  go_wp2_with fail
  refine (M3.out _).mono ?_
  rintro e w1 ⟨rfl, hb1⟩
  have HB1 := hid hb1
  clear hb1
  go_wp2_with fail
  refine (N3.out _).mono ?_
  rintro e w2 ⟨rfl, hb2⟩
  have HB2 := hid (HB1.out.trans (hb2.mono HB1.out.size))
  clear hb2
  go_wp2_with fail
  refine (HS.out _).mono ?_
  rintro e w3 ⟨rfl, hw⟩
  have hw2 := hw.symm
  clear hw
  subst hw2
  go_wp2
  go_ret
  exact ⟨rfl, HB2.out⟩
set_option maxHeartbeats 4000000 in
theorem order_none (w : World) :
    Calls Tryd.prog 20 #[.iface 99 (.agg #[]), .iface 99 (.agg #[])] w fun e w' => e = .returned (.int .i64 (cmpI 0 0)) ∧ Below w.heap.size w w' := by
  obtain ⟨T, x, f, rv, hv, m1, m2, m3⟩ := aNone
  cases hv
  dsimp only at m3
  have M3 := hid m3
  have N3 := hid m3
  clear m3
  have g1 := fldKind 1 0 0 ⟨#[]⟩
  have g2 := fldKind 1 0 0 ⟨#[]⟩
  have g3 := fldNum 1 0 0 ⟨#[]⟩
  have g4 := fldNum 1 0 0 ⟨#[]⟩
  have t1 := tnTextNone
  have t2 := tnListNone
  have t3 := tnRecNone
  go_enter Tryd.func20, Tryd.ntmps20
  go_wp2_with fail
  refine (M3.out _).mono ?_
  rintro e w1 ⟨rfl, hb1⟩
  have HB1 := hid hb1
  clear hb1
  go_wp2_with fail
  refine (N3.out _).mono ?_
  rintro e w2 ⟨rfl, hb2⟩
  have HB2 := hid (HB1.out.trans (hb2.mono HB1.out.size))
  clear hb2
  go_wp2_with fail
  refine (cmpSame_any _ _).mono ?_
  rintro e w3 ⟨rfl, hw⟩
  have hw2 := hw.symm
  clear hw
  subst hw2
  go_wp2_with fail
  refine (M3.out _).mono ?_
  rintro e w3 ⟨rfl, hb3⟩
  have HB3 := hid (HB2.out.trans (hb3.mono HB2.out.size))
  clear hb3
  go_wp2_with fail
  refine (N3.out _).mono ?_
  rintro e w4 ⟨rfl, hb4⟩
  have HB4 := hid (HB3.out.trans (hb4.mono HB3.out.size))
  clear hb4
  go_wp2_with fail
  refine (cmpInt64_any _ _ _).mono ?_
  rintro e w5 ⟨rfl, hw⟩
  have hw2 := hw.symm
  clear hw
  subst hw2
  go_wp2
  go_ret
  exact ⟨rfl, HB4.out⟩
set_option maxHeartbeats 4000000 in
theorem order_bool (b b2 : Bool) (nb nb2 : Int) (w : World) (hA : AtomM ⟨2, nb, ⟨#[]⟩, 0⟩ (.iface 100 (.bool b))) (hA2 : AtomM ⟨2, nb2, ⟨#[]⟩, 0⟩ (.iface 100 (.bool b2))) :
    Calls Tryd.prog 20 #[.iface 100 (.bool b), .iface 100 (.bool b2)] w fun e w' => e = .returned (.int .i64 (cmpI nb nb2)) ∧ Below w.heap.size w w' := by
  obtain ⟨T, x, f, rv, hv, m1, m2, m3⟩ := hA
  cases hv
  obtain ⟨T', x', f', rv', hv', n1, n2, n3⟩ := hA2
  cases hv'
  dsimp only at m3 n3
  have M3 := hid m3
  have N3 := hid n3
  clear m3 n3
  have g1 := fldKind 2 nb 0 ⟨#[]⟩
  have g2 := fldKind 2 nb2 0 ⟨#[]⟩
  have g3 := fldNum 2 nb 0 ⟨#[]⟩
  have g4 := fldNum 2 nb2 0 ⟨#[]⟩
  have t1 := tnTextBool b
  have t2 := tnListBool b
  have t3 := tnRecBool b
  go_enter Tryd.func20, Tryd.ntmps20
  go_wp2_with fail
  refine (M3.out _).mono ?_
  rintro e w1 ⟨rfl, hb1⟩
  have HB1 := hid hb1
  clear hb1
  go_wp2_with fail
  refine (N3.out _).mono ?_
  rintro e w2 ⟨rfl, hb2⟩
  have HB2 := hid (HB1.out.trans (hb2.mono HB1.out.size))
  clear hb2
  go_wp2_with fail
  refine (cmpSame_any _ _).mono ?_
  rintro e w3 ⟨rfl, hw⟩
  have hw2 := hw.symm
  clear hw
  subst hw2
  go_wp2_with fail
  refine (M3.out _).mono ?_
  rintro e w3 ⟨rfl, hb3⟩
  have HB3 := hid (HB2.out.trans (hb3.mono HB2.out.size))
  clear hb3
  go_wp2_with fail
  refine (N3.out _).mono ?_
  rintro e w4 ⟨rfl, hb4⟩
  have HB4 := hid (HB3.out.trans (hb4.mono HB3.out.size))
  clear hb4
  go_wp2_with fail
  refine (cmpInt64_any _ _ _).mono ?_
  rintro e w5 ⟨rfl, hw⟩
  have hw2 := hw.symm
  clear hw
  subst hw2
  go_wp2
  go_ret
  exact ⟨rfl, HB4.out⟩
set_option maxHeartbeats 4000000 in
theorem order_int (n y : Int) (w : World) :
    Calls Tryd.prog 20 #[.iface 101 (.int .i64 n), .iface 101 (.int .i64 y)] w fun e w' => e = .returned (.int .i64 (cmpI n y)) ∧ Below w.heap.size w w' := by
  obtain ⟨T, x, f, rv, hv, m1, m2, m3⟩ := aInt n
  cases hv
  obtain ⟨T', x', f', rv', hv', n1, n2, n3⟩ := aInt y
  cases hv'
  dsimp only at m3 n3
  have M3 := hid m3
  have N3 := hid n3
  clear m3 n3
  have g1 := fldKind 3 n 0 ⟨#[]⟩
  have g2 := fldKind 3 y 0 ⟨#[]⟩
  have g3 := fldNum 3 n 0 ⟨#[]⟩
  have g4 := fldNum 3 y 0 ⟨#[]⟩
  have t1 := tnTextInt n
  have t2 := tnListInt n
  have t3 := tnRecInt n
  go_enter Tryd.func20, Tryd.ntmps20
  go_wp2_with fail
  refine (M3.out _).mono ?_
  rintro e w1 ⟨rfl, hb1⟩
  have HB1 := hid hb1
  clear hb1
  go_wp2_with fail
  refine (N3.out _).mono ?_
  rintro e w2 ⟨rfl, hb2⟩
  have HB2 := hid (HB1.out.trans (hb2.mono HB1.out.size))
  clear hb2
  go_wp2_with fail
  refine (cmpSame_any _ _).mono ?_
  rintro e w3 ⟨rfl, hw⟩
  have hw2 := hw.symm
  clear hw
  subst hw2
  go_wp2_with fail
  refine (M3.out _).mono ?_
  rintro e w3 ⟨rfl, hb3⟩
  have HB3 := hid (HB2.out.trans (hb3.mono HB2.out.size))
  clear hb3
  go_wp2_with fail
  refine (N3.out _).mono ?_
  rintro e w4 ⟨rfl, hb4⟩
  have HB4 := hid (HB3.out.trans (hb4.mono HB3.out.size))
  clear hb4
  go_wp2_with fail
  refine (cmpInt64_any _ _ _).mono ?_
  rintro e w5 ⟨rfl, hw⟩
  have hw2 := hw.symm
  clear hw
  subst hw2
  go_wp2
  go_ret
  exact ⟨rfl, HB4.out⟩
set_option maxHeartbeats 4000000 in
theorem order_text (s s2 : ByteArray) (w : World) :
    Calls Tryd.prog 20 #[.iface 65 (.string s), .iface 65 (.string s2)] w fun e w' => e = .returned (.int .i64 (cmpT s s2)) ∧ Below w.heap.size w w' := by
  obtain ⟨T, x, f, rv, hv, m1, m2, m3⟩ := aText s
  cases hv
  obtain ⟨T', x', f', rv', hv', n1, n2, n3⟩ := aText s2
  cases hv'
  dsimp only at m3 n3
  have M3 := hid m3
  have N3 := hid n3
  clear m3 n3
  have g1 := fldKind 4 0 0 s
  have g2 := fldKind 4 0 0 s2
  have g3 := fldNum 4 0 0 s
  have g4 := fldNum 4 0 0 s2
  have t1 := ttText s
  have t2 := tfText s2
  go_enter Tryd.func20, Tryd.ntmps20
  go_wp2_with fail
  refine (M3.out _).mono ?_
  rintro e w1 ⟨rfl, hb1⟩
  have HB1 := hid hb1
  clear hb1
  go_wp2_with fail
  refine (N3.out _).mono ?_
  rintro e w2 ⟨rfl, hb2⟩
  have HB2 := hid (HB1.out.trans (hb2.mono HB1.out.size))
  clear hb2
  go_wp2_with fail
  refine (cmpSame_any _ _).mono ?_
  rintro e w3 ⟨rfl, hw⟩
  have hw2 := hw.symm
  clear hw
  subst hw2
  go_wp2_with fail
  refine (cmpText_any _ _ _).mono ?_
  rintro e w5 ⟨rfl, hw⟩
  have hw2 := hw.symm
  clear hw
  subst hw2
  go_wp2
  go_ret
  exact ⟨rfl, HB2.out⟩
end Go.Proofs.YtfookokepnnmoaaDoor
