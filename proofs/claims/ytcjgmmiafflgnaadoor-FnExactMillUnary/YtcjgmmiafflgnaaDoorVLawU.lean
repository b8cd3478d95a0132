import Derived.Test.YtcjgmmiafflgnaaDoorVEq
import Derived.Test.YtcjgmmiafflgnaaDoorVUnI
/-! Printed by gen_vun.py. The law of marks with one kid. -/
namespace Go.Proofs.YtcjgmmiafflgnaaDoor.V
open Go.RowKit Go.Shelf
set_option maxRecDepth 20000
set_option maxHeartbeats 4000000 in
theorem law_un (op t n : Int) (s : ByteArray) (w : World) (hs : s.size ≤ maxLen) (hn1 : -9223372036854775808 ≤ n) (hn2 : n ≤ 9223372036854775807) (p _q : Addr) (he : ErrAt w 0 p wType) (_hq : ErrAt w 2 _q wDiv) :
    Calls Tryd.prog 3 #[.int .i64 op, val t n s] w fun e w' => e = .returned (.bool true) ∧ Below w.heap.size w w' := by
  have HX : Hid (∀ W, Below (w.heap.size + 1) (w.alloc (.cells #[.int .i64 t, .int .i64 n, .string s] 23)) W → W.cell? ⟨w.heap.size, 0, none⟩ = some (.int .i64 t) ∧ W.cell? ⟨w.heap.size, 1, none⟩ = some (.int .i64 n) ∧ W.cell? ⟨w.heap.size, 2, none⟩ = some (.string s)) := fun W h => boxC h
  have HB0 := hid (Below.refl (w.heap.size + 1) (w.alloc (.cells #[.int .i64 t, .int .i64 n, .string s] 23)))
  have HE := hid he
  have HR : Hid (∃ y z x, unR op t n s = ans y z wNone x) := by
    unfold unR
    cases unOk op t n s
    · exact ⟨_, _, _, rfl⟩
    · exact ⟨_, _, _, rfl⟩
  have HS := hid (specUn_any op t n s hn1 hn2)
  have HI : Hid (∀ W, ErrAt W 0 p wType → _) := fun W hW => implUn_any op t n s hn1 hn2 p W hW
  obtain ⟨y, z, x, hr⟩ := HR.out
  rw [hr] at HS HI
  clear hr HR he
  have e3 : (x.toList != x.toList) = false := by simp
  go_enter Tryd.func3, Tryd.ntmps3
  go_wp2_with fail
  refine (szVal_any t n 1048576 s _ hs (by decide) (by decide)).mono ?_
  rintro e w1 ⟨⟨r, rfl, _, _⟩, hb1⟩
  have HB1 := hid (box_next HB0.out hb1)
  clear hb1
  by_cases hr : r < 0
  · go_wp2
    go_ret
    exact ⟨rfl, box_below HB1.out⟩
  · obtain ⟨x0, x1, x2⟩ := HX.out _ HB1.out
    go_wp2_with fail
    refine (toVal_any t n s _).mono ?_
    rintro e w2 ⟨rfl, hb2⟩
    have HB2 := hid (box_next HB1.out hb2)
    clear hb2 x0 x1 x2
    go_wp2_with fail
    refine (HS.out _).mono ?_
    rintro e w3 ⟨rfl, hb3⟩
    have HB3 := hid (box_next HB2.out hb3)
    clear hb3
    have HB3a := hid (box_next HB3.out (alloc_below w3 (vbox y z wNone)))
    obtain ⟨x0, x1, x2⟩ := HX.out _ HB3a.out
    have HZ3 := hid (Below.refl (w3.heap.size + 1) (w3.alloc (vbox y z wNone)))
    go_wp2_with fail
    refine (toVal_any t n s _).mono ?_
    rintro e w4 ⟨rfl, hb4⟩
    have HB4 := hid (box_next HB3a.out hb4)
    have HZ4 := hid (box_next HZ3.out hb4)
    clear hb4 x0 x1 x2
    go_wp2_with fail
    refine (HI.out _ (HE.out.next (box_below HB4.out))).mono ?_
    rintro e w5 ⟨rfl, hb5⟩
    have HB5 := hid (box_next HB4.out (hb5.trans ((alloc_below w5 (vbox y z wNone)).mono hb5.size)))
    have HZ5 := hid (box_next HZ4.out (hb5.trans ((alloc_below w5 (vbox y z wNone)).mono hb5.size)))
    obtain ⟨x0, x1, x2⟩ := boxC HZ5.out
    clear hb5
    go_wp2_with fail
    refine (eqVal_any y z wNone _).mono ?_
    rintro e w6 ⟨rfl, hb6⟩
    have HB6 := hid (box_next HB5.out hb6)
    clear hb6 x0 x1 x2
    go_wp2
    go_ret
    exact ⟨rfl, box_below HB6.out⟩
end Go.Proofs.YtcjgmmiafflgnaaDoor.V
