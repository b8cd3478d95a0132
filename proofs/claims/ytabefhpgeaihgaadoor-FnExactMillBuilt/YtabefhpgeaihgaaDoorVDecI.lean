import Derived.Test.YtabefhpgeaihgaaDoorVFmt
import Derived.Test.YtabefhpgeaihgaaDoorVNMath
import Derived.Test.YtabefhpgeaihgaaDoorVBox
/-! The program's dec. Printed by gen_vdeci.py. -/
namespace Go.Proofs.YtabefhpgeaihgaaDoor.V
open Go.RowKit Go.Shelf
set_option maxRecDepth 20000
theorem decT_u64 (n : Int) : decT 6 n = Lib.decDigits (IntKind.u64.wrap n).toNat := by
  simp [decT, negT, absT]
theorem decT_int {t n : Int} (h3 : 3 ≤ t) (h10 : t ≤ 10) (h6 : t ≠ 6) (h : n = into t n) : decT t n = Lib.itoa n := by
  have hb : -9223372036854775808 ≤ n ∧ n ≤ 9223372036854775807 := by rw [h]; exact wr64 _
  unfold decT Lib.itoa
  by_cases h7 : 7 ≤ t
  · by_cases hn : n < 0
    · have e : negT t n = true := by simp [negT, h7, hn]
      have a : absT t n = -n := by unfold absT; rw [e, if_pos rfl]
      rw [e, if_pos rfl, if_pos hn, a]
      congr 2
      omega
    · have e : negT t n = false := by simp [negT, hn]
      have a : absT t n = n := by unfold absT; rw [e, if_neg (by decide)]; exact pos_wrap (by omega) hb.2
      rw [e, if_neg (by decide), if_neg hn, a]
  · have e : negT t n = false := by simp [negT, h7]
    have hn : 0 ≤ n := by
      obtain rfl | rfl | rfl : t = 3 ∨ t = 4 ∨ t = 5 := by omega
      all_goals (simp [into, intoK, kT3, kT4, kT5, IntKind.wrap, IntKind.bits, IntKind.signed] at h; omega)
    have a : absT t n = n := by unfold absT; rw [e, if_neg (by decide)]; exact pos_wrap hn hb.2
    rw [e, if_neg (by decide), if_neg (by omega), a]
set_option maxHeartbeats 2000000 in
theorem millDec_any (t n : Int) (s : ByteArray) (h3 : 3 ≤ t) (h10 : t ≤ 10) (h : n = into t n) (w : World) (htab : Lib.TabIs Tryd.prog w "internal/strconv.uint64pow10" .u64 Lib.pow10Tab) :
    Calls Tryd.prog 32 #[val t n s] w fun e w' => e = .returned (.string ⟨(decT t n).toArray⟩) ∧ Below w.heap.size w w' := by
  have hb : -9223372036854775808 ≤ n ∧ n ≤ 9223372036854775807 := by rw [h]; exact wr64 _
  have htab1 := Lib.tabIs_alloc htab (vbox t n s)
  by_cases h6 : t = 6
  · subst h6
    obtain ⟨u, hu⟩ := Int.eq_ofNat_of_zero_le (u64_bd n).1
    have hu2 := (u64_bd n).2
    have HF : Hid (Calls Tryd.prog 40 #[.int .u64 (IntKind.u64.wrap n), .int .i64 10] (w.alloc (vbox 6 n s)) fun e w' => e = .returned (.string ⟨(decT 6 n).toArray⟩) ∧ Below (w.alloc (vbox 6 n s)).heap.size (w.alloc (vbox 6 n s)) w') := by
      rw [decT_u64, hu]
      exact fmtU_any u (by omega) _ htab1
    generalize decT 6 n = D at *
    clear hu hu2 htab htab1 h
    go_enter Tryd.func32, Tryd.ntmps32
    go_wp2_with fail
    refine HF.out.mono ?_
    rintro e w1 ⟨rfl, hb1⟩
    have HB1 := hid ((alloc_below w (vbox 6 n s)).trans (hb1.mono (by simp)))
    clear hb1
    go_wp2
    go_ret
    exact ⟨rfl, HB1.out⟩
  · have HF : Hid (Calls Tryd.prog 41 #[.int .i64 n, .int .i64 10] (w.alloc (vbox t n s)) fun e w' => e = .returned (.string ⟨(decT t n).toArray⟩) ∧ Below (w.alloc (vbox t n s)).heap.size (w.alloc (vbox t n s)) w') := by
      rw [decT_int h3 h10 h6 h]
      exact fmtI_any n hb.1 hb.2 _ htab1
    generalize decT t n = D at *
    clear htab htab1 h
    go_enter Tryd.func32, Tryd.ntmps32
    go_wp2_with fail
    refine HF.out.mono ?_
    rintro e w1 ⟨rfl, hb1⟩
    have HB1 := hid ((alloc_below w (vbox t n s)).trans (hb1.mono (by simp)))
    clear hb1
    go_wp2
    go_ret
    exact ⟨rfl, HB1.out⟩
end Go.Proofs.YtabefhpgeaihgaaDoor.V
