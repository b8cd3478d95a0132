import Derived.Test.YtfookokepnnmoaaDoorJOLeaf
import Derived.Test.YtfookokepnnmoaaDoorJQuiet
namespace Go.Proofs.YtfookokepnnmoaaDoor
open Go.RowKit
set_option maxRecDepth 20000
set_option maxHeartbeats 4000000 in
theorem cmpFields_any (ad ad' : Option Addr) (M M' cap cap' : Nat) (C Z : Nat → Int) (w : World) (NX NY : Nat → ByteArray) (TX TY : Nat → TypeId) (XX XY : Nat → Value) (hM : M ≤ 1000000) (hM' : M' ≤ 1000000)
    (hr : 0 < M → ∃ g o, ad = some ⟨g, o, none⟩ ∧ ∀ W, Below w.heap.size w W → ∀ i, i < M → W.cell? ⟨g, o + i * 2, none⟩ = some (.string (NX i)) ∧ W.cell? ⟨g, o + i * 2 + 1, none⟩ = some (.iface (TX i) (XX i)))
    (hr' : 0 < M' → ∃ g o, ad' = some ⟨g, o, none⟩ ∧ ∀ W, Below w.heap.size w W → ∀ i, i < M' → W.cell? ⟨g, o + i * 2, none⟩ = some (.string (NY i)) ∧ W.cell? ⟨g, o + i * 2 + 1, none⟩ = some (.iface (TY i) (XY i)))
    (hc : ∀ i, i < M → i < M' → ∀ W, Below w.heap.size w W → Calls Tryd.prog 36 #[.agg #[.string (NX i), .iface (TX i) (XX i)], .agg #[.string (NY i), .iface (TY i) (XY i)]] W fun e w' => e = .returned (.int .i64 (C i)) ∧ Below W.heap.size W w')
    (hz : ∀ i, i < M → i < M' → Z i = if C i ≠ 0 then C i else Z (i + 1)) (he : ∀ i, i ≤ M → i ≤ M' → (i = M ∨ i = M') → Z i = cmpI M M') :
    Calls Tryd.prog 35 #[.slice ad M cap, .slice ad' M' cap', .func (.func 36) #[] #[]] w fun e w' => e = .returned (.int .i64 (Z 0)) ∧ Below w.heap.size w w' := by
  have HR := hid hr
  have HR' := hid hr'
  have HCC := hid hc
  have HZ := hid hz
  have HE := hid he
  clear hr hr' hc hz he
  go_enter Tryd.func35, Tryd.ntmps35
  go_wp2_with fail
  go_loopw [13] (fun i wr => ∃ q : Nat, q ≤ M ∧ q ≤ M' ∧ i = .int .i64 q ∧ Z 0 = Z q ∧ Below w.heap.size w wr) (fun i _ => M - (intOf i).toNat)
  case atStart => exact ⟨0, Nat.zero_le _, Nat.zero_le _, rfl, rfl, Below.refl _ _⟩
  case round =>
    obtain ⟨q, hq, hq', rfl, hor, hbw⟩ := hrel
    have HO := hid hor
    have HBW := hid hbw
    clear hor hbw
    by_cases hlt : q < M
    · obtain ⟨g, o, rfl, hcl⟩ := HR.out (by omega)
      have HCL := hid hcl
      clear hcl
      obtain ⟨kc, kd⟩ := HCL.out _ HBW.out q hlt
      have HA1 : Hid (∀ X, Below w.heap.size w (wr.alloc X)) := fun X => HBW.out.alloc HBW.out.size X
      have HA2 : Hid (∀ X Y, Below w.heap.size w ((wr.alloc X).alloc Y)) := fun X Y => (HA1.out X).alloc (HA1.out X).size Y
      generalize hNX : NX q = nx at *
      generalize hTX : TX q = tx at *
      generalize hXX : XX q = xx at *
      have HRX : Hid (NX q = nx ∧ TX q = tx ∧ XX q = xx) := ⟨hNX, hTX, hXX⟩
      clear hNX hTX hXX
      by_cases hlt' : q < M'
      · obtain ⟨g', o', rfl, hcl'⟩ := HR'.out (by omega)
        obtain ⟨kc', kd'⟩ := hcl' _ (HA1.out (.cells #[.string nx, .iface tx xx] 77)) q hlt'
        clear hcl'
        have HO2 := hid (HO.out.trans (HZ.out q hlt hlt'))
        have HC := hid (HCC.out q hlt hlt')
        rw [HRX.out.1, HRX.out.2.1, HRX.out.2.2] at HC
        generalize NY q = ny at kc' HC
        generalize C q = c at HC HO2
        generalize TY q = ty at kd' HC
        generalize XY q = xy at kd' HC
        by_cases h0 : c = 0
        · subst h0
          have HO3 : Hid (Z 0 = Z (q + 1)) := by have h := HO2.out; rw [if_neg (by simp)] at h; exact h
          clear HO2
          go_wp2_with (go_at_call 36; refine (HC.out _ (HA2.out _ _)).mono ?_; rintro e w6 ⟨rfl, hb6⟩; have HB6 := hid ((HA2.out _ _).trans (hb6.mono (HA2.out _ _).size)); clear hb6)
          go_roundw
          case rel => exact ⟨q + 1, by omega, by omega, by go_num, HO3.out, HB6.out⟩
          case measure => simp [intOf]; omega
        · have HO3 : Hid (Z 0 = c) := by have h := HO2.out; rw [if_pos h0] at h; exact h
          have hcb : (c != 0) = true := by simpa using h0
          clear HO2
          go_wp2_with (go_at_call 36; refine (HC.out _ (HA2.out _ _)).mono ?_; rintro e w6 ⟨rfl, hb6⟩; have HB6 := hid ((HA2.out _ _).trans (hb6.mono (HA2.out _ _).size)); clear hb6)
          go_ret
          exact ⟨ret_int (by rw [HO3.out]), HB6.out⟩
      · have HV : Hid (Z 0 = 1) := by
          show Z 0 = 1
          rw [HO.out, HE.out q hq hq' (.inr (by omega))]
          unfold cmpI; rw [if_neg (by omega), if_neg (by omega)]
        go_wp2
        go_ret
        exact ⟨ret_int (by rw [HV.out]), HA1.out _⟩
    · by_cases hmm : M < M'
      · have HV : Hid (Z 0 = -1) := by
          show Z 0 = -1
          rw [HO.out, HE.out q hq hq' (.inl (by omega))]
          unfold cmpI; rw [if_pos (by omega)]
        go_wp2
        go_ret
        exact ⟨ret_int (by rw [HV.out]), HBW.out⟩
      · have HV : Hid (Z 0 = 0) := by
          show Z 0 = 0
          rw [HO.out, HE.out q hq hq' (.inl (by omega))]
          unfold cmpI; rw [if_neg (by omega), if_pos (by omega)]
        go_wp2
        go_ret
        exact ⟨ret_int (by rw [HV.out]), HBW.out⟩
end Go.Proofs.YtfookokepnnmoaaDoor
