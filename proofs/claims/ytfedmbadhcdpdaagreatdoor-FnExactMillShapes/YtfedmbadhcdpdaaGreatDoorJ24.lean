import Derived.Test.YtfedmbadhcdpdaaGreatDoorJ23
/-! Whether there is a main, in the model. -/
namespace Go.Proofs.YtfedmbadhcdpdaaGreatDoor.C
open Go.RowKit
set_option maxRecDepth 20000
def MainEnd (fns : List Fn) (w : World) (e : Ending) (w' : World) : Prop := ∃ r : Int, e = .returned (.int .i64 r) ∧ ((r = -1 ∧ ∀ j, j < fns.length → ¬ isMain (fns.getD j fn0)) ∨ ∃ j : Nat, j < fns.length ∧ r = j ∧ isMain (fns.getD j fn0)) ∧ Below w.heap.size w w'
set_option maxHeartbeats 4000000 in
theorem main_any {fns : List Fn} {w : World} {cv : Value} (h1 : FnsRow w cv fns) (hl : fns.length ≤ 60) :
    Calls Tryz.prog 35 #[.agg #[cv]] w (MainEnd fns w) := by
  have H1 := hid h1
  obtain ⟨aF, cF, rfl⟩ := h1.sl
  clear h1
  go_enter Tryz.func35, Tryz.ntmps35
  go_wp2_with fail
  have HLO := hid ((Below.refl w.heap.size w).alloc (Nat.le_refl _) (.cells #[.slice aF fns.length cF] 30))
  have k0 := cx (heap_alloc_new w (.cells #[.slice aF fns.length cF] 30))
  obtain ⟨W1, hW1⟩ : ∃ W, w.alloc (.cells #[.slice aF fns.length cF] 30) = W := ⟨_, rfl⟩
  rw [hW1] at HLO k0 ⊢
  clear hW1
  go_loop [3] (fun i => ∃ j : Nat, j ≤ fns.length ∧ i = .int .i64 j ∧ ∀ p, p < j → ¬ isMain (fns.getD p fn0)) (fun i => fns.length - (intOf i).toNat)
  case atStart => exact ⟨0, Nat.zero_le _, rfl, fun p hp => absurd hp (Nat.not_lt_zero _)⟩
  case round =>
    obtain ⟨j, hj, rfl, hall⟩ := hrel
    have HALL := hid hall
    clear hall
    by_cases hlt : j < fns.length
    · have hlti : (j : Int) < (fns.length : Int) := by omega
      obtain ⟨gF2, cF2, e9, _, pv, iv, n0, n1, n2, n3, n4, hpv, _⟩ := (H1.out.next HLO.out).at hlt
      injection e9 with ea en ec
      clear en
      subst ea ec
      obtain ⟨aP, cP, rfl⟩ := hpv.sl
      obtain ⟨f, hf⟩ : ∃ f, fns.getD j fn0 = f := ⟨_, rfl⟩
      rw [hf] at n0 n1 n2 n3
      have HFE := hid hf
      clear hf hpv
      have HNO : Hid (¬ isMain f → ∀ p, p < j + 1 → ¬ isMain (fns.getD p fn0)) := hid fun h p hp => by
        by_cases e : p = j
        · subst e; rw [HFE.out]; exact h
        · exact HALL.out p (by omega)
      by_cases hnm : f.name = ⟨#[109, 97, 105, 110]⟩
      · have hnf : (f.name.toList == (⟨#[109, 97, 105, 110]⟩ : ByteArray).toList) = true := str_eq.2 hnm
        have HNM := hid hnm
        rw [hnm] at n0
        clear hnm hnf
        by_cases hp0 : f.params.length = 0
        · have HP0 := hid hp0
          rw [hp0] at n1
          clear hp0
          by_cases hr : f.result = 2
          · rw [hr] at n2
            have HR := hid hr
            clear hr
            go_wp2_with fail
            go_ret
            exact ⟨_, rfl, .inr ⟨j, hlt, rfl, by rw [HFE.out]; exact ⟨HNM.out, HP0.out, HR.out⟩⟩, HLO.out⟩
          · have HR := hid hr
            have hrf : (f.result == 2) = false := by simpa using hr
            clear hr
            go_wp2_with fail
            go_round
            case rel => exact ⟨j + 1, by omega, by go_num, HNO.out fun h => HR.out h.2.2⟩
            case measure => simp [intOf]; omega
        · have HP0 := hid hp0
          have hpf : ((f.params.length : Int) == 0) = false := by simp; intro h; rw [h] at hp0; exact hp0 rfl
          clear hp0
          go_wp2_with fail
          go_round
          case rel => exact ⟨j + 1, by omega, by go_num, HNO.out fun h => HP0.out h.2.1⟩
          case measure => simp [intOf]; omega
      · have HNM := hid hnm
        have hnf : ¬ f.name.toList = [109, 97, 105, 110] := fun h => hnm (str_eq.1 (by rw [beq_iff_eq, h, Lib.toList_data]))
        clear hnm
        go_wp2_with fail
        go_round
        case rel => exact ⟨j + 1, by omega, by go_num, HNO.out fun h => HNM.out h.1⟩
        case measure => simp [intOf]; omega
    · obtain rfl : j = fns.length := by omega
      have hge : ¬ ((fns.length : Int) < (fns.length : Int)) := by omega
      go_wp2
      go_ret
      exact ⟨_, rfl, .inl ⟨rfl, HALL.out⟩, HLO.out⟩
end Go.Proofs.YtfedmbadhcdpdaaGreatDoor.C
