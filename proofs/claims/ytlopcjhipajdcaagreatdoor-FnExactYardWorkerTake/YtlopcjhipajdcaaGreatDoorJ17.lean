import Derived.Laws.CopyOwn
import Derived.Deep.DeepCutAuto
import Derived.Test.YtlopcjhipajdcaaGreatDoorJ07
/-! Copies. -/
namespace Go.Proofs.YtlopcjhipajdcaaGreatDoor.R
open Go.RowKit
set_option maxRecDepth 20000
theorem info_Str : (Tryz.prog.info? 9).map (fun i => (i.zero, i.size, i.bytes)) = some (some (.string ⟨#[]⟩), 1, 16) := by kernel_rfl
set_option maxHeartbeats 4000000 in
theorem toSStr_any (l : List ByteArray) {v : Value} (w : World) (hx : LoStrS l) (k0 : SStrA w v l) :
    Calls Tryz.prog 62 #[v] w fun e w' => ∃ u, e = .returned u ∧ SStrR w.heap.size w' u l ∧ Below w.heap.size w w' := by
  have HK := hid k0
  have HX := hid hx
  have hN : l.length ≤ 1048576 := hx
  obtain ⟨ad, cap, rfl⟩ := k0.sl
  clear hx k0
  obtain ⟨i0, hi, hz0, hz1, hz2⟩ := info_parts info_Str
  have HHI := hid (And.intro hi (And.intro hz0 (And.intro hz1 hz2)))
  clear hi hz0 hz1
  go_enter Tryz.func62, Tryz.ntmps62
  go_wp2_with (at_make; refine wpList_make_full _ rfl _ _ 22 rfl w.heap.size 9 i0 (.string ⟨#[]⟩) 1 Tryz.underlying22 HHI.out.1 HHI.out.2.1 HHI.out.2.2.1 _ _ _ _ l.length rfl rfl rfl rfl (by rw [hz2]; omega) (by unfold maxLen; omega) (Nat.le_refl _) ?_; intro w1 o1 g1)
  have HF0 : Hid (SStrF w.heap.size w1 l 0) := by
    obtain ⟨h1, ⟨h2, _⟩ | ⟨g, c, cur, e, _, h4, _, _, h7, _⟩⟩ := o1
    · cases h2
    · cases e
      exact ⟨cur, h4, h7, fun i h => absurd h (Nat.not_lt_zero _)⟩
  have HB0 := hid ((Below.refl w.heap.size w).grown g1 (Nat.le_refl _) (fun q e => by cases e))
  clear o1 g1
  go_loopw [4] (fun i wr => ∃ j : Nat, j ≤ l.length ∧ i = .int .i64 j ∧ SStrF w.heap.size wr l j ∧ Below w.heap.size w wr) (fun i _ => l.length - (intOf i).toNat)
  case atStart => exact ⟨0, Nat.zero_le _, rfl, HF0.out, HB0.out⟩
  case round =>
    obtain ⟨j, hj, rfl, hfi, hbw⟩ := hrel
    have HFI := hid hfi
    have HBW := hid hbw
    have hgl := hfi.lt
    clear hfi hbw
    by_cases hlt : j < l.length
    · obtain ⟨a, c, e9, hal, c0⟩ := (HK.out.next HBW.out).at hlt
      injection e9 with ea en ec
      clear en
      subst ea ec
      have HFX := hid (HFI.out.step hlt)
      obtain ⟨⟨v0, x0⟩, y0⟩ := HFI.out.room (i := j) (by omega)
      obtain ⟨x, hx⟩ : ∃ x, l.getD j ⟨#[]⟩ = x := ⟨_, rfl⟩
      rw [hx] at c0 HFX
      clear hx
      unfold StrA at c0
      go_wp2
      go_roundw
      case rel => exact ⟨j + 1, by omega, by go_num, HFX.out, below_set HBW.out _ _ (Nat.le_refl _) _⟩
      case measure => simp [intOf]; omega
    · obtain rfl : j = l.length := by omega
      go_wp2
      go_ret
      exact ⟨_, rfl, ⟨w.heap.size, rfl, Nat.le_refl _, HFI.out⟩, HBW.out⟩
end Go.Proofs.YtlopcjhipajdcaaGreatDoor.R
