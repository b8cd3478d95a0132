import Derived.Deep.MidRow
import Derived.Test.YtlopcjhipajdcaaGreatDoorJ32
import Derived.Test.YtlopcjhipajdcaaGreatDoorJ13
import Derived.Test.YtlopcjhipajdcaaGreatDoorJ34
/-! YardValidWorker of the model. Printed by gen_ybody.py. -/
namespace Go.Proofs.YtlopcjhipajdcaaGreatDoor.Y
open Go.RowKit R
open Go.Proofs.YtlopcjhipajdcaaGreatDoor.J (FileOk BegOk RepOk ltB Says says_t says_f)
set_option maxRecDepth 20000
set_option maxHeartbeats 16000000 in
theorem specW_any (x : Wk) {v0 v1 v2 v3 v4 : Value} (w : World) (hx : SmMs x.offer) (k0 : SStrA w v0 x.offer.target.ins) (k1 : SStrA w v1 x.offer.target.outs) (k2 : SSnA w v2 x.offer.seen) (k3 : SFlA w v3 x.offer.turn.files) (k4 : SStrA w v4 x.offer.turn.said) :
    Calls Tryz.prog 6 #[.agg #[.int .i64 x.number, .bool x.up, .bool x.has, .int .i64 x.offer.kind, .int .i64 x.offer.to, .int .i64 x.offer.sender, .int .i64 x.offer.epoch, .int .i64 x.offer.edit, .string x.offer.target.name, .string x.offer.target.tool, .string x.offer.target.arg, v0, v1, v2, .int .i64 x.offer.count, .bool x.offer.turn.over, .int .i64 x.offer.turn.code, .string x.offer.turn.text, .int .i64 x.offer.turn.kind, .string x.offer.turn.name, .int .i64 x.offer.turn.steps, v3, v4]] w fun e w' => Says e (WkOk x) ∧ Below w.heap.size w w' := by
  have K0 := hid k0
  obtain ⟨ad0, cp0, rfl⟩ := k0.sl
  have K1 := hid k1
  obtain ⟨ad1, cp1, rfl⟩ := k1.sl
  have K2 := hid k2
  obtain ⟨ad2, cp2, rfl⟩ := k2.sl
  have K3 := hid k3
  obtain ⟨ad3, cp3, rfl⟩ := k3.sl
  have K4 := hid k4
  obtain ⟨ad4, cp4, rfl⟩ := k4.sl
  clear k0 k1 k2 k3 k4
  have HB0 := hid (B1.start w (.cells #[.int .i64 x.number, .bool x.up, .bool x.has, .int .i64 x.offer.kind, .int .i64 x.offer.to, .int .i64 x.offer.sender, .int .i64 x.offer.epoch, .int .i64 x.offer.edit, .string x.offer.target.name, .string x.offer.target.tool, .string x.offer.target.arg, .slice ad0 x.offer.target.ins.length cp0, .slice ad1 x.offer.target.outs.length cp1, .slice ad2 x.offer.seen.length cp2, .int .i64 x.offer.count, .bool x.offer.turn.over, .int .i64 x.offer.turn.code, .string x.offer.turn.text, .int .i64 x.offer.turn.kind, .string x.offer.turn.name, .int .i64 x.offer.turn.steps, .slice ad3 x.offer.turn.files.length cp3, .slice ad4 x.offer.turn.said.length cp4] 43))
  obtain ⟨W0, hW0⟩ : ∃ W, w.alloc (.cells #[.int .i64 x.number, .bool x.up, .bool x.has, .int .i64 x.offer.kind, .int .i64 x.offer.to, .int .i64 x.offer.sender, .int .i64 x.offer.epoch, .int .i64 x.offer.edit, .string x.offer.target.name, .string x.offer.target.tool, .string x.offer.target.arg, .slice ad0 x.offer.target.ins.length cp0, .slice ad1 x.offer.target.outs.length cp1, .slice ad2 x.offer.seen.length cp2, .int .i64 x.offer.count, .bool x.offer.turn.over, .int .i64 x.offer.turn.code, .string x.offer.turn.text, .int .i64 x.offer.turn.kind, .string x.offer.turn.name, .int .i64 x.offer.turn.steps, .slice ad3 x.offer.turn.files.length cp3, .slice ad4 x.offer.turn.said.length cp4] 43) = W := ⟨_, rfl⟩
  rw [hW0] at HB0
  have HRG : Hid (∀ W, B1 w (.cells #[.int .i64 x.number, .bool x.up, .bool x.has, .int .i64 x.offer.kind, .int .i64 x.offer.to, .int .i64 x.offer.sender, .int .i64 x.offer.epoch, .int .i64 x.offer.edit, .string x.offer.target.name, .string x.offer.target.tool, .string x.offer.target.arg, .slice ad0 x.offer.target.ins.length cp0, .slice ad1 x.offer.target.outs.length cp1, .slice ad2 x.offer.seen.length cp2, .int .i64 x.offer.count, .bool x.offer.turn.over, .int .i64 x.offer.turn.code, .string x.offer.turn.text, .int .i64 x.offer.turn.kind, .string x.offer.turn.name, .int .i64 x.offer.turn.steps, .slice ad3 x.offer.turn.files.length cp3, .slice ad4 x.offer.turn.said.length cp4] 43) W → W.rangeAt w.heap.size 3 [.int .i64 x.offer.kind, .int .i64 x.offer.to, .int .i64 x.offer.sender, .int .i64 x.offer.epoch, .int .i64 x.offer.edit, .string x.offer.target.name, .string x.offer.target.tool, .string x.offer.target.arg, .slice ad0 x.offer.target.ins.length cp0, .slice ad1 x.offer.target.outs.length cp1, .slice ad2 x.offer.seen.length cp2, .int .i64 x.offer.count, .bool x.offer.turn.over, .int .i64 x.offer.turn.code, .string x.offer.turn.text, .int .i64 x.offer.turn.kind, .string x.offer.turn.name, .int .i64 x.offer.turn.steps, .slice ad3 x.offer.turn.files.length cp3, .slice ad4 x.offer.turn.said.length cp4]) := fun W h => range_mid [.int .i64 x.number, .bool x.up, .bool x.has] _ [] h.e rfl
  have a0 : W0.cell? ⟨w.heap.size, 0, none⟩ = some (.int .i64 x.number) := row_cell HB0.out.e 0
  have a1 : W0.cell? ⟨w.heap.size, 1, none⟩ = some (.bool x.up) := row_cell HB0.out.e 1
  have a2 : W0.cell? ⟨w.heap.size, 2, none⟩ = some (.bool x.has) := row_cell HB0.out.e 2
  have a3 : W0.cell? ⟨w.heap.size, 3, none⟩ = some (.int .i64 x.offer.kind) := row_cell HB0.out.e 3
  have a4 : W0.cell? ⟨w.heap.size, 4, none⟩ = some (.int .i64 x.offer.to) := row_cell HB0.out.e 4
  go_enter Tryz.func6, Tryz.ntmps6
  go_upto_region 1 with fail
  clear hW0
  go_wp2_with fail
  refine (l26In_any x.number 1 4 _).mono ?_
  rintro e WW ⟨hq, rfl⟩
  by_cases c0 : 1 ≤ x.number ∧ x.number ≤ 4
  · have hq := hq.pos c0
    obtain rfl := hq
    have C0 := hid c0
    clear c0
    cases hh : x.has
    · have HH := hid hh
      go_wp2_with (first | (refine wpList_load_mid rfl 41 _ rfl w.heap.size 3 rfl [.int .i64 x.offer.kind, .int .i64 x.offer.to, .int .i64 x.offer.sender, .int .i64 x.offer.epoch, .int .i64 x.offer.edit, .string x.offer.target.name, .string x.offer.target.tool, .string x.offer.target.arg, .slice ad0 x.offer.target.ins.length cp0, .slice ad1 x.offer.target.outs.length cp1, .slice ad2 x.offer.seen.length cp2, .int .i64 x.offer.count, .bool x.offer.turn.over, .int .i64 x.offer.turn.code, .string x.offer.turn.text, .int .i64 x.offer.turn.kind, .string x.offer.turn.name, .int .i64 x.offer.turn.steps, .slice ad3 x.offer.turn.files.length cp3, .slice ad4 x.offer.turn.said.length cp4] _ (HRG.out _ HB0.out) Tryz.underlying41 rfl (by kernel_rfl) ?_))
      refine (msNone_any x.offer _ hx (K0.out.next HB0.out.lo) (K1.out.next HB0.out.lo) (K2.out.next HB0.out.lo) (K3.out.next HB0.out.lo) (K4.out.next HB0.out.lo)).mono ?_
      rintro e W2 ⟨⟨b, rfl, hb⟩, hb2⟩
      have HS := hid hb
      have HB2 := hid (HB0.out.next hb2)
      clear hb hb2
      go_wp2
      go_ret
      exact ⟨⟨b, rfl, HS.out.trans ⟨fun h => ⟨C0.out, .inl ⟨HH.out, h⟩⟩, fun h => by
        rcases h.2 with h2 | h2
        · exact h2.2
        · have h3 := h2.1
          rw [HH.out] at h3
          cases h3⟩⟩, HB2.out.lo⟩
    · have HH := hid hh
      cases hu : x.up
      · have HU := hid hu
        go_wp2
        go_ret
        refine ⟨says_f fun h => ?_, HB0.out.lo⟩
        rcases h.2 with h2 | h2
        · have h3 := h2.1
          rw [HH.out] at h3
          cases h3
        · have h3 := h2.2.1
          rw [HU.out] at h3
          cases h3
      · have HU := hid hu
        have HN : Hid (¬ OfTo x.number x.offer → ¬ WkOk x) := fun h h2 => by
          rcases h2.2 with h3 | h3
          · have h4 := h3.1
            rw [HH.out] at h4
            cases h4
          · exact h h3.2.2
        by_cases c1 : x.offer.kind = 1
        · by_cases c2 : x.offer.to = x.number
          · have q1 : (x.offer.kind == 1) = true := by simp [c1]
            have q2 : (x.offer.to == x.number) = true := by simp [c2]
            have C1 := hid c1
            have C2 := hid c2
            clear c1 c2
            go_wp2_with (first | (refine wpList_taken rfl fun K hK => ?_; refine wp_load_mid 41 _ rfl w.heap.size 3 rfl [.int .i64 x.offer.kind, .int .i64 x.offer.to, .int .i64 x.offer.sender, .int .i64 x.offer.epoch, .int .i64 x.offer.edit, .string x.offer.target.name, .string x.offer.target.tool, .string x.offer.target.arg, .slice ad0 x.offer.target.ins.length cp0, .slice ad1 x.offer.target.outs.length cp1, .slice ad2 x.offer.seen.length cp2, .int .i64 x.offer.count, .bool x.offer.turn.over, .int .i64 x.offer.turn.code, .string x.offer.turn.text, .int .i64 x.offer.turn.kind, .string x.offer.turn.name, .int .i64 x.offer.turn.steps, .slice ad3 x.offer.turn.files.length cp3, .slice ad4 x.offer.turn.said.length cp4] _ (HRG.out _ HB0.out) Tryz.underlying41 rfl (by kernel_rfl) ?_; refine hK _ _ ?_; clear hK K))
            refine (body_any x.offer _ hx C1.out (K0.out.next HB0.out.lo) (K1.out.next HB0.out.lo) (K2.out.next HB0.out.lo) (K3.out.next HB0.out.lo) (K4.out.next HB0.out.lo)).mono ?_
            rintro e W2 ⟨⟨s, rfl, hb⟩, hb2⟩
            have HB2 := hid (HB0.out.next hb2)
            by_cases c3 : 1 ≤ s.size
            · have CF := hid (hb.1 c3)
              have q3 : s.toList.isEmpty = false := by rw [J.isEmpty_iff]; exact decide_eq_false (by omega)
              clear hb hb2
              go_wp2
              go_ret
              exact ⟨says_t ⟨C0.out, .inr ⟨HH.out, HU.out, C1.out, C2.out, CF.out⟩⟩, HB2.out.lo⟩
            · have CF : Hid (¬ OfOk x.offer) := fun h => c3 (hb.2 h)
              have q3 : s.toList.isEmpty = true := by rw [J.isEmpty_iff]; exact decide_eq_true (by omega)
              clear hb hb2
              go_wp2
              go_ret
              exact ⟨says_f (HN.out fun h => CF.out h.2.2), HB2.out.lo⟩
          · have q1 : (x.offer.kind == 1) = true := by simp [c1]
            have q2 : (x.offer.to == x.number) = false := by simp [c2]
            have C2 := hid c2
            clear c1 c2
            go_wp2
            go_ret
            exact ⟨says_f (HN.out fun h => C2.out h.2.1), HB0.out.lo⟩
        · have q1 : (x.offer.kind == 1) = false := by simp [c1]
          have C1 := hid c1
          clear c1
          go_wp2
          go_ret
          exact ⟨says_f (HN.out fun h => C1.out h.1), HB0.out.lo⟩
  · have hq := hq.neg c0
    obtain rfl := hq
    have C0 := hid c0
    clear c0
    go_wp2
    go_ret
    exact ⟨says_f fun h => C0.out h.1, HB0.out.lo⟩
end Go.Proofs.YtlopcjhipajdcaaGreatDoor.Y
