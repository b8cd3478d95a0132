import Derived.Deep.MidRow
import Derived.Test.YtlopcjhipajdcaaGreatDoorJ48
import Derived.Test.YtlopcjhipajdcaaGreatDoorJ35
/-! mayHave, YardValidWorker by the program. Printed by gen_ywi.py. -/
namespace Go.Proofs.YtlopcjhipajdcaaGreatDoor.Y
open Go.RowKit R
open Go.Proofs.YtlopcjhipajdcaaGreatDoor.J (FileOk BegOk RepOk ltB Says says_t says_f)
set_option maxRecDepth 20000
set_option maxHeartbeats 8000000 in
theorem mayHave_any (x : Wk) (m : Ms) {u0 u1 u2 u3 u4 v0 v1 v2 v3 v4 : Value} (w : World) (hm : SmMs m) (j0 : SStrA w u0 x.offer.target.ins) (j1 : SStrA w u1 x.offer.target.outs) (j2 : SSnA w u2 x.offer.seen) (j3 : SFlA w u3 x.offer.turn.files) (j4 : SStrA w u4 x.offer.turn.said) (k0 : SStrA w v0 m.target.ins) (k1 : SStrA w v1 m.target.outs) (k2 : SSnA w v2 m.seen) (k3 : SFlA w v3 m.turn.files) (k4 : SStrA w v4 m.turn.said) :
    Calls Tryz.prog 23 #[.agg #[.int .i64 x.number, .bool x.up, .bool x.has, .int .i64 x.offer.kind, .int .i64 x.offer.to, .int .i64 x.offer.sender, .int .i64 x.offer.epoch, .int .i64 x.offer.edit, .string x.offer.target.name, .string x.offer.target.tool, .string x.offer.target.arg, u0, u1, u2, .int .i64 x.offer.count, .bool x.offer.turn.over, .int .i64 x.offer.turn.code, .string x.offer.turn.text, .int .i64 x.offer.turn.kind, .string x.offer.turn.name, .int .i64 x.offer.turn.steps, u3, u4], .agg #[.int .i64 m.kind, .int .i64 m.to, .int .i64 m.sender, .int .i64 m.epoch, .int .i64 m.edit, .string m.target.name, .string m.target.tool, .string m.target.arg, v0, v1, v2, .int .i64 m.count, .bool m.turn.over, .int .i64 m.turn.code, .string m.turn.text, .int .i64 m.turn.kind, .string m.turn.name, .int .i64 m.turn.steps, v3, v4]] w fun e w' => Says e (OfTo x.number m) ∧ Below w.heap.size w w' := by
  have HM := hid hm
  obtain ⟨ae0, ce0, rfl⟩ := j0.sl
  obtain ⟨ae1, ce1, rfl⟩ := j1.sl
  obtain ⟨ae2, ce2, rfl⟩ := j2.sl
  obtain ⟨ae3, ce3, rfl⟩ := j3.sl
  obtain ⟨ae4, ce4, rfl⟩ := j4.sl
  clear j0 j1 j2 j3 j4 hm
  have K0 := hid k0
  obtain ⟨ad0, cp0, rfl⟩ := k0.sl
  have K1 := hid k1
  obtain ⟨ad1, cp1, rfl⟩ := k1.sl
  have K2 := hid k2
  obtain ⟨ad2, cp2, rfl⟩ := k2.sl
  have K3 := hid k3
  obtain ⟨ad3, cp3, rfl⟩ := k3.sl
  have K4 := hid k4
  obtain ⟨ad4, cp4, rfl⟩ := k4.sl
  clear k0 k1 k2 k3 k4
  have HB0 := hid (B2.start w (.cells #[.int .i64 x.number, .bool x.up, .bool x.has, .int .i64 x.offer.kind, .int .i64 x.offer.to, .int .i64 x.offer.sender, .int .i64 x.offer.epoch, .int .i64 x.offer.edit, .string x.offer.target.name, .string x.offer.target.tool, .string x.offer.target.arg, .slice ae0 x.offer.target.ins.length ce0, .slice ae1 x.offer.target.outs.length ce1, .slice ae2 x.offer.seen.length ce2, .int .i64 x.offer.count, .bool x.offer.turn.over, .int .i64 x.offer.turn.code, .string x.offer.turn.text, .int .i64 x.offer.turn.kind, .string x.offer.turn.name, .int .i64 x.offer.turn.steps, .slice ae3 x.offer.turn.files.length ce3, .slice ae4 x.offer.turn.said.length ce4] 43) (.cells #[.int .i64 m.kind, .int .i64 m.to, .int .i64 m.sender, .int .i64 m.epoch, .int .i64 m.edit, .string m.target.name, .string m.target.tool, .string m.target.arg, .slice ad0 m.target.ins.length cp0, .slice ad1 m.target.outs.length cp1, .slice ad2 m.seen.length cp2, .int .i64 m.count, .bool m.turn.over, .int .i64 m.turn.code, .string m.turn.text, .int .i64 m.turn.kind, .string m.turn.name, .int .i64 m.turn.steps, .slice ad3 m.turn.files.length cp3, .slice ad4 m.turn.said.length cp4] 41))
  obtain ⟨W0, hW0⟩ : ∃ W, (w.alloc (.cells #[.int .i64 x.number, .bool x.up, .bool x.has, .int .i64 x.offer.kind, .int .i64 x.offer.to, .int .i64 x.offer.sender, .int .i64 x.offer.epoch, .int .i64 x.offer.edit, .string x.offer.target.name, .string x.offer.target.tool, .string x.offer.target.arg, .slice ae0 x.offer.target.ins.length ce0, .slice ae1 x.offer.target.outs.length ce1, .slice ae2 x.offer.seen.length ce2, .int .i64 x.offer.count, .bool x.offer.turn.over, .int .i64 x.offer.turn.code, .string x.offer.turn.text, .int .i64 x.offer.turn.kind, .string x.offer.turn.name, .int .i64 x.offer.turn.steps, .slice ae3 x.offer.turn.files.length ce3, .slice ae4 x.offer.turn.said.length ce4] 43)).alloc (.cells #[.int .i64 m.kind, .int .i64 m.to, .int .i64 m.sender, .int .i64 m.epoch, .int .i64 m.edit, .string m.target.name, .string m.target.tool, .string m.target.arg, .slice ad0 m.target.ins.length cp0, .slice ad1 m.target.outs.length cp1, .slice ad2 m.seen.length cp2, .int .i64 m.count, .bool m.turn.over, .int .i64 m.turn.code, .string m.turn.text, .int .i64 m.turn.kind, .string m.turn.name, .int .i64 m.turn.steps, .slice ad3 m.turn.files.length cp3, .slice ad4 m.turn.said.length cp4] 41) = W := ⟨_, rfl⟩
  rw [hW0] at HB0
  have b0 : W0.cell? ⟨w.heap.size, 0, none⟩ = some (.int .i64 x.number) := row_cell HB0.out.e 0
  have a0 : W0.cell? ⟨w.heap.size + 1, 0, none⟩ = some (.int .i64 m.kind) := row_cell HB0.out.f 0
  have a1 : W0.cell? ⟨w.heap.size + 1, 1, none⟩ = some (.int .i64 m.to) := row_cell HB0.out.f 1
  have HRG : Hid (W0.rangeAt (w.heap.size + 1) 0 [.int .i64 m.kind, .int .i64 m.to, .int .i64 m.sender, .int .i64 m.epoch, .int .i64 m.edit, .string m.target.name, .string m.target.tool, .string m.target.arg, .slice ad0 m.target.ins.length cp0, .slice ad1 m.target.outs.length cp1, .slice ad2 m.seen.length cp2, .int .i64 m.count, .bool m.turn.over, .int .i64 m.turn.code, .string m.turn.text, .int .i64 m.turn.kind, .string m.turn.name, .int .i64 m.turn.steps, .slice ad3 m.turn.files.length cp3, .slice ad4 m.turn.said.length cp4]) := range_mid [] _ [] HB0.out.f rfl
  by_cases c1 : m.kind = 1
  · by_cases c2 : m.to = x.number
    · have q1 : (m.kind == 1) = true := by simp [c1]
      have q2 : (m.to == x.number) = true := by simp [c2]
      have C1 := hid c1
      have C2 := hid c2
      clear c1 c2
      go_enter Tryz.func23, Tryz.ntmps23
      go_upto_region 1 with fail
      clear hW0
      go_wp2_with (first | (refine wpList_taken rfl fun K hK => ?_; refine wp_load_mid 41 _ rfl (w.heap.size + 1) 0 rfl [.int .i64 m.kind, .int .i64 m.to, .int .i64 m.sender, .int .i64 m.epoch, .int .i64 m.edit, .string m.target.name, .string m.target.tool, .string m.target.arg, .slice ad0 m.target.ins.length cp0, .slice ad1 m.target.outs.length cp1, .slice ad2 m.seen.length cp2, .int .i64 m.count, .bool m.turn.over, .int .i64 m.turn.code, .string m.turn.text, .int .i64 m.turn.kind, .string m.turn.name, .int .i64 m.turn.steps, .slice ad3 m.turn.files.length cp3, .slice ad4 m.turn.said.length cp4] _ HRG.out Tryz.underlying41 rfl (by kernel_rfl) ?_; refine hK _ _ ?_; clear hK K))
      refine (isMsg_any m _ C1.out HM.out (K0.out.next HB0.out.lo) (K1.out.next HB0.out.lo) (K2.out.next HB0.out.lo) (K3.out.next HB0.out.lo) (K4.out.next HB0.out.lo)).mono ?_
      rintro e W2 ⟨⟨b, rfl, hb⟩, hb2⟩
      have HB2 := hid (HB0.out.next hb2)
      have HV := hid hb
      clear hb hb2
      go_wp2
      go_ret
      exact ⟨⟨b, rfl, HV.out.trans ⟨fun h => ⟨C1.out, C2.out, h⟩, fun h => h.2.2⟩⟩, HB2.out.lo⟩
    · have q1 : (m.kind == 1) = true := by simp [c1]
      have q2 : (m.to == x.number) = false := by simp [c2]
      have C2 := hid c2
      clear c1 c2
      go_enter Tryz.func23, Tryz.ntmps23
      go_upto_region 1 with fail
      clear hW0
      go_wp2
      go_ret
      exact ⟨says_f fun h => C2.out h.2.1, HB0.out.lo⟩
  · have q1 : (m.kind == 1) = false := by simp [c1]
    have C1 := hid c1
    clear c1
    go_enter Tryz.func23, Tryz.ntmps23
    go_upto_region 1 with fail
    clear hW0
    go_wp2
    go_ret
    exact ⟨says_f fun h => C1.out h.1, HB0.out.lo⟩
set_option maxHeartbeats 8000000 in
theorem implW_any (x : Wk) {v0 v1 v2 v3 v4 : Value} (w : World) (hm : SmMs x.offer) (k0 : SStrA w v0 x.offer.target.ins) (k1 : SStrA w v1 x.offer.target.outs) (k2 : SSnA w v2 x.offer.seen) (k3 : SFlA w v3 x.offer.turn.files) (k4 : SStrA w v4 x.offer.turn.said) :
    Calls Tryz.prog 8 #[.agg #[.int .i64 x.number, .bool x.up, .bool x.has, .int .i64 x.offer.kind, .int .i64 x.offer.to, .int .i64 x.offer.sender, .int .i64 x.offer.epoch, .int .i64 x.offer.edit, .string x.offer.target.name, .string x.offer.target.tool, .string x.offer.target.arg, v0, v1, v2, .int .i64 x.offer.count, .bool x.offer.turn.over, .int .i64 x.offer.turn.code, .string x.offer.turn.text, .int .i64 x.offer.turn.kind, .string x.offer.turn.name, .int .i64 x.offer.turn.steps, v3, v4]] w fun e w' => Says e (WkOk x) ∧ Below w.heap.size w w' := by
  have HM := hid hm
  clear hm
  have K0 := hid k0
  obtain ⟨ad0, cp0, rfl⟩ := k0.sl
  have K1 := hid k1
  obtain ⟨ad1, cp1, rfl⟩ := k1.sl
  have K2 := hid k2
  obtain ⟨ad2, cp2, rfl⟩ := k2.sl
  have K3 := hid k3
  obtain ⟨ad3, cp3, rfl⟩ := k3.sl
  have K4 := hid k4
  obtain ⟨ad4, cp4, rfl⟩ := k4.sl
  clear k0 k1 k2 k3 k4
  have HB0 := hid (B1.start w (.cells #[.int .i64 x.number, .bool x.up, .bool x.has, .int .i64 x.offer.kind, .int .i64 x.offer.to, .int .i64 x.offer.sender, .int .i64 x.offer.epoch, .int .i64 x.offer.edit, .string x.offer.target.name, .string x.offer.target.tool, .string x.offer.target.arg, .slice ad0 x.offer.target.ins.length cp0, .slice ad1 x.offer.target.outs.length cp1, .slice ad2 x.offer.seen.length cp2, .int .i64 x.offer.count, .bool x.offer.turn.over, .int .i64 x.offer.turn.code, .string x.offer.turn.text, .int .i64 x.offer.turn.kind, .string x.offer.turn.name, .int .i64 x.offer.turn.steps, .slice ad3 x.offer.turn.files.length cp3, .slice ad4 x.offer.turn.said.length cp4] 43))
  obtain ⟨W0, hW0⟩ : ∃ W, w.alloc (.cells #[.int .i64 x.number, .bool x.up, .bool x.has, .int .i64 x.offer.kind, .int .i64 x.offer.to, .int .i64 x.offer.sender, .int .i64 x.offer.epoch, .int .i64 x.offer.edit, .string x.offer.target.name, .string x.offer.target.tool, .string x.offer.target.arg, .slice ad0 x.offer.target.ins.length cp0, .slice ad1 x.offer.target.outs.length cp1, .slice ad2 x.offer.seen.length cp2, .int .i64 x.offer.count, .bool x.offer.turn.over, .int .i64 x.offer.turn.code, .string x.offer.turn.text, .int .i64 x.offer.turn.kind, .string x.offer.turn.name, .int .i64 x.offer.turn.steps, .slice ad3 x.offer.turn.files.length cp3, .slice ad4 x.offer.turn.said.length cp4] 43) = W := ⟨_, rfl⟩
  rw [hW0] at HB0
  have a0 : W0.cell? ⟨w.heap.size, 0, none⟩ = some (.int .i64 x.number) := row_cell HB0.out.e 0
  have a1 : W0.cell? ⟨w.heap.size, 1, none⟩ = some (.bool x.up) := row_cell HB0.out.e 1
  have a2 : W0.cell? ⟨w.heap.size, 2, none⟩ = some (.bool x.has) := row_cell HB0.out.e 2
  have HRG : Hid (W0.rangeAt w.heap.size 3 [.int .i64 x.offer.kind, .int .i64 x.offer.to, .int .i64 x.offer.sender, .int .i64 x.offer.epoch, .int .i64 x.offer.edit, .string x.offer.target.name, .string x.offer.target.tool, .string x.offer.target.arg, .slice ad0 x.offer.target.ins.length cp0, .slice ad1 x.offer.target.outs.length cp1, .slice ad2 x.offer.seen.length cp2, .int .i64 x.offer.count, .bool x.offer.turn.over, .int .i64 x.offer.turn.code, .string x.offer.turn.text, .int .i64 x.offer.turn.kind, .string x.offer.turn.name, .int .i64 x.offer.turn.steps, .slice ad3 x.offer.turn.files.length cp3, .slice ad4 x.offer.turn.said.length cp4]) := range_mid [.int .i64 x.number, .bool x.up, .bool x.has] _ [] HB0.out.e rfl
  have HRW : Hid (W0.rangeAt w.heap.size 0 [.int .i64 x.number, .bool x.up, .bool x.has, .int .i64 x.offer.kind, .int .i64 x.offer.to, .int .i64 x.offer.sender, .int .i64 x.offer.epoch, .int .i64 x.offer.edit, .string x.offer.target.name, .string x.offer.target.tool, .string x.offer.target.arg, .slice ad0 x.offer.target.ins.length cp0, .slice ad1 x.offer.target.outs.length cp1, .slice ad2 x.offer.seen.length cp2, .int .i64 x.offer.count, .bool x.offer.turn.over, .int .i64 x.offer.turn.code, .string x.offer.turn.text, .int .i64 x.offer.turn.kind, .string x.offer.turn.name, .int .i64 x.offer.turn.steps, .slice ad3 x.offer.turn.files.length cp3, .slice ad4 x.offer.turn.said.length cp4]) := range_mid [] _ [] HB0.out.e rfl
  go_enter Tryz.func8, Tryz.ntmps8
  go_upto_region 1 with fail
  clear hW0
  by_cases c0 : 1 ≤ x.number ∧ x.number ≤ 4
  · have C0 := hid c0
    clear c0
    go_upto_region 3 with (refine (isWorker_any x.number _).mono ?_; rintro e W1 ⟨hs, hW⟩; obtain rfl := hW.symm; have hq := hs.pos C0.out; obtain rfl := hq; clear hs)
    cases hh : x.has
    · have HH := hid hh
      go_wp2_with (first | (refine wpList_load_mid rfl 41 _ rfl (w.heap.size) 3 rfl [.int .i64 x.offer.kind, .int .i64 x.offer.to, .int .i64 x.offer.sender, .int .i64 x.offer.epoch, .int .i64 x.offer.edit, .string x.offer.target.name, .string x.offer.target.tool, .string x.offer.target.arg, .slice ad0 x.offer.target.ins.length cp0, .slice ad1 x.offer.target.outs.length cp1, .slice ad2 x.offer.seen.length cp2, .int .i64 x.offer.count, .bool x.offer.turn.over, .int .i64 x.offer.turn.code, .string x.offer.turn.text, .int .i64 x.offer.turn.kind, .string x.offer.turn.name, .int .i64 x.offer.turn.steps, .slice ad3 x.offer.turn.files.length cp3, .slice ad4 x.offer.turn.said.length cp4] _ HRG.out Tryz.underlying41 rfl (by kernel_rfl) ?_))
      refine (sameMs_none x.offer _ HM.out (K0.out.next HB0.out.lo) (K1.out.next HB0.out.lo) (K2.out.next HB0.out.lo) (K3.out.next HB0.out.lo) (K4.out.next HB0.out.lo)).mono ?_
      rintro e W2 ⟨⟨b, rfl, hb⟩, hb2⟩
      have HS := hid hb
      have HB2 := hid (HB0.out.next hb2)
      clear hb hb2
      go_wp2
      go_ret
      exact ⟨⟨b, rfl, HS.out.trans ⟨fun h => ⟨C0.out, .inl ⟨HH.out, h⟩⟩, fun h => by
        rcases h.2 with h2 | h2
        · exact h2.2
        · have h3 := h2.1
          rw [HH.out] at h3
          cases h3⟩⟩, HB2.out.lo⟩
    · have HH := hid hh
      cases hu : x.up
      · have HU := hid hu
        go_wp2
        go_ret
        refine ⟨says_f fun h => ?_, HB0.out.lo⟩
        rcases h.2 with h2 | h2
        · have h3 := h2.1
          rw [HH.out] at h3
          cases h3
        · have h3 := h2.2.1
          rw [HU.out] at h3
          cases h3
      · have HU := hid hu
        rw [hh, hu] at HRW
        go_wp2_with (first | (refine wpList_taken rfl fun K hK => ?_; refine wp_load_mid 43 _ rfl (w.heap.size) 0 rfl [(.int .i64 x.number), .bool true, .bool true, .int .i64 x.offer.kind, .int .i64 x.offer.to, .int .i64 x.offer.sender, .int .i64 x.offer.epoch, .int .i64 x.offer.edit, .string x.offer.target.name, .string x.offer.target.tool, .string x.offer.target.arg, .slice ad0 x.offer.target.ins.length cp0, .slice ad1 x.offer.target.outs.length cp1, .slice ad2 x.offer.seen.length cp2, .int .i64 x.offer.count, .bool x.offer.turn.over, .int .i64 x.offer.turn.code, .string x.offer.turn.text, .int .i64 x.offer.turn.kind, .string x.offer.turn.name, .int .i64 x.offer.turn.steps, .slice ad3 x.offer.turn.files.length cp3, .slice ad4 x.offer.turn.said.length cp4] _ HRW.out Tryz.underlying43 rfl (by kernel_rfl) ?_; refine hK _ _ ?_; clear hK K) | (refine wpList_taken rfl fun K hK => ?_; refine wp_load_mid 41 _ rfl (w.heap.size) 3 rfl [.int .i64 x.offer.kind, .int .i64 x.offer.to, .int .i64 x.offer.sender, .int .i64 x.offer.epoch, .int .i64 x.offer.edit, .string x.offer.target.name, .string x.offer.target.tool, .string x.offer.target.arg, .slice ad0 x.offer.target.ins.length cp0, .slice ad1 x.offer.target.outs.length cp1, .slice ad2 x.offer.seen.length cp2, .int .i64 x.offer.count, .bool x.offer.turn.over, .int .i64 x.offer.turn.code, .string x.offer.turn.text, .int .i64 x.offer.turn.kind, .string x.offer.turn.name, .int .i64 x.offer.turn.steps, .slice ad3 x.offer.turn.files.length cp3, .slice ad4 x.offer.turn.said.length cp4] _ HRG.out Tryz.underlying41 rfl (by kernel_rfl) ?_; refine hK _ _ ?_; clear hK K))
        have HMH := hid (mayHave_any x x.offer W0 HM.out (K0.out.next HB0.out.lo) (K1.out.next HB0.out.lo) (K2.out.next HB0.out.lo) (K3.out.next HB0.out.lo) (K4.out.next HB0.out.lo) (K0.out.next HB0.out.lo) (K1.out.next HB0.out.lo) (K2.out.next HB0.out.lo) (K3.out.next HB0.out.lo) (K4.out.next HB0.out.lo))
        rw [hh, hu] at HMH
        refine HMH.out.mono ?_
        rintro e W2 ⟨⟨b, rfl, hb⟩, hb2⟩
        have HS := hid hb
        have HB2 := hid (HB0.out.next hb2)
        clear hb hb2
        go_wp2
        go_ret
        exact ⟨⟨b, rfl, HS.out.trans ⟨fun h => ⟨C0.out, .inr ⟨HH.out, HU.out, h⟩⟩, fun h => by
          rcases h.2 with h2 | h2
          · have h3 := h2.1
            rw [HH.out] at h3
            cases h3
          · exact h2.2.2⟩⟩, HB2.out.lo⟩
  · have C0 := hid c0
    clear c0
    go_upto_region 2 with (refine (isWorker_any x.number _).mono ?_; rintro e W1 ⟨hs, hW⟩; obtain rfl := hW.symm; have hq := hs.neg C0.out; obtain rfl := hq; clear hs)
    go_wp2
    go_ret
    exact ⟨says_f fun h => C0.out h.1, HB0.out.lo⟩
end Go.Proofs.YtlopcjhipajdcaaGreatDoor.Y
