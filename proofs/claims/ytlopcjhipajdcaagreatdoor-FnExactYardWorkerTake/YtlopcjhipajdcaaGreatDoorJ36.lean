import Derived.Test.YtlopcjhipajdcaaGreatDoorJ31
/-! Sameness by the program: messages. Printed by gen_ysame.py. -/
namespace Go.Proofs.YtlopcjhipajdcaaGreatDoor.Y
open Go.RowKit R
open Go.Proofs.YtlopcjhipajdcaaGreatDoor.J (FileOk BegOk RepOk ltB Says says_t says_f)
set_option maxRecDepth 20000
set_option maxHeartbeats 16000000 in
theorem sameMs_none0 (m : Ms) {v0 v1 v2 v3 v4 : Value} (w : World) (hm : SmMs m) (k0 : SStrA w v0 m.target.ins) (k1 : SStrA w v1 m.target.outs) (k2 : SSnA w v2 m.seen) (k3 : SFlA w v3 m.turn.files) (k4 : SStrA w v4 m.turn.said) :
    Calls Tryz.prog 22 #[.agg #[.int .i64 m.kind, .int .i64 m.to, .int .i64 m.sender, .int .i64 m.epoch, .int .i64 m.edit, .string m.target.name, .string m.target.tool, .string m.target.arg, v0, v1, v2, .int .i64 m.count, .bool m.turn.over, .int .i64 m.turn.code, .string m.turn.text, .int .i64 m.turn.kind, .string m.turn.name, .int .i64 m.turn.steps, v3, v4], .agg #[.int .i64 0, .int .i64 0, .int .i64 0, .int .i64 0, .int .i64 0, .string ⟨#[]⟩, .string ⟨#[]⟩, .string ⟨#[]⟩, .slice none 0 0, .slice none 0 0, .slice none 0 0, .int .i64 0, .bool false, .int .i64 0, .string ⟨#[]⟩, .int .i64 0, .string ⟨#[]⟩, .int .i64 0, .slice none 0 0, .slice none 0 0]] w fun e w' => Says e (m.kind = 0 ∧ m.to = 0 ∧ m.sender = 0 ∧ m.epoch = 0 ∧ m.edit = 0 ∧ m.count = 0 ∧ TgNone m.target ∧ m.seen = [] ∧ TuNone m.turn) ∧ Below w.heap.size w w' := by
  obtain ⟨ht, hsn, hu⟩ := hm
  have K0 := hid k0
  obtain ⟨ad0, cp0, rfl⟩ := k0.sl
  have K1 := hid k1
  obtain ⟨ad1, cp1, rfl⟩ := k1.sl
  have K2 := hid k2
  obtain ⟨ad2, cp2, rfl⟩ := k2.sl
  have K3 := hid k3
  obtain ⟨ad3, cp3, rfl⟩ := k3.sl
  have K4 := hid k4
  obtain ⟨ad4, cp4, rfl⟩ := k4.sl
  clear k0 k1 k2 k3 k4
  have HB0 := hid (B2.start w (.cells #[.int .i64 m.kind, .int .i64 m.to, .int .i64 m.sender, .int .i64 m.epoch, .int .i64 m.edit, .string m.target.name, .string m.target.tool, .string m.target.arg, .slice ad0 m.target.ins.length cp0, .slice ad1 m.target.outs.length cp1, .slice ad2 m.seen.length cp2, .int .i64 m.count, .bool m.turn.over, .int .i64 m.turn.code, .string m.turn.text, .int .i64 m.turn.kind, .string m.turn.name, .int .i64 m.turn.steps, .slice ad3 m.turn.files.length cp3, .slice ad4 m.turn.said.length cp4] 41) (.cells #[.int .i64 0, .int .i64 0, .int .i64 0, .int .i64 0, .int .i64 0, .string ⟨#[]⟩, .string ⟨#[]⟩, .string ⟨#[]⟩, .slice none 0 0, .slice none 0 0, .slice none 0 0, .int .i64 0, .bool false, .int .i64 0, .string ⟨#[]⟩, .int .i64 0, .string ⟨#[]⟩, .int .i64 0, .slice none 0 0, .slice none 0 0] 41))
  obtain ⟨W0, hW0⟩ : ∃ W, (w.alloc (.cells #[.int .i64 m.kind, .int .i64 m.to, .int .i64 m.sender, .int .i64 m.epoch, .int .i64 m.edit, .string m.target.name, .string m.target.tool, .string m.target.arg, .slice ad0 m.target.ins.length cp0, .slice ad1 m.target.outs.length cp1, .slice ad2 m.seen.length cp2, .int .i64 m.count, .bool m.turn.over, .int .i64 m.turn.code, .string m.turn.text, .int .i64 m.turn.kind, .string m.turn.name, .int .i64 m.turn.steps, .slice ad3 m.turn.files.length cp3, .slice ad4 m.turn.said.length cp4] 41)).alloc (.cells #[.int .i64 0, .int .i64 0, .int .i64 0, .int .i64 0, .int .i64 0, .string ⟨#[]⟩, .string ⟨#[]⟩, .string ⟨#[]⟩, .slice none 0 0, .slice none 0 0, .slice none 0 0, .int .i64 0, .bool false, .int .i64 0, .string ⟨#[]⟩, .int .i64 0, .string ⟨#[]⟩, .int .i64 0, .slice none 0 0, .slice none 0 0] 41) = W := ⟨_, rfl⟩
  rw [hW0] at HB0
  by_cases c0 : m.kind = 0
  · have q0 : (m.kind == 0) = true := by simp [c0]
    have C0 := hid c0
    clear c0
    by_cases c1 : m.to = 0
    · have q1 : (m.to == 0) = true := by simp [c1]
      have C1 := hid c1
      clear c1
      by_cases c2 : m.sender = 0
      · have q2 : (m.sender == 0) = true := by simp [c2]
        have C2 := hid c2
        clear c2
        by_cases c3 : m.epoch = 0
        · have q3 : (m.epoch == 0) = true := by simp [c3]
          have C3 := hid c3
          clear c3
          by_cases c4 : m.edit = 0
          · have q4 : (m.edit == 0) = true := by simp [c4]
            have C4 := hid c4
            clear c4
            by_cases c5 : m.count = 0
            · have q5 : (m.count == 0) = true := by simp [c5]
              have C5 := hid c5
              clear c5
              by_cases c6 : TgNone m.target
              · have C6 := hid c6
                clear c6
                by_cases c7 : m.seen = []
                · have C7 := hid c7
                  clear c7
                  by_cases c8 : TuNone m.turn
                  · have C8 := hid c8
                    clear c8
                    go_enter Tryz.func22, Tryz.ntmps22
                    go_upto_region 1 with fail
                    clear hW0
                    have x0_0_0 : W0.cell? ⟨w.heap.size, 0, none⟩ = some (.int .i64 m.kind) := row_cell HB0.out.e 0
                    have x0_1_0 : W0.cell? ⟨w.heap.size + 1, 0, none⟩ = some (.int .i64 0) := row_cell HB0.out.f 0
                    have x0_0_1 : W0.cell? ⟨w.heap.size, 1, none⟩ = some (.int .i64 m.to) := row_cell HB0.out.e 1
                    have x0_1_1 : W0.cell? ⟨w.heap.size + 1, 1, none⟩ = some (.int .i64 0) := row_cell HB0.out.f 1
                    have x0_0_2 : W0.cell? ⟨w.heap.size, 2, none⟩ = some (.int .i64 m.sender) := row_cell HB0.out.e 2
                    have x0_1_2 : W0.cell? ⟨w.heap.size + 1, 2, none⟩ = some (.int .i64 0) := row_cell HB0.out.f 2
                    have x0_0_3 : W0.cell? ⟨w.heap.size, 3, none⟩ = some (.int .i64 m.epoch) := row_cell HB0.out.e 3
                    have x0_1_3 : W0.cell? ⟨w.heap.size + 1, 3, none⟩ = some (.int .i64 0) := row_cell HB0.out.f 3
                    have x0_0_4 : W0.cell? ⟨w.heap.size, 4, none⟩ = some (.int .i64 m.edit) := row_cell HB0.out.e 4
                    have x0_1_4 : W0.cell? ⟨w.heap.size + 1, 4, none⟩ = some (.int .i64 0) := row_cell HB0.out.f 4
                    have x0_0_11 : W0.cell? ⟨w.heap.size, 11, none⟩ = some (.int .i64 m.count) := row_cell HB0.out.e 11
                    have x0_1_11 : W0.cell? ⟨w.heap.size + 1, 11, none⟩ = some (.int .i64 0) := row_cell HB0.out.f 11
                    have x0_0_5 : W0.cell? ⟨w.heap.size, 5, none⟩ = some (.string m.target.name) := row_cell HB0.out.e 5
                    have x0_1_5 : W0.cell? ⟨w.heap.size + 1, 5, none⟩ = some (.string ⟨#[]⟩) := row_cell HB0.out.f 5
                    have x0_0_6 : W0.cell? ⟨w.heap.size, 6, none⟩ = some (.string m.target.tool) := row_cell HB0.out.e 6
                    have x0_1_6 : W0.cell? ⟨w.heap.size + 1, 6, none⟩ = some (.string ⟨#[]⟩) := row_cell HB0.out.f 6
                    have x0_0_7 : W0.cell? ⟨w.heap.size, 7, none⟩ = some (.string m.target.arg) := row_cell HB0.out.e 7
                    have x0_1_7 : W0.cell? ⟨w.heap.size + 1, 7, none⟩ = some (.string ⟨#[]⟩) := row_cell HB0.out.f 7
                    have x0_0_8 : W0.cell? ⟨w.heap.size, 8, none⟩ = some (.slice ad0 m.target.ins.length cp0) := row_cell HB0.out.e 8
                    have x0_1_8 : W0.cell? ⟨w.heap.size + 1, 8, none⟩ = some (.slice none 0 0) := row_cell HB0.out.f 8
                    have x0_0_9 : W0.cell? ⟨w.heap.size, 9, none⟩ = some (.slice ad1 m.target.outs.length cp1) := row_cell HB0.out.e 9
                    have x0_1_9 : W0.cell? ⟨w.heap.size + 1, 9, none⟩ = some (.slice none 0 0) := row_cell HB0.out.f 9
                    have x0_0_10 : W0.cell? ⟨w.heap.size, 10, none⟩ = some (.slice ad2 m.seen.length cp2) := row_cell HB0.out.e 10
                    have x0_1_10 : W0.cell? ⟨w.heap.size + 1, 10, none⟩ = some (.slice none 0 0) := row_cell HB0.out.f 10
                    have x0_0_12 : W0.cell? ⟨w.heap.size, 12, none⟩ = some (.bool m.turn.over) := row_cell HB0.out.e 12
                    have x0_1_12 : W0.cell? ⟨w.heap.size + 1, 12, none⟩ = some (.bool false) := row_cell HB0.out.f 12
                    have x0_0_13 : W0.cell? ⟨w.heap.size, 13, none⟩ = some (.int .i64 m.turn.code) := row_cell HB0.out.e 13
                    have x0_1_13 : W0.cell? ⟨w.heap.size + 1, 13, none⟩ = some (.int .i64 0) := row_cell HB0.out.f 13
                    have x0_0_14 : W0.cell? ⟨w.heap.size, 14, none⟩ = some (.string m.turn.text) := row_cell HB0.out.e 14
                    have x0_1_14 : W0.cell? ⟨w.heap.size + 1, 14, none⟩ = some (.string ⟨#[]⟩) := row_cell HB0.out.f 14
                    have x0_0_15 : W0.cell? ⟨w.heap.size, 15, none⟩ = some (.int .i64 m.turn.kind) := row_cell HB0.out.e 15
                    have x0_1_15 : W0.cell? ⟨w.heap.size + 1, 15, none⟩ = some (.int .i64 0) := row_cell HB0.out.f 15
                    have x0_0_16 : W0.cell? ⟨w.heap.size, 16, none⟩ = some (.string m.turn.name) := row_cell HB0.out.e 16
                    have x0_1_16 : W0.cell? ⟨w.heap.size + 1, 16, none⟩ = some (.string ⟨#[]⟩) := row_cell HB0.out.f 16
                    have x0_0_17 : W0.cell? ⟨w.heap.size, 17, none⟩ = some (.int .i64 m.turn.steps) := row_cell HB0.out.e 17
                    have x0_1_17 : W0.cell? ⟨w.heap.size + 1, 17, none⟩ = some (.int .i64 0) := row_cell HB0.out.f 17
                    have x0_0_18 : W0.cell? ⟨w.heap.size, 18, none⟩ = some (.slice ad3 m.turn.files.length cp3) := row_cell HB0.out.e 18
                    have x0_1_18 : W0.cell? ⟨w.heap.size + 1, 18, none⟩ = some (.slice none 0 0) := row_cell HB0.out.f 18
                    have x0_0_19 : W0.cell? ⟨w.heap.size, 19, none⟩ = some (.slice ad4 m.turn.said.length cp4) := row_cell HB0.out.e 19
                    have x0_1_19 : W0.cell? ⟨w.heap.size + 1, 19, none⟩ = some (.slice none 0 0) := row_cell HB0.out.f 19
                    go_wp2_with fail
                    refine (houseSame_none m.target _ ht (K0.out.next HB0.out.lo) (K1.out.next HB0.out.lo)).mono ?_
                    rintro e W1 ⟨hs, hb⟩
                    have hq := hs.pos C6.out
                    obtain rfl := hq
                    have HB1 := hid (HB0.out.next hb)
                    clear hs hb x0_0_0 x0_1_0 x0_0_1 x0_1_1 x0_0_2 x0_1_2 x0_0_3 x0_1_3 x0_0_4 x0_1_4 x0_0_11 x0_1_11 x0_0_5 x0_1_5 x0_0_6 x0_1_6 x0_0_7 x0_1_7 x0_0_8 x0_1_8 x0_0_9 x0_1_9 x0_0_10 x0_1_10 x0_0_12 x0_1_12 x0_0_13 x0_1_13 x0_0_14 x0_1_14 x0_0_15 x0_1_15 x0_0_16 x0_1_16 x0_0_17 x0_1_17 x0_0_18 x0_1_18 x0_0_19 x0_1_19
                    have x1_0_10 : W1.cell? ⟨w.heap.size, 10, none⟩ = some (.slice ad2 m.seen.length cp2) := row_cell HB1.out.e 10
                    have x1_1_10 : W1.cell? ⟨w.heap.size + 1, 10, none⟩ = some (.slice none 0 0) := row_cell HB1.out.f 10
                    have x1_0_12 : W1.cell? ⟨w.heap.size, 12, none⟩ = some (.bool m.turn.over) := row_cell HB1.out.e 12
                    have x1_1_12 : W1.cell? ⟨w.heap.size + 1, 12, none⟩ = some (.bool false) := row_cell HB1.out.f 12
                    have x1_0_13 : W1.cell? ⟨w.heap.size, 13, none⟩ = some (.int .i64 m.turn.code) := row_cell HB1.out.e 13
                    have x1_1_13 : W1.cell? ⟨w.heap.size + 1, 13, none⟩ = some (.int .i64 0) := row_cell HB1.out.f 13
                    have x1_0_14 : W1.cell? ⟨w.heap.size, 14, none⟩ = some (.string m.turn.text) := row_cell HB1.out.e 14
                    have x1_1_14 : W1.cell? ⟨w.heap.size + 1, 14, none⟩ = some (.string ⟨#[]⟩) := row_cell HB1.out.f 14
                    have x1_0_15 : W1.cell? ⟨w.heap.size, 15, none⟩ = some (.int .i64 m.turn.kind) := row_cell HB1.out.e 15
                    have x1_1_15 : W1.cell? ⟨w.heap.size + 1, 15, none⟩ = some (.int .i64 0) := row_cell HB1.out.f 15
                    have x1_0_16 : W1.cell? ⟨w.heap.size, 16, none⟩ = some (.string m.turn.name) := row_cell HB1.out.e 16
                    have x1_1_16 : W1.cell? ⟨w.heap.size + 1, 16, none⟩ = some (.string ⟨#[]⟩) := row_cell HB1.out.f 16
                    have x1_0_17 : W1.cell? ⟨w.heap.size, 17, none⟩ = some (.int .i64 m.turn.steps) := row_cell HB1.out.e 17
                    have x1_1_17 : W1.cell? ⟨w.heap.size + 1, 17, none⟩ = some (.int .i64 0) := row_cell HB1.out.f 17
                    have x1_0_18 : W1.cell? ⟨w.heap.size, 18, none⟩ = some (.slice ad3 m.turn.files.length cp3) := row_cell HB1.out.e 18
                    have x1_1_18 : W1.cell? ⟨w.heap.size + 1, 18, none⟩ = some (.slice none 0 0) := row_cell HB1.out.f 18
                    have x1_0_19 : W1.cell? ⟨w.heap.size, 19, none⟩ = some (.slice ad4 m.turn.said.length cp4) := row_cell HB1.out.e 19
                    have x1_1_19 : W1.cell? ⟨w.heap.size + 1, 19, none⟩ = some (.slice none 0 0) := row_cell HB1.out.f 19
                    go_wp2_with fail
                    refine (same_below (equalSn_r m.seen _ hsn.1 (K2.out.next HB1.out.lo))).mono ?_
                    rintro e W2 ⟨hs, hb⟩
                    have hq := hs.pos C7.out
                    obtain rfl := hq
                    have HB2 := hid (HB1.out.next hb)
                    clear hs hb x1_0_10 x1_1_10 x1_0_12 x1_1_12 x1_0_13 x1_1_13 x1_0_14 x1_1_14 x1_0_15 x1_1_15 x1_0_16 x1_1_16 x1_0_17 x1_1_17 x1_0_18 x1_1_18 x1_0_19 x1_1_19
                    have x2_0_12 : W2.cell? ⟨w.heap.size, 12, none⟩ = some (.bool m.turn.over) := row_cell HB2.out.e 12
                    have x2_1_12 : W2.cell? ⟨w.heap.size + 1, 12, none⟩ = some (.bool false) := row_cell HB2.out.f 12
                    have x2_0_13 : W2.cell? ⟨w.heap.size, 13, none⟩ = some (.int .i64 m.turn.code) := row_cell HB2.out.e 13
                    have x2_1_13 : W2.cell? ⟨w.heap.size + 1, 13, none⟩ = some (.int .i64 0) := row_cell HB2.out.f 13
                    have x2_0_14 : W2.cell? ⟨w.heap.size, 14, none⟩ = some (.string m.turn.text) := row_cell HB2.out.e 14
                    have x2_1_14 : W2.cell? ⟨w.heap.size + 1, 14, none⟩ = some (.string ⟨#[]⟩) := row_cell HB2.out.f 14
                    have x2_0_15 : W2.cell? ⟨w.heap.size, 15, none⟩ = some (.int .i64 m.turn.kind) := row_cell HB2.out.e 15
                    have x2_1_15 : W2.cell? ⟨w.heap.size + 1, 15, none⟩ = some (.int .i64 0) := row_cell HB2.out.f 15
                    have x2_0_16 : W2.cell? ⟨w.heap.size, 16, none⟩ = some (.string m.turn.name) := row_cell HB2.out.e 16
                    have x2_1_16 : W2.cell? ⟨w.heap.size + 1, 16, none⟩ = some (.string ⟨#[]⟩) := row_cell HB2.out.f 16
                    have x2_0_17 : W2.cell? ⟨w.heap.size, 17, none⟩ = some (.int .i64 m.turn.steps) := row_cell HB2.out.e 17
                    have x2_1_17 : W2.cell? ⟨w.heap.size + 1, 17, none⟩ = some (.int .i64 0) := row_cell HB2.out.f 17
                    have x2_0_18 : W2.cell? ⟨w.heap.size, 18, none⟩ = some (.slice ad3 m.turn.files.length cp3) := row_cell HB2.out.e 18
                    have x2_1_18 : W2.cell? ⟨w.heap.size + 1, 18, none⟩ = some (.slice none 0 0) := row_cell HB2.out.f 18
                    have x2_0_19 : W2.cell? ⟨w.heap.size, 19, none⟩ = some (.slice ad4 m.turn.said.length cp4) := row_cell HB2.out.e 19
                    have x2_1_19 : W2.cell? ⟨w.heap.size + 1, 19, none⟩ = some (.slice none 0 0) := row_cell HB2.out.f 19
                    go_wp2_with fail
                    refine (sameTurn_r m.turn _ hu (K3.out.next HB2.out.lo) (K4.out.next HB2.out.lo)).mono ?_
                    rintro e W3 ⟨hs, hb⟩
                    have hq := hs.pos C8.out
                    obtain rfl := hq
                    have HB3 := hid (HB2.out.next hb)
                    clear hs hb x2_0_12 x2_1_12 x2_0_13 x2_1_13 x2_0_14 x2_1_14 x2_0_15 x2_1_15 x2_0_16 x2_1_16 x2_0_17 x2_1_17 x2_0_18 x2_1_18 x2_0_19 x2_1_19
                    go_wp2
                    go_ret
                    exact ⟨says_t ⟨C0.out, C1.out, C2.out, C3.out, C4.out, C5.out, C6.out, C7.out, C8.out⟩, HB3.out.lo⟩
                  · have C8 := hid c8
                    clear c8
                    go_enter Tryz.func22, Tryz.ntmps22
                    go_upto_region 1 with fail
                    clear hW0
                    have x0_0_0 : W0.cell? ⟨w.heap.size, 0, none⟩ = some (.int .i64 m.kind) := row_cell HB0.out.e 0
                    have x0_1_0 : W0.cell? ⟨w.heap.size + 1, 0, none⟩ = some (.int .i64 0) := row_cell HB0.out.f 0
                    have x0_0_1 : W0.cell? ⟨w.heap.size, 1, none⟩ = some (.int .i64 m.to) := row_cell HB0.out.e 1
                    have x0_1_1 : W0.cell? ⟨w.heap.size + 1, 1, none⟩ = some (.int .i64 0) := row_cell HB0.out.f 1
                    have x0_0_2 : W0.cell? ⟨w.heap.size, 2, none⟩ = some (.int .i64 m.sender) := row_cell HB0.out.e 2
                    have x0_1_2 : W0.cell? ⟨w.heap.size + 1, 2, none⟩ = some (.int .i64 0) := row_cell HB0.out.f 2
                    have x0_0_3 : W0.cell? ⟨w.heap.size, 3, none⟩ = some (.int .i64 m.epoch) := row_cell HB0.out.e 3
                    have x0_1_3 : W0.cell? ⟨w.heap.size + 1, 3, none⟩ = some (.int .i64 0) := row_cell HB0.out.f 3
                    have x0_0_4 : W0.cell? ⟨w.heap.size, 4, none⟩ = some (.int .i64 m.edit) := row_cell HB0.out.e 4
                    have x0_1_4 : W0.cell? ⟨w.heap.size + 1, 4, none⟩ = some (.int .i64 0) := row_cell HB0.out.f 4
                    have x0_0_11 : W0.cell? ⟨w.heap.size, 11, none⟩ = some (.int .i64 m.count) := row_cell HB0.out.e 11
                    have x0_1_11 : W0.cell? ⟨w.heap.size + 1, 11, none⟩ = some (.int .i64 0) := row_cell HB0.out.f 11
                    have x0_0_5 : W0.cell? ⟨w.heap.size, 5, none⟩ = some (.string m.target.name) := row_cell HB0.out.e 5
                    have x0_1_5 : W0.cell? ⟨w.heap.size + 1, 5, none⟩ = some (.string ⟨#[]⟩) := row_cell HB0.out.f 5
                    have x0_0_6 : W0.cell? ⟨w.heap.size, 6, none⟩ = some (.string m.target.tool) := row_cell HB0.out.e 6
                    have x0_1_6 : W0.cell? ⟨w.heap.size + 1, 6, none⟩ = some (.string ⟨#[]⟩) := row_cell HB0.out.f 6
                    have x0_0_7 : W0.cell? ⟨w.heap.size, 7, none⟩ = some (.string m.target.arg) := row_cell HB0.out.e 7
                    have x0_1_7 : W0.cell? ⟨w.heap.size + 1, 7, none⟩ = some (.string ⟨#[]⟩) := row_cell HB0.out.f 7
                    have x0_0_8 : W0.cell? ⟨w.heap.size, 8, none⟩ = some (.slice ad0 m.target.ins.length cp0) := row_cell HB0.out.e 8
                    have x0_1_8 : W0.cell? ⟨w.heap.size + 1, 8, none⟩ = some (.slice none 0 0) := row_cell HB0.out.f 8
                    have x0_0_9 : W0.cell? ⟨w.heap.size, 9, none⟩ = some (.slice ad1 m.target.outs.length cp1) := row_cell HB0.out.e 9
                    have x0_1_9 : W0.cell? ⟨w.heap.size + 1, 9, none⟩ = some (.slice none 0 0) := row_cell HB0.out.f 9
                    have x0_0_10 : W0.cell? ⟨w.heap.size, 10, none⟩ = some (.slice ad2 m.seen.length cp2) := row_cell HB0.out.e 10
                    have x0_1_10 : W0.cell? ⟨w.heap.size + 1, 10, none⟩ = some (.slice none 0 0) := row_cell HB0.out.f 10
                    have x0_0_12 : W0.cell? ⟨w.heap.size, 12, none⟩ = some (.bool m.turn.over) := row_cell HB0.out.e 12
                    have x0_1_12 : W0.cell? ⟨w.heap.size + 1, 12, none⟩ = some (.bool false) := row_cell HB0.out.f 12
                    have x0_0_13 : W0.cell? ⟨w.heap.size, 13, none⟩ = some (.int .i64 m.turn.code) := row_cell HB0.out.e 13
                    have x0_1_13 : W0.cell? ⟨w.heap.size + 1, 13, none⟩ = some (.int .i64 0) := row_cell HB0.out.f 13
                    have x0_0_14 : W0.cell? ⟨w.heap.size, 14, none⟩ = some (.string m.turn.text) := row_cell HB0.out.e 14
                    have x0_1_14 : W0.cell? ⟨w.heap.size + 1, 14, none⟩ = some (.string ⟨#[]⟩) := row_cell HB0.out.f 14
                    have x0_0_15 : W0.cell? ⟨w.heap.size, 15, none⟩ = some (.int .i64 m.turn.kind) := row_cell HB0.out.e 15
                    have x0_1_15 : W0.cell? ⟨w.heap.size + 1, 15, none⟩ = some (.int .i64 0) := row_cell HB0.out.f 15
                    have x0_0_16 : W0.cell? ⟨w.heap.size, 16, none⟩ = some (.string m.turn.name) := row_cell HB0.out.e 16
                    have x0_1_16 : W0.cell? ⟨w.heap.size + 1, 16, none⟩ = some (.string ⟨#[]⟩) := row_cell HB0.out.f 16
                    have x0_0_17 : W0.cell? ⟨w.heap.size, 17, none⟩ = some (.int .i64 m.turn.steps) := row_cell HB0.out.e 17
                    have x0_1_17 : W0.cell? ⟨w.heap.size + 1, 17, none⟩ = some (.int .i64 0) := row_cell HB0.out.f 17
                    have x0_0_18 : W0.cell? ⟨w.heap.size, 18, none⟩ = some (.slice ad3 m.turn.files.length cp3) := row_cell HB0.out.e 18
                    have x0_1_18 : W0.cell? ⟨w.heap.size + 1, 18, none⟩ = some (.slice none 0 0) := row_cell HB0.out.f 18
                    have x0_0_19 : W0.cell? ⟨w.heap.size, 19, none⟩ = some (.slice ad4 m.turn.said.length cp4) := row_cell HB0.out.e 19
                    have x0_1_19 : W0.cell? ⟨w.heap.size + 1, 19, none⟩ = some (.slice none 0 0) := row_cell HB0.out.f 19
                    go_wp2_with fail
                    refine (houseSame_none m.target _ ht (K0.out.next HB0.out.lo) (K1.out.next HB0.out.lo)).mono ?_
                    rintro e W1 ⟨hs, hb⟩
                    have hq := hs.pos C6.out
                    obtain rfl := hq
                    have HB1 := hid (HB0.out.next hb)
                    clear hs hb x0_0_0 x0_1_0 x0_0_1 x0_1_1 x0_0_2 x0_1_2 x0_0_3 x0_1_3 x0_0_4 x0_1_4 x0_0_11 x0_1_11 x0_0_5 x0_1_5 x0_0_6 x0_1_6 x0_0_7 x0_1_7 x0_0_8 x0_1_8 x0_0_9 x0_1_9 x0_0_10 x0_1_10 x0_0_12 x0_1_12 x0_0_13 x0_1_13 x0_0_14 x0_1_14 x0_0_15 x0_1_15 x0_0_16 x0_1_16 x0_0_17 x0_1_17 x0_0_18 x0_1_18 x0_0_19 x0_1_19
                    have x1_0_10 : W1.cell? ⟨w.heap.size, 10, none⟩ = some (.slice ad2 m.seen.length cp2) := row_cell HB1.out.e 10
                    have x1_1_10 : W1.cell? ⟨w.heap.size + 1, 10, none⟩ = some (.slice none 0 0) := row_cell HB1.out.f 10
                    have x1_0_12 : W1.cell? ⟨w.heap.size, 12, none⟩ = some (.bool m.turn.over) := row_cell HB1.out.e 12
                    have x1_1_12 : W1.cell? ⟨w.heap.size + 1, 12, none⟩ = some (.bool false) := row_cell HB1.out.f 12
                    have x1_0_13 : W1.cell? ⟨w.heap.size, 13, none⟩ = some (.int .i64 m.turn.code) := row_cell HB1.out.e 13
                    have x1_1_13 : W1.cell? ⟨w.heap.size + 1, 13, none⟩ = some (.int .i64 0) := row_cell HB1.out.f 13
                    have x1_0_14 : W1.cell? ⟨w.heap.size, 14, none⟩ = some (.string m.turn.text) := row_cell HB1.out.e 14
                    have x1_1_14 : W1.cell? ⟨w.heap.size + 1, 14, none⟩ = some (.string ⟨#[]⟩) := row_cell HB1.out.f 14
                    have x1_0_15 : W1.cell? ⟨w.heap.size, 15, none⟩ = some (.int .i64 m.turn.kind) := row_cell HB1.out.e 15
                    have x1_1_15 : W1.cell? ⟨w.heap.size + 1, 15, none⟩ = some (.int .i64 0) := row_cell HB1.out.f 15
                    have x1_0_16 : W1.cell? ⟨w.heap.size, 16, none⟩ = some (.string m.turn.name) := row_cell HB1.out.e 16
                    have x1_1_16 : W1.cell? ⟨w.heap.size + 1, 16, none⟩ = some (.string ⟨#[]⟩) := row_cell HB1.out.f 16
                    have x1_0_17 : W1.cell? ⟨w.heap.size, 17, none⟩ = some (.int .i64 m.turn.steps) := row_cell HB1.out.e 17
                    have x1_1_17 : W1.cell? ⟨w.heap.size + 1, 17, none⟩ = some (.int .i64 0) := row_cell HB1.out.f 17
                    have x1_0_18 : W1.cell? ⟨w.heap.size, 18, none⟩ = some (.slice ad3 m.turn.files.length cp3) := row_cell HB1.out.e 18
                    have x1_1_18 : W1.cell? ⟨w.heap.size + 1, 18, none⟩ = some (.slice none 0 0) := row_cell HB1.out.f 18
                    have x1_0_19 : W1.cell? ⟨w.heap.size, 19, none⟩ = some (.slice ad4 m.turn.said.length cp4) := row_cell HB1.out.e 19
                    have x1_1_19 : W1.cell? ⟨w.heap.size + 1, 19, none⟩ = some (.slice none 0 0) := row_cell HB1.out.f 19
                    go_wp2_with fail
                    refine (same_below (equalSn_r m.seen _ hsn.1 (K2.out.next HB1.out.lo))).mono ?_
                    rintro e W2 ⟨hs, hb⟩
                    have hq := hs.pos C7.out
                    obtain rfl := hq
                    have HB2 := hid (HB1.out.next hb)
                    clear hs hb x1_0_10 x1_1_10 x1_0_12 x1_1_12 x1_0_13 x1_1_13 x1_0_14 x1_1_14 x1_0_15 x1_1_15 x1_0_16 x1_1_16 x1_0_17 x1_1_17 x1_0_18 x1_1_18 x1_0_19 x1_1_19
                    have x2_0_12 : W2.cell? ⟨w.heap.size, 12, none⟩ = some (.bool m.turn.over) := row_cell HB2.out.e 12
                    have x2_1_12 : W2.cell? ⟨w.heap.size + 1, 12, none⟩ = some (.bool false) := row_cell HB2.out.f 12
                    have x2_0_13 : W2.cell? ⟨w.heap.size, 13, none⟩ = some (.int .i64 m.turn.code) := row_cell HB2.out.e 13
                    have x2_1_13 : W2.cell? ⟨w.heap.size + 1, 13, none⟩ = some (.int .i64 0) := row_cell HB2.out.f 13
                    have x2_0_14 : W2.cell? ⟨w.heap.size, 14, none⟩ = some (.string m.turn.text) := row_cell HB2.out.e 14
                    have x2_1_14 : W2.cell? ⟨w.heap.size + 1, 14, none⟩ = some (.string ⟨#[]⟩) := row_cell HB2.out.f 14
                    have x2_0_15 : W2.cell? ⟨w.heap.size, 15, none⟩ = some (.int .i64 m.turn.kind) := row_cell HB2.out.e 15
                    have x2_1_15 : W2.cell? ⟨w.heap.size + 1, 15, none⟩ = some (.int .i64 0) := row_cell HB2.out.f 15
                    have x2_0_16 : W2.cell? ⟨w.heap.size, 16, none⟩ = some (.string m.turn.name) := row_cell HB2.out.e 16
                    have x2_1_16 : W2.cell? ⟨w.heap.size + 1, 16, none⟩ = some (.string ⟨#[]⟩) := row_cell HB2.out.f 16
                    have x2_0_17 : W2.cell? ⟨w.heap.size, 17, none⟩ = some (.int .i64 m.turn.steps) := row_cell HB2.out.e 17
                    have x2_1_17 : W2.cell? ⟨w.heap.size + 1, 17, none⟩ = some (.int .i64 0) := row_cell HB2.out.f 17
                    have x2_0_18 : W2.cell? ⟨w.heap.size, 18, none⟩ = some (.slice ad3 m.turn.files.length cp3) := row_cell HB2.out.e 18
                    have x2_1_18 : W2.cell? ⟨w.heap.size + 1, 18, none⟩ = some (.slice none 0 0) := row_cell HB2.out.f 18
                    have x2_0_19 : W2.cell? ⟨w.heap.size, 19, none⟩ = some (.slice ad4 m.turn.said.length cp4) := row_cell HB2.out.e 19
                    have x2_1_19 : W2.cell? ⟨w.heap.size + 1, 19, none⟩ = some (.slice none 0 0) := row_cell HB2.out.f 19
                    go_wp2_with fail
                    refine (sameTurn_r m.turn _ hu (K3.out.next HB2.out.lo) (K4.out.next HB2.out.lo)).mono ?_
                    rintro e W3 ⟨hs, hb⟩
                    have hq := hs.neg C8.out
                    obtain rfl := hq
                    have HB3 := hid (HB2.out.next hb)
                    clear hs hb x2_0_12 x2_1_12 x2_0_13 x2_1_13 x2_0_14 x2_1_14 x2_0_15 x2_1_15 x2_0_16 x2_1_16 x2_0_17 x2_1_17 x2_0_18 x2_1_18 x2_0_19 x2_1_19
                    go_wp2
                    go_ret
                    exact ⟨says_f fun h => C8.out h.2.2.2.2.2.2.2.2, HB3.out.lo⟩
                · have C7 := hid c7
                  clear c7
                  go_enter Tryz.func22, Tryz.ntmps22
                  go_upto_region 1 with fail
                  clear hW0
                  have x0_0_0 : W0.cell? ⟨w.heap.size, 0, none⟩ = some (.int .i64 m.kind) := row_cell HB0.out.e 0
                  have x0_1_0 : W0.cell? ⟨w.heap.size + 1, 0, none⟩ = some (.int .i64 0) := row_cell HB0.out.f 0
                  have x0_0_1 : W0.cell? ⟨w.heap.size, 1, none⟩ = some (.int .i64 m.to) := row_cell HB0.out.e 1
                  have x0_1_1 : W0.cell? ⟨w.heap.size + 1, 1, none⟩ = some (.int .i64 0) := row_cell HB0.out.f 1
                  have x0_0_2 : W0.cell? ⟨w.heap.size, 2, none⟩ = some (.int .i64 m.sender) := row_cell HB0.out.e 2
                  have x0_1_2 : W0.cell? ⟨w.heap.size + 1, 2, none⟩ = some (.int .i64 0) := row_cell HB0.out.f 2
                  have x0_0_3 : W0.cell? ⟨w.heap.size, 3, none⟩ = some (.int .i64 m.epoch) := row_cell HB0.out.e 3
                  have x0_1_3 : W0.cell? ⟨w.heap.size + 1, 3, none⟩ = some (.int .i64 0) := row_cell HB0.out.f 3
                  have x0_0_4 : W0.cell? ⟨w.heap.size, 4, none⟩ = some (.int .i64 m.edit) := row_cell HB0.out.e 4
                  have x0_1_4 : W0.cell? ⟨w.heap.size + 1, 4, none⟩ = some (.int .i64 0) := row_cell HB0.out.f 4
                  have x0_0_11 : W0.cell? ⟨w.heap.size, 11, none⟩ = some (.int .i64 m.count) := row_cell HB0.out.e 11
                  have x0_1_11 : W0.cell? ⟨w.heap.size + 1, 11, none⟩ = some (.int .i64 0) := row_cell HB0.out.f 11
                  have x0_0_5 : W0.cell? ⟨w.heap.size, 5, none⟩ = some (.string m.target.name) := row_cell HB0.out.e 5
                  have x0_1_5 : W0.cell? ⟨w.heap.size + 1, 5, none⟩ = some (.string ⟨#[]⟩) := row_cell HB0.out.f 5
                  have x0_0_6 : W0.cell? ⟨w.heap.size, 6, none⟩ = some (.string m.target.tool) := row_cell HB0.out.e 6
                  have x0_1_6 : W0.cell? ⟨w.heap.size + 1, 6, none⟩ = some (.string ⟨#[]⟩) := row_cell HB0.out.f 6
                  have x0_0_7 : W0.cell? ⟨w.heap.size, 7, none⟩ = some (.string m.target.arg) := row_cell HB0.out.e 7
                  have x0_1_7 : W0.cell? ⟨w.heap.size + 1, 7, none⟩ = some (.string ⟨#[]⟩) := row_cell HB0.out.f 7
                  have x0_0_8 : W0.cell? ⟨w.heap.size, 8, none⟩ = some (.slice ad0 m.target.ins.length cp0) := row_cell HB0.out.e 8
                  have x0_1_8 : W0.cell? ⟨w.heap.size + 1, 8, none⟩ = some (.slice none 0 0) := row_cell HB0.out.f 8
                  have x0_0_9 : W0.cell? ⟨w.heap.size, 9, none⟩ = some (.slice ad1 m.target.outs.length cp1) := row_cell HB0.out.e 9
                  have x0_1_9 : W0.cell? ⟨w.heap.size + 1, 9, none⟩ = some (.slice none 0 0) := row_cell HB0.out.f 9
                  have x0_0_10 : W0.cell? ⟨w.heap.size, 10, none⟩ = some (.slice ad2 m.seen.length cp2) := row_cell HB0.out.e 10
                  have x0_1_10 : W0.cell? ⟨w.heap.size + 1, 10, none⟩ = some (.slice none 0 0) := row_cell HB0.out.f 10
                  have x0_0_12 : W0.cell? ⟨w.heap.size, 12, none⟩ = some (.bool m.turn.over) := row_cell HB0.out.e 12
                  have x0_1_12 : W0.cell? ⟨w.heap.size + 1, 12, none⟩ = some (.bool false) := row_cell HB0.out.f 12
                  have x0_0_13 : W0.cell? ⟨w.heap.size, 13, none⟩ = some (.int .i64 m.turn.code) := row_cell HB0.out.e 13
                  have x0_1_13 : W0.cell? ⟨w.heap.size + 1, 13, none⟩ = some (.int .i64 0) := row_cell HB0.out.f 13
                  have x0_0_14 : W0.cell? ⟨w.heap.size, 14, none⟩ = some (.string m.turn.text) := row_cell HB0.out.e 14
                  have x0_1_14 : W0.cell? ⟨w.heap.size + 1, 14, none⟩ = some (.string ⟨#[]⟩) := row_cell HB0.out.f 14
                  have x0_0_15 : W0.cell? ⟨w.heap.size, 15, none⟩ = some (.int .i64 m.turn.kind) := row_cell HB0.out.e 15
                  have x0_1_15 : W0.cell? ⟨w.heap.size + 1, 15, none⟩ = some (.int .i64 0) := row_cell HB0.out.f 15
                  have x0_0_16 : W0.cell? ⟨w.heap.size, 16, none⟩ = some (.string m.turn.name) := row_cell HB0.out.e 16
                  have x0_1_16 : W0.cell? ⟨w.heap.size + 1, 16, none⟩ = some (.string ⟨#[]⟩) := row_cell HB0.out.f 16
                  have x0_0_17 : W0.cell? ⟨w.heap.size, 17, none⟩ = some (.int .i64 m.turn.steps) := row_cell HB0.out.e 17
                  have x0_1_17 : W0.cell? ⟨w.heap.size + 1, 17, none⟩ = some (.int .i64 0) := row_cell HB0.out.f 17
                  have x0_0_18 : W0.cell? ⟨w.heap.size, 18, none⟩ = some (.slice ad3 m.turn.files.length cp3) := row_cell HB0.out.e 18
                  have x0_1_18 : W0.cell? ⟨w.heap.size + 1, 18, none⟩ = some (.slice none 0 0) := row_cell HB0.out.f 18
                  have x0_0_19 : W0.cell? ⟨w.heap.size, 19, none⟩ = some (.slice ad4 m.turn.said.length cp4) := row_cell HB0.out.e 19
                  have x0_1_19 : W0.cell? ⟨w.heap.size + 1, 19, none⟩ = some (.slice none 0 0) := row_cell HB0.out.f 19
                  go_wp2_with fail
                  refine (houseSame_none m.target _ ht (K0.out.next HB0.out.lo) (K1.out.next HB0.out.lo)).mono ?_
                  rintro e W1 ⟨hs, hb⟩
                  have hq := hs.pos C6.out
                  obtain rfl := hq
                  have HB1 := hid (HB0.out.next hb)
                  clear hs hb x0_0_0 x0_1_0 x0_0_1 x0_1_1 x0_0_2 x0_1_2 x0_0_3 x0_1_3 x0_0_4 x0_1_4 x0_0_11 x0_1_11 x0_0_5 x0_1_5 x0_0_6 x0_1_6 x0_0_7 x0_1_7 x0_0_8 x0_1_8 x0_0_9 x0_1_9 x0_0_10 x0_1_10 x0_0_12 x0_1_12 x0_0_13 x0_1_13 x0_0_14 x0_1_14 x0_0_15 x0_1_15 x0_0_16 x0_1_16 x0_0_17 x0_1_17 x0_0_18 x0_1_18 x0_0_19 x0_1_19
                  have x1_0_10 : W1.cell? ⟨w.heap.size, 10, none⟩ = some (.slice ad2 m.seen.length cp2) := row_cell HB1.out.e 10
                  have x1_1_10 : W1.cell? ⟨w.heap.size + 1, 10, none⟩ = some (.slice none 0 0) := row_cell HB1.out.f 10
                  have x1_0_12 : W1.cell? ⟨w.heap.size, 12, none⟩ = some (.bool m.turn.over) := row_cell HB1.out.e 12
                  have x1_1_12 : W1.cell? ⟨w.heap.size + 1, 12, none⟩ = some (.bool false) := row_cell HB1.out.f 12
                  have x1_0_13 : W1.cell? ⟨w.heap.size, 13, none⟩ = some (.int .i64 m.turn.code) := row_cell HB1.out.e 13
                  have x1_1_13 : W1.cell? ⟨w.heap.size + 1, 13, none⟩ = some (.int .i64 0) := row_cell HB1.out.f 13
                  have x1_0_14 : W1.cell? ⟨w.heap.size, 14, none⟩ = some (.string m.turn.text) := row_cell HB1.out.e 14
                  have x1_1_14 : W1.cell? ⟨w.heap.size + 1, 14, none⟩ = some (.string ⟨#[]⟩) := row_cell HB1.out.f 14
                  have x1_0_15 : W1.cell? ⟨w.heap.size, 15, none⟩ = some (.int .i64 m.turn.kind) := row_cell HB1.out.e 15
                  have x1_1_15 : W1.cell? ⟨w.heap.size + 1, 15, none⟩ = some (.int .i64 0) := row_cell HB1.out.f 15
                  have x1_0_16 : W1.cell? ⟨w.heap.size, 16, none⟩ = some (.string m.turn.name) := row_cell HB1.out.e 16
                  have x1_1_16 : W1.cell? ⟨w.heap.size + 1, 16, none⟩ = some (.string ⟨#[]⟩) := row_cell HB1.out.f 16
                  have x1_0_17 : W1.cell? ⟨w.heap.size, 17, none⟩ = some (.int .i64 m.turn.steps) := row_cell HB1.out.e 17
                  have x1_1_17 : W1.cell? ⟨w.heap.size + 1, 17, none⟩ = some (.int .i64 0) := row_cell HB1.out.f 17
                  have x1_0_18 : W1.cell? ⟨w.heap.size, 18, none⟩ = some (.slice ad3 m.turn.files.length cp3) := row_cell HB1.out.e 18
                  have x1_1_18 : W1.cell? ⟨w.heap.size + 1, 18, none⟩ = some (.slice none 0 0) := row_cell HB1.out.f 18
                  have x1_0_19 : W1.cell? ⟨w.heap.size, 19, none⟩ = some (.slice ad4 m.turn.said.length cp4) := row_cell HB1.out.e 19
                  have x1_1_19 : W1.cell? ⟨w.heap.size + 1, 19, none⟩ = some (.slice none 0 0) := row_cell HB1.out.f 19
                  go_wp2_with fail
                  refine (same_below (equalSn_r m.seen _ hsn.1 (K2.out.next HB1.out.lo))).mono ?_
                  rintro e W2 ⟨hs, hb⟩
                  have hq := hs.neg C7.out
                  obtain rfl := hq
                  have HB2 := hid (HB1.out.next hb)
                  clear hs hb x1_0_10 x1_1_10 x1_0_12 x1_1_12 x1_0_13 x1_1_13 x1_0_14 x1_1_14 x1_0_15 x1_1_15 x1_0_16 x1_1_16 x1_0_17 x1_1_17 x1_0_18 x1_1_18 x1_0_19 x1_1_19
                  go_wp2
                  go_ret
                  exact ⟨says_f fun h => C7.out h.2.2.2.2.2.2.2.1, HB2.out.lo⟩
              · have C6 := hid c6
                clear c6
                go_enter Tryz.func22, Tryz.ntmps22
                go_upto_region 1 with fail
                clear hW0
                have x0_0_0 : W0.cell? ⟨w.heap.size, 0, none⟩ = some (.int .i64 m.kind) := row_cell HB0.out.e 0
                have x0_1_0 : W0.cell? ⟨w.heap.size + 1, 0, none⟩ = some (.int .i64 0) := row_cell HB0.out.f 0
                have x0_0_1 : W0.cell? ⟨w.heap.size, 1, none⟩ = some (.int .i64 m.to) := row_cell HB0.out.e 1
                have x0_1_1 : W0.cell? ⟨w.heap.size + 1, 1, none⟩ = some (.int .i64 0) := row_cell HB0.out.f 1
                have x0_0_2 : W0.cell? ⟨w.heap.size, 2, none⟩ = some (.int .i64 m.sender) := row_cell HB0.out.e 2
                have x0_1_2 : W0.cell? ⟨w.heap.size + 1, 2, none⟩ = some (.int .i64 0) := row_cell HB0.out.f 2
                have x0_0_3 : W0.cell? ⟨w.heap.size, 3, none⟩ = some (.int .i64 m.epoch) := row_cell HB0.out.e 3
                have x0_1_3 : W0.cell? ⟨w.heap.size + 1, 3, none⟩ = some (.int .i64 0) := row_cell HB0.out.f 3
                have x0_0_4 : W0.cell? ⟨w.heap.size, 4, none⟩ = some (.int .i64 m.edit) := row_cell HB0.out.e 4
                have x0_1_4 : W0.cell? ⟨w.heap.size + 1, 4, none⟩ = some (.int .i64 0) := row_cell HB0.out.f 4
                have x0_0_11 : W0.cell? ⟨w.heap.size, 11, none⟩ = some (.int .i64 m.count) := row_cell HB0.out.e 11
                have x0_1_11 : W0.cell? ⟨w.heap.size + 1, 11, none⟩ = some (.int .i64 0) := row_cell HB0.out.f 11
                have x0_0_5 : W0.cell? ⟨w.heap.size, 5, none⟩ = some (.string m.target.name) := row_cell HB0.out.e 5
                have x0_1_5 : W0.cell? ⟨w.heap.size + 1, 5, none⟩ = some (.string ⟨#[]⟩) := row_cell HB0.out.f 5
                have x0_0_6 : W0.cell? ⟨w.heap.size, 6, none⟩ = some (.string m.target.tool) := row_cell HB0.out.e 6
                have x0_1_6 : W0.cell? ⟨w.heap.size + 1, 6, none⟩ = some (.string ⟨#[]⟩) := row_cell HB0.out.f 6
                have x0_0_7 : W0.cell? ⟨w.heap.size, 7, none⟩ = some (.string m.target.arg) := row_cell HB0.out.e 7
                have x0_1_7 : W0.cell? ⟨w.heap.size + 1, 7, none⟩ = some (.string ⟨#[]⟩) := row_cell HB0.out.f 7
                have x0_0_8 : W0.cell? ⟨w.heap.size, 8, none⟩ = some (.slice ad0 m.target.ins.length cp0) := row_cell HB0.out.e 8
                have x0_1_8 : W0.cell? ⟨w.heap.size + 1, 8, none⟩ = some (.slice none 0 0) := row_cell HB0.out.f 8
                have x0_0_9 : W0.cell? ⟨w.heap.size, 9, none⟩ = some (.slice ad1 m.target.outs.length cp1) := row_cell HB0.out.e 9
                have x0_1_9 : W0.cell? ⟨w.heap.size + 1, 9, none⟩ = some (.slice none 0 0) := row_cell HB0.out.f 9
                have x0_0_10 : W0.cell? ⟨w.heap.size, 10, none⟩ = some (.slice ad2 m.seen.length cp2) := row_cell HB0.out.e 10
                have x0_1_10 : W0.cell? ⟨w.heap.size + 1, 10, none⟩ = some (.slice none 0 0) := row_cell HB0.out.f 10
                have x0_0_12 : W0.cell? ⟨w.heap.size, 12, none⟩ = some (.bool m.turn.over) := row_cell HB0.out.e 12
                have x0_1_12 : W0.cell? ⟨w.heap.size + 1, 12, none⟩ = some (.bool false) := row_cell HB0.out.f 12
                have x0_0_13 : W0.cell? ⟨w.heap.size, 13, none⟩ = some (.int .i64 m.turn.code) := row_cell HB0.out.e 13
                have x0_1_13 : W0.cell? ⟨w.heap.size + 1, 13, none⟩ = some (.int .i64 0) := row_cell HB0.out.f 13
                have x0_0_14 : W0.cell? ⟨w.heap.size, 14, none⟩ = some (.string m.turn.text) := row_cell HB0.out.e 14
                have x0_1_14 : W0.cell? ⟨w.heap.size + 1, 14, none⟩ = some (.string ⟨#[]⟩) := row_cell HB0.out.f 14
                have x0_0_15 : W0.cell? ⟨w.heap.size, 15, none⟩ = some (.int .i64 m.turn.kind) := row_cell HB0.out.e 15
                have x0_1_15 : W0.cell? ⟨w.heap.size + 1, 15, none⟩ = some (.int .i64 0) := row_cell HB0.out.f 15
                have x0_0_16 : W0.cell? ⟨w.heap.size, 16, none⟩ = some (.string m.turn.name) := row_cell HB0.out.e 16
                have x0_1_16 : W0.cell? ⟨w.heap.size + 1, 16, none⟩ = some (.string ⟨#[]⟩) := row_cell HB0.out.f 16
                have x0_0_17 : W0.cell? ⟨w.heap.size, 17, none⟩ = some (.int .i64 m.turn.steps) := row_cell HB0.out.e 17
                have x0_1_17 : W0.cell? ⟨w.heap.size + 1, 17, none⟩ = some (.int .i64 0) := row_cell HB0.out.f 17
                have x0_0_18 : W0.cell? ⟨w.heap.size, 18, none⟩ = some (.slice ad3 m.turn.files.length cp3) := row_cell HB0.out.e 18
                have x0_1_18 : W0.cell? ⟨w.heap.size + 1, 18, none⟩ = some (.slice none 0 0) := row_cell HB0.out.f 18
                have x0_0_19 : W0.cell? ⟨w.heap.size, 19, none⟩ = some (.slice ad4 m.turn.said.length cp4) := row_cell HB0.out.e 19
                have x0_1_19 : W0.cell? ⟨w.heap.size + 1, 19, none⟩ = some (.slice none 0 0) := row_cell HB0.out.f 19
                go_wp2_with fail
                refine (houseSame_none m.target _ ht (K0.out.next HB0.out.lo) (K1.out.next HB0.out.lo)).mono ?_
                rintro e W1 ⟨hs, hb⟩
                have hq := hs.neg C6.out
                obtain rfl := hq
                have HB1 := hid (HB0.out.next hb)
                clear hs hb x0_0_0 x0_1_0 x0_0_1 x0_1_1 x0_0_2 x0_1_2 x0_0_3 x0_1_3 x0_0_4 x0_1_4 x0_0_11 x0_1_11 x0_0_5 x0_1_5 x0_0_6 x0_1_6 x0_0_7 x0_1_7 x0_0_8 x0_1_8 x0_0_9 x0_1_9 x0_0_10 x0_1_10 x0_0_12 x0_1_12 x0_0_13 x0_1_13 x0_0_14 x0_1_14 x0_0_15 x0_1_15 x0_0_16 x0_1_16 x0_0_17 x0_1_17 x0_0_18 x0_1_18 x0_0_19 x0_1_19
                go_wp2
                go_ret
                exact ⟨says_f fun h => C6.out h.2.2.2.2.2.2.1, HB1.out.lo⟩
            · have q5 : (m.count == 0) = false := by simp [c5]
              have C5 := hid c5
              clear c5
              go_enter Tryz.func22, Tryz.ntmps22
              go_upto_region 1 with fail
              clear hW0
              have x0_0_0 : W0.cell? ⟨w.heap.size, 0, none⟩ = some (.int .i64 m.kind) := row_cell HB0.out.e 0
              have x0_1_0 : W0.cell? ⟨w.heap.size + 1, 0, none⟩ = some (.int .i64 0) := row_cell HB0.out.f 0
              have x0_0_1 : W0.cell? ⟨w.heap.size, 1, none⟩ = some (.int .i64 m.to) := row_cell HB0.out.e 1
              have x0_1_1 : W0.cell? ⟨w.heap.size + 1, 1, none⟩ = some (.int .i64 0) := row_cell HB0.out.f 1
              have x0_0_2 : W0.cell? ⟨w.heap.size, 2, none⟩ = some (.int .i64 m.sender) := row_cell HB0.out.e 2
              have x0_1_2 : W0.cell? ⟨w.heap.size + 1, 2, none⟩ = some (.int .i64 0) := row_cell HB0.out.f 2
              have x0_0_3 : W0.cell? ⟨w.heap.size, 3, none⟩ = some (.int .i64 m.epoch) := row_cell HB0.out.e 3
              have x0_1_3 : W0.cell? ⟨w.heap.size + 1, 3, none⟩ = some (.int .i64 0) := row_cell HB0.out.f 3
              have x0_0_4 : W0.cell? ⟨w.heap.size, 4, none⟩ = some (.int .i64 m.edit) := row_cell HB0.out.e 4
              have x0_1_4 : W0.cell? ⟨w.heap.size + 1, 4, none⟩ = some (.int .i64 0) := row_cell HB0.out.f 4
              have x0_0_11 : W0.cell? ⟨w.heap.size, 11, none⟩ = some (.int .i64 m.count) := row_cell HB0.out.e 11
              have x0_1_11 : W0.cell? ⟨w.heap.size + 1, 11, none⟩ = some (.int .i64 0) := row_cell HB0.out.f 11
              have x0_0_5 : W0.cell? ⟨w.heap.size, 5, none⟩ = some (.string m.target.name) := row_cell HB0.out.e 5
              have x0_1_5 : W0.cell? ⟨w.heap.size + 1, 5, none⟩ = some (.string ⟨#[]⟩) := row_cell HB0.out.f 5
              have x0_0_6 : W0.cell? ⟨w.heap.size, 6, none⟩ = some (.string m.target.tool) := row_cell HB0.out.e 6
              have x0_1_6 : W0.cell? ⟨w.heap.size + 1, 6, none⟩ = some (.string ⟨#[]⟩) := row_cell HB0.out.f 6
              have x0_0_7 : W0.cell? ⟨w.heap.size, 7, none⟩ = some (.string m.target.arg) := row_cell HB0.out.e 7
              have x0_1_7 : W0.cell? ⟨w.heap.size + 1, 7, none⟩ = some (.string ⟨#[]⟩) := row_cell HB0.out.f 7
              have x0_0_8 : W0.cell? ⟨w.heap.size, 8, none⟩ = some (.slice ad0 m.target.ins.length cp0) := row_cell HB0.out.e 8
              have x0_1_8 : W0.cell? ⟨w.heap.size + 1, 8, none⟩ = some (.slice none 0 0) := row_cell HB0.out.f 8
              have x0_0_9 : W0.cell? ⟨w.heap.size, 9, none⟩ = some (.slice ad1 m.target.outs.length cp1) := row_cell HB0.out.e 9
              have x0_1_9 : W0.cell? ⟨w.heap.size + 1, 9, none⟩ = some (.slice none 0 0) := row_cell HB0.out.f 9
              have x0_0_10 : W0.cell? ⟨w.heap.size, 10, none⟩ = some (.slice ad2 m.seen.length cp2) := row_cell HB0.out.e 10
              have x0_1_10 : W0.cell? ⟨w.heap.size + 1, 10, none⟩ = some (.slice none 0 0) := row_cell HB0.out.f 10
              have x0_0_12 : W0.cell? ⟨w.heap.size, 12, none⟩ = some (.bool m.turn.over) := row_cell HB0.out.e 12
              have x0_1_12 : W0.cell? ⟨w.heap.size + 1, 12, none⟩ = some (.bool false) := row_cell HB0.out.f 12
              have x0_0_13 : W0.cell? ⟨w.heap.size, 13, none⟩ = some (.int .i64 m.turn.code) := row_cell HB0.out.e 13
              have x0_1_13 : W0.cell? ⟨w.heap.size + 1, 13, none⟩ = some (.int .i64 0) := row_cell HB0.out.f 13
              have x0_0_14 : W0.cell? ⟨w.heap.size, 14, none⟩ = some (.string m.turn.text) := row_cell HB0.out.e 14
              have x0_1_14 : W0.cell? ⟨w.heap.size + 1, 14, none⟩ = some (.string ⟨#[]⟩) := row_cell HB0.out.f 14
              have x0_0_15 : W0.cell? ⟨w.heap.size, 15, none⟩ = some (.int .i64 m.turn.kind) := row_cell HB0.out.e 15
              have x0_1_15 : W0.cell? ⟨w.heap.size + 1, 15, none⟩ = some (.int .i64 0) := row_cell HB0.out.f 15
              have x0_0_16 : W0.cell? ⟨w.heap.size, 16, none⟩ = some (.string m.turn.name) := row_cell HB0.out.e 16
              have x0_1_16 : W0.cell? ⟨w.heap.size + 1, 16, none⟩ = some (.string ⟨#[]⟩) := row_cell HB0.out.f 16
              have x0_0_17 : W0.cell? ⟨w.heap.size, 17, none⟩ = some (.int .i64 m.turn.steps) := row_cell HB0.out.e 17
              have x0_1_17 : W0.cell? ⟨w.heap.size + 1, 17, none⟩ = some (.int .i64 0) := row_cell HB0.out.f 17
              have x0_0_18 : W0.cell? ⟨w.heap.size, 18, none⟩ = some (.slice ad3 m.turn.files.length cp3) := row_cell HB0.out.e 18
              have x0_1_18 : W0.cell? ⟨w.heap.size + 1, 18, none⟩ = some (.slice none 0 0) := row_cell HB0.out.f 18
              have x0_0_19 : W0.cell? ⟨w.heap.size, 19, none⟩ = some (.slice ad4 m.turn.said.length cp4) := row_cell HB0.out.e 19
              have x0_1_19 : W0.cell? ⟨w.heap.size + 1, 19, none⟩ = some (.slice none 0 0) := row_cell HB0.out.f 19
              go_wp2
              go_ret
              exact ⟨says_f fun h => C5.out h.2.2.2.2.2.1, HB0.out.lo⟩
          · have q4 : (m.edit == 0) = false := by simp [c4]
            have C4 := hid c4
            clear c4
            go_enter Tryz.func22, Tryz.ntmps22
            go_upto_region 1 with fail
            clear hW0
            have x0_0_0 : W0.cell? ⟨w.heap.size, 0, none⟩ = some (.int .i64 m.kind) := row_cell HB0.out.e 0
            have x0_1_0 : W0.cell? ⟨w.heap.size + 1, 0, none⟩ = some (.int .i64 0) := row_cell HB0.out.f 0
            have x0_0_1 : W0.cell? ⟨w.heap.size, 1, none⟩ = some (.int .i64 m.to) := row_cell HB0.out.e 1
            have x0_1_1 : W0.cell? ⟨w.heap.size + 1, 1, none⟩ = some (.int .i64 0) := row_cell HB0.out.f 1
            have x0_0_2 : W0.cell? ⟨w.heap.size, 2, none⟩ = some (.int .i64 m.sender) := row_cell HB0.out.e 2
            have x0_1_2 : W0.cell? ⟨w.heap.size + 1, 2, none⟩ = some (.int .i64 0) := row_cell HB0.out.f 2
            have x0_0_3 : W0.cell? ⟨w.heap.size, 3, none⟩ = some (.int .i64 m.epoch) := row_cell HB0.out.e 3
            have x0_1_3 : W0.cell? ⟨w.heap.size + 1, 3, none⟩ = some (.int .i64 0) := row_cell HB0.out.f 3
            have x0_0_4 : W0.cell? ⟨w.heap.size, 4, none⟩ = some (.int .i64 m.edit) := row_cell HB0.out.e 4
            have x0_1_4 : W0.cell? ⟨w.heap.size + 1, 4, none⟩ = some (.int .i64 0) := row_cell HB0.out.f 4
            have x0_0_11 : W0.cell? ⟨w.heap.size, 11, none⟩ = some (.int .i64 m.count) := row_cell HB0.out.e 11
            have x0_1_11 : W0.cell? ⟨w.heap.size + 1, 11, none⟩ = some (.int .i64 0) := row_cell HB0.out.f 11
            have x0_0_5 : W0.cell? ⟨w.heap.size, 5, none⟩ = some (.string m.target.name) := row_cell HB0.out.e 5
            have x0_1_5 : W0.cell? ⟨w.heap.size + 1, 5, none⟩ = some (.string ⟨#[]⟩) := row_cell HB0.out.f 5
            have x0_0_6 : W0.cell? ⟨w.heap.size, 6, none⟩ = some (.string m.target.tool) := row_cell HB0.out.e 6
            have x0_1_6 : W0.cell? ⟨w.heap.size + 1, 6, none⟩ = some (.string ⟨#[]⟩) := row_cell HB0.out.f 6
            have x0_0_7 : W0.cell? ⟨w.heap.size, 7, none⟩ = some (.string m.target.arg) := row_cell HB0.out.e 7
            have x0_1_7 : W0.cell? ⟨w.heap.size + 1, 7, none⟩ = some (.string ⟨#[]⟩) := row_cell HB0.out.f 7
            have x0_0_8 : W0.cell? ⟨w.heap.size, 8, none⟩ = some (.slice ad0 m.target.ins.length cp0) := row_cell HB0.out.e 8
            have x0_1_8 : W0.cell? ⟨w.heap.size + 1, 8, none⟩ = some (.slice none 0 0) := row_cell HB0.out.f 8
            have x0_0_9 : W0.cell? ⟨w.heap.size, 9, none⟩ = some (.slice ad1 m.target.outs.length cp1) := row_cell HB0.out.e 9
            have x0_1_9 : W0.cell? ⟨w.heap.size + 1, 9, none⟩ = some (.slice none 0 0) := row_cell HB0.out.f 9
            have x0_0_10 : W0.cell? ⟨w.heap.size, 10, none⟩ = some (.slice ad2 m.seen.length cp2) := row_cell HB0.out.e 10
            have x0_1_10 : W0.cell? ⟨w.heap.size + 1, 10, none⟩ = some (.slice none 0 0) := row_cell HB0.out.f 10
            have x0_0_12 : W0.cell? ⟨w.heap.size, 12, none⟩ = some (.bool m.turn.over) := row_cell HB0.out.e 12
            have x0_1_12 : W0.cell? ⟨w.heap.size + 1, 12, none⟩ = some (.bool false) := row_cell HB0.out.f 12
            have x0_0_13 : W0.cell? ⟨w.heap.size, 13, none⟩ = some (.int .i64 m.turn.code) := row_cell HB0.out.e 13
            have x0_1_13 : W0.cell? ⟨w.heap.size + 1, 13, none⟩ = some (.int .i64 0) := row_cell HB0.out.f 13
            have x0_0_14 : W0.cell? ⟨w.heap.size, 14, none⟩ = some (.string m.turn.text) := row_cell HB0.out.e 14
            have x0_1_14 : W0.cell? ⟨w.heap.size + 1, 14, none⟩ = some (.string ⟨#[]⟩) := row_cell HB0.out.f 14
            have x0_0_15 : W0.cell? ⟨w.heap.size, 15, none⟩ = some (.int .i64 m.turn.kind) := row_cell HB0.out.e 15
            have x0_1_15 : W0.cell? ⟨w.heap.size + 1, 15, none⟩ = some (.int .i64 0) := row_cell HB0.out.f 15
            have x0_0_16 : W0.cell? ⟨w.heap.size, 16, none⟩ = some (.string m.turn.name) := row_cell HB0.out.e 16
            have x0_1_16 : W0.cell? ⟨w.heap.size + 1, 16, none⟩ = some (.string ⟨#[]⟩) := row_cell HB0.out.f 16
            have x0_0_17 : W0.cell? ⟨w.heap.size, 17, none⟩ = some (.int .i64 m.turn.steps) := row_cell HB0.out.e 17
            have x0_1_17 : W0.cell? ⟨w.heap.size + 1, 17, none⟩ = some (.int .i64 0) := row_cell HB0.out.f 17
            have x0_0_18 : W0.cell? ⟨w.heap.size, 18, none⟩ = some (.slice ad3 m.turn.files.length cp3) := row_cell HB0.out.e 18
            have x0_1_18 : W0.cell? ⟨w.heap.size + 1, 18, none⟩ = some (.slice none 0 0) := row_cell HB0.out.f 18
            have x0_0_19 : W0.cell? ⟨w.heap.size, 19, none⟩ = some (.slice ad4 m.turn.said.length cp4) := row_cell HB0.out.e 19
            have x0_1_19 : W0.cell? ⟨w.heap.size + 1, 19, none⟩ = some (.slice none 0 0) := row_cell HB0.out.f 19
            go_wp2
            go_ret
            exact ⟨says_f fun h => C4.out h.2.2.2.2.1, HB0.out.lo⟩
        · have q3 : (m.epoch == 0) = false := by simp [c3]
          have C3 := hid c3
          clear c3
          go_enter Tryz.func22, Tryz.ntmps22
          go_upto_region 1 with fail
          clear hW0
          have x0_0_0 : W0.cell? ⟨w.heap.size, 0, none⟩ = some (.int .i64 m.kind) := row_cell HB0.out.e 0
          have x0_1_0 : W0.cell? ⟨w.heap.size + 1, 0, none⟩ = some (.int .i64 0) := row_cell HB0.out.f 0
          have x0_0_1 : W0.cell? ⟨w.heap.size, 1, none⟩ = some (.int .i64 m.to) := row_cell HB0.out.e 1
          have x0_1_1 : W0.cell? ⟨w.heap.size + 1, 1, none⟩ = some (.int .i64 0) := row_cell HB0.out.f 1
          have x0_0_2 : W0.cell? ⟨w.heap.size, 2, none⟩ = some (.int .i64 m.sender) := row_cell HB0.out.e 2
          have x0_1_2 : W0.cell? ⟨w.heap.size + 1, 2, none⟩ = some (.int .i64 0) := row_cell HB0.out.f 2
          have x0_0_3 : W0.cell? ⟨w.heap.size, 3, none⟩ = some (.int .i64 m.epoch) := row_cell HB0.out.e 3
          have x0_1_3 : W0.cell? ⟨w.heap.size + 1, 3, none⟩ = some (.int .i64 0) := row_cell HB0.out.f 3
          have x0_0_4 : W0.cell? ⟨w.heap.size, 4, none⟩ = some (.int .i64 m.edit) := row_cell HB0.out.e 4
          have x0_1_4 : W0.cell? ⟨w.heap.size + 1, 4, none⟩ = some (.int .i64 0) := row_cell HB0.out.f 4
          have x0_0_11 : W0.cell? ⟨w.heap.size, 11, none⟩ = some (.int .i64 m.count) := row_cell HB0.out.e 11
          have x0_1_11 : W0.cell? ⟨w.heap.size + 1, 11, none⟩ = some (.int .i64 0) := row_cell HB0.out.f 11
          have x0_0_5 : W0.cell? ⟨w.heap.size, 5, none⟩ = some (.string m.target.name) := row_cell HB0.out.e 5
          have x0_1_5 : W0.cell? ⟨w.heap.size + 1, 5, none⟩ = some (.string ⟨#[]⟩) := row_cell HB0.out.f 5
          have x0_0_6 : W0.cell? ⟨w.heap.size, 6, none⟩ = some (.string m.target.tool) := row_cell HB0.out.e 6
          have x0_1_6 : W0.cell? ⟨w.heap.size + 1, 6, none⟩ = some (.string ⟨#[]⟩) := row_cell HB0.out.f 6
          have x0_0_7 : W0.cell? ⟨w.heap.size, 7, none⟩ = some (.string m.target.arg) := row_cell HB0.out.e 7
          have x0_1_7 : W0.cell? ⟨w.heap.size + 1, 7, none⟩ = some (.string ⟨#[]⟩) := row_cell HB0.out.f 7
          have x0_0_8 : W0.cell? ⟨w.heap.size, 8, none⟩ = some (.slice ad0 m.target.ins.length cp0) := row_cell HB0.out.e 8
          have x0_1_8 : W0.cell? ⟨w.heap.size + 1, 8, none⟩ = some (.slice none 0 0) := row_cell HB0.out.f 8
          have x0_0_9 : W0.cell? ⟨w.heap.size, 9, none⟩ = some (.slice ad1 m.target.outs.length cp1) := row_cell HB0.out.e 9
          have x0_1_9 : W0.cell? ⟨w.heap.size + 1, 9, none⟩ = some (.slice none 0 0) := row_cell HB0.out.f 9
          have x0_0_10 : W0.cell? ⟨w.heap.size, 10, none⟩ = some (.slice ad2 m.seen.length cp2) := row_cell HB0.out.e 10
          have x0_1_10 : W0.cell? ⟨w.heap.size + 1, 10, none⟩ = some (.slice none 0 0) := row_cell HB0.out.f 10
          have x0_0_12 : W0.cell? ⟨w.heap.size, 12, none⟩ = some (.bool m.turn.over) := row_cell HB0.out.e 12
          have x0_1_12 : W0.cell? ⟨w.heap.size + 1, 12, none⟩ = some (.bool false) := row_cell HB0.out.f 12
          have x0_0_13 : W0.cell? ⟨w.heap.size, 13, none⟩ = some (.int .i64 m.turn.code) := row_cell HB0.out.e 13
          have x0_1_13 : W0.cell? ⟨w.heap.size + 1, 13, none⟩ = some (.int .i64 0) := row_cell HB0.out.f 13
          have x0_0_14 : W0.cell? ⟨w.heap.size, 14, none⟩ = some (.string m.turn.text) := row_cell HB0.out.e 14
          have x0_1_14 : W0.cell? ⟨w.heap.size + 1, 14, none⟩ = some (.string ⟨#[]⟩) := row_cell HB0.out.f 14
          have x0_0_15 : W0.cell? ⟨w.heap.size, 15, none⟩ = some (.int .i64 m.turn.kind) := row_cell HB0.out.e 15
          have x0_1_15 : W0.cell? ⟨w.heap.size + 1, 15, none⟩ = some (.int .i64 0) := row_cell HB0.out.f 15
          have x0_0_16 : W0.cell? ⟨w.heap.size, 16, none⟩ = some (.string m.turn.name) := row_cell HB0.out.e 16
          have x0_1_16 : W0.cell? ⟨w.heap.size + 1, 16, none⟩ = some (.string ⟨#[]⟩) := row_cell HB0.out.f 16
          have x0_0_17 : W0.cell? ⟨w.heap.size, 17, none⟩ = some (.int .i64 m.turn.steps) := row_cell HB0.out.e 17
          have x0_1_17 : W0.cell? ⟨w.heap.size + 1, 17, none⟩ = some (.int .i64 0) := row_cell HB0.out.f 17
          have x0_0_18 : W0.cell? ⟨w.heap.size, 18, none⟩ = some (.slice ad3 m.turn.files.length cp3) := row_cell HB0.out.e 18
          have x0_1_18 : W0.cell? ⟨w.heap.size + 1, 18, none⟩ = some (.slice none 0 0) := row_cell HB0.out.f 18
          have x0_0_19 : W0.cell? ⟨w.heap.size, 19, none⟩ = some (.slice ad4 m.turn.said.length cp4) := row_cell HB0.out.e 19
          have x0_1_19 : W0.cell? ⟨w.heap.size + 1, 19, none⟩ = some (.slice none 0 0) := row_cell HB0.out.f 19
          go_wp2
          go_ret
          exact ⟨says_f fun h => C3.out h.2.2.2.1, HB0.out.lo⟩
      · have q2 : (m.sender == 0) = false := by simp [c2]
        have C2 := hid c2
        clear c2
        go_enter Tryz.func22, Tryz.ntmps22
        go_upto_region 1 with fail
        clear hW0
        have x0_0_0 : W0.cell? ⟨w.heap.size, 0, none⟩ = some (.int .i64 m.kind) := row_cell HB0.out.e 0
        have x0_1_0 : W0.cell? ⟨w.heap.size + 1, 0, none⟩ = some (.int .i64 0) := row_cell HB0.out.f 0
        have x0_0_1 : W0.cell? ⟨w.heap.size, 1, none⟩ = some (.int .i64 m.to) := row_cell HB0.out.e 1
        have x0_1_1 : W0.cell? ⟨w.heap.size + 1, 1, none⟩ = some (.int .i64 0) := row_cell HB0.out.f 1
        have x0_0_2 : W0.cell? ⟨w.heap.size, 2, none⟩ = some (.int .i64 m.sender) := row_cell HB0.out.e 2
        have x0_1_2 : W0.cell? ⟨w.heap.size + 1, 2, none⟩ = some (.int .i64 0) := row_cell HB0.out.f 2
        have x0_0_3 : W0.cell? ⟨w.heap.size, 3, none⟩ = some (.int .i64 m.epoch) := row_cell HB0.out.e 3
        have x0_1_3 : W0.cell? ⟨w.heap.size + 1, 3, none⟩ = some (.int .i64 0) := row_cell HB0.out.f 3
        have x0_0_4 : W0.cell? ⟨w.heap.size, 4, none⟩ = some (.int .i64 m.edit) := row_cell HB0.out.e 4
        have x0_1_4 : W0.cell? ⟨w.heap.size + 1, 4, none⟩ = some (.int .i64 0) := row_cell HB0.out.f 4
        have x0_0_11 : W0.cell? ⟨w.heap.size, 11, none⟩ = some (.int .i64 m.count) := row_cell HB0.out.e 11
        have x0_1_11 : W0.cell? ⟨w.heap.size + 1, 11, none⟩ = some (.int .i64 0) := row_cell HB0.out.f 11
        have x0_0_5 : W0.cell? ⟨w.heap.size, 5, none⟩ = some (.string m.target.name) := row_cell HB0.out.e 5
        have x0_1_5 : W0.cell? ⟨w.heap.size + 1, 5, none⟩ = some (.string ⟨#[]⟩) := row_cell HB0.out.f 5
        have x0_0_6 : W0.cell? ⟨w.heap.size, 6, none⟩ = some (.string m.target.tool) := row_cell HB0.out.e 6
        have x0_1_6 : W0.cell? ⟨w.heap.size + 1, 6, none⟩ = some (.string ⟨#[]⟩) := row_cell HB0.out.f 6
        have x0_0_7 : W0.cell? ⟨w.heap.size, 7, none⟩ = some (.string m.target.arg) := row_cell HB0.out.e 7
        have x0_1_7 : W0.cell? ⟨w.heap.size + 1, 7, none⟩ = some (.string ⟨#[]⟩) := row_cell HB0.out.f 7
        have x0_0_8 : W0.cell? ⟨w.heap.size, 8, none⟩ = some (.slice ad0 m.target.ins.length cp0) := row_cell HB0.out.e 8
        have x0_1_8 : W0.cell? ⟨w.heap.size + 1, 8, none⟩ = some (.slice none 0 0) := row_cell HB0.out.f 8
        have x0_0_9 : W0.cell? ⟨w.heap.size, 9, none⟩ = some (.slice ad1 m.target.outs.length cp1) := row_cell HB0.out.e 9
        have x0_1_9 : W0.cell? ⟨w.heap.size + 1, 9, none⟩ = some (.slice none 0 0) := row_cell HB0.out.f 9
        have x0_0_10 : W0.cell? ⟨w.heap.size, 10, none⟩ = some (.slice ad2 m.seen.length cp2) := row_cell HB0.out.e 10
        have x0_1_10 : W0.cell? ⟨w.heap.size + 1, 10, none⟩ = some (.slice none 0 0) := row_cell HB0.out.f 10
        have x0_0_12 : W0.cell? ⟨w.heap.size, 12, none⟩ = some (.bool m.turn.over) := row_cell HB0.out.e 12
        have x0_1_12 : W0.cell? ⟨w.heap.size + 1, 12, none⟩ = some (.bool false) := row_cell HB0.out.f 12
        have x0_0_13 : W0.cell? ⟨w.heap.size, 13, none⟩ = some (.int .i64 m.turn.code) := row_cell HB0.out.e 13
        have x0_1_13 : W0.cell? ⟨w.heap.size + 1, 13, none⟩ = some (.int .i64 0) := row_cell HB0.out.f 13
        have x0_0_14 : W0.cell? ⟨w.heap.size, 14, none⟩ = some (.string m.turn.text) := row_cell HB0.out.e 14
        have x0_1_14 : W0.cell? ⟨w.heap.size + 1, 14, none⟩ = some (.string ⟨#[]⟩) := row_cell HB0.out.f 14
        have x0_0_15 : W0.cell? ⟨w.heap.size, 15, none⟩ = some (.int .i64 m.turn.kind) := row_cell HB0.out.e 15
        have x0_1_15 : W0.cell? ⟨w.heap.size + 1, 15, none⟩ = some (.int .i64 0) := row_cell HB0.out.f 15
        have x0_0_16 : W0.cell? ⟨w.heap.size, 16, none⟩ = some (.string m.turn.name) := row_cell HB0.out.e 16
        have x0_1_16 : W0.cell? ⟨w.heap.size + 1, 16, none⟩ = some (.string ⟨#[]⟩) := row_cell HB0.out.f 16
        have x0_0_17 : W0.cell? ⟨w.heap.size, 17, none⟩ = some (.int .i64 m.turn.steps) := row_cell HB0.out.e 17
        have x0_1_17 : W0.cell? ⟨w.heap.size + 1, 17, none⟩ = some (.int .i64 0) := row_cell HB0.out.f 17
        have x0_0_18 : W0.cell? ⟨w.heap.size, 18, none⟩ = some (.slice ad3 m.turn.files.length cp3) := row_cell HB0.out.e 18
        have x0_1_18 : W0.cell? ⟨w.heap.size + 1, 18, none⟩ = some (.slice none 0 0) := row_cell HB0.out.f 18
        have x0_0_19 : W0.cell? ⟨w.heap.size, 19, none⟩ = some (.slice ad4 m.turn.said.length cp4) := row_cell HB0.out.e 19
        have x0_1_19 : W0.cell? ⟨w.heap.size + 1, 19, none⟩ = some (.slice none 0 0) := row_cell HB0.out.f 19
        go_wp2
        go_ret
        exact ⟨says_f fun h => C2.out h.2.2.1, HB0.out.lo⟩
    · have q1 : (m.to == 0) = false := by simp [c1]
      have C1 := hid c1
      clear c1
      go_enter Tryz.func22, Tryz.ntmps22
      go_upto_region 1 with fail
      clear hW0
      have x0_0_0 : W0.cell? ⟨w.heap.size, 0, none⟩ = some (.int .i64 m.kind) := row_cell HB0.out.e 0
      have x0_1_0 : W0.cell? ⟨w.heap.size + 1, 0, none⟩ = some (.int .i64 0) := row_cell HB0.out.f 0
      have x0_0_1 : W0.cell? ⟨w.heap.size, 1, none⟩ = some (.int .i64 m.to) := row_cell HB0.out.e 1
      have x0_1_1 : W0.cell? ⟨w.heap.size + 1, 1, none⟩ = some (.int .i64 0) := row_cell HB0.out.f 1
      have x0_0_2 : W0.cell? ⟨w.heap.size, 2, none⟩ = some (.int .i64 m.sender) := row_cell HB0.out.e 2
      have x0_1_2 : W0.cell? ⟨w.heap.size + 1, 2, none⟩ = some (.int .i64 0) := row_cell HB0.out.f 2
      have x0_0_3 : W0.cell? ⟨w.heap.size, 3, none⟩ = some (.int .i64 m.epoch) := row_cell HB0.out.e 3
      have x0_1_3 : W0.cell? ⟨w.heap.size + 1, 3, none⟩ = some (.int .i64 0) := row_cell HB0.out.f 3
      have x0_0_4 : W0.cell? ⟨w.heap.size, 4, none⟩ = some (.int .i64 m.edit) := row_cell HB0.out.e 4
      have x0_1_4 : W0.cell? ⟨w.heap.size + 1, 4, none⟩ = some (.int .i64 0) := row_cell HB0.out.f 4
      have x0_0_11 : W0.cell? ⟨w.heap.size, 11, none⟩ = some (.int .i64 m.count) := row_cell HB0.out.e 11
      have x0_1_11 : W0.cell? ⟨w.heap.size + 1, 11, none⟩ = some (.int .i64 0) := row_cell HB0.out.f 11
      have x0_0_5 : W0.cell? ⟨w.heap.size, 5, none⟩ = some (.string m.target.name) := row_cell HB0.out.e 5
      have x0_1_5 : W0.cell? ⟨w.heap.size + 1, 5, none⟩ = some (.string ⟨#[]⟩) := row_cell HB0.out.f 5
      have x0_0_6 : W0.cell? ⟨w.heap.size, 6, none⟩ = some (.string m.target.tool) := row_cell HB0.out.e 6
      have x0_1_6 : W0.cell? ⟨w.heap.size + 1, 6, none⟩ = some (.string ⟨#[]⟩) := row_cell HB0.out.f 6
      have x0_0_7 : W0.cell? ⟨w.heap.size, 7, none⟩ = some (.string m.target.arg) := row_cell HB0.out.e 7
      have x0_1_7 : W0.cell? ⟨w.heap.size + 1, 7, none⟩ = some (.string ⟨#[]⟩) := row_cell HB0.out.f 7
      have x0_0_8 : W0.cell? ⟨w.heap.size, 8, none⟩ = some (.slice ad0 m.target.ins.length cp0) := row_cell HB0.out.e 8
      have x0_1_8 : W0.cell? ⟨w.heap.size + 1, 8, none⟩ = some (.slice none 0 0) := row_cell HB0.out.f 8
      have x0_0_9 : W0.cell? ⟨w.heap.size, 9, none⟩ = some (.slice ad1 m.target.outs.length cp1) := row_cell HB0.out.e 9
      have x0_1_9 : W0.cell? ⟨w.heap.size + 1, 9, none⟩ = some (.slice none 0 0) := row_cell HB0.out.f 9
      have x0_0_10 : W0.cell? ⟨w.heap.size, 10, none⟩ = some (.slice ad2 m.seen.length cp2) := row_cell HB0.out.e 10
      have x0_1_10 : W0.cell? ⟨w.heap.size + 1, 10, none⟩ = some (.slice none 0 0) := row_cell HB0.out.f 10
      have x0_0_12 : W0.cell? ⟨w.heap.size, 12, none⟩ = some (.bool m.turn.over) := row_cell HB0.out.e 12
      have x0_1_12 : W0.cell? ⟨w.heap.size + 1, 12, none⟩ = some (.bool false) := row_cell HB0.out.f 12
      have x0_0_13 : W0.cell? ⟨w.heap.size, 13, none⟩ = some (.int .i64 m.turn.code) := row_cell HB0.out.e 13
      have x0_1_13 : W0.cell? ⟨w.heap.size + 1, 13, none⟩ = some (.int .i64 0) := row_cell HB0.out.f 13
      have x0_0_14 : W0.cell? ⟨w.heap.size, 14, none⟩ = some (.string m.turn.text) := row_cell HB0.out.e 14
      have x0_1_14 : W0.cell? ⟨w.heap.size + 1, 14, none⟩ = some (.string ⟨#[]⟩) := row_cell HB0.out.f 14
      have x0_0_15 : W0.cell? ⟨w.heap.size, 15, none⟩ = some (.int .i64 m.turn.kind) := row_cell HB0.out.e 15
      have x0_1_15 : W0.cell? ⟨w.heap.size + 1, 15, none⟩ = some (.int .i64 0) := row_cell HB0.out.f 15
      have x0_0_16 : W0.cell? ⟨w.heap.size, 16, none⟩ = some (.string m.turn.name) := row_cell HB0.out.e 16
      have x0_1_16 : W0.cell? ⟨w.heap.size + 1, 16, none⟩ = some (.string ⟨#[]⟩) := row_cell HB0.out.f 16
      have x0_0_17 : W0.cell? ⟨w.heap.size, 17, none⟩ = some (.int .i64 m.turn.steps) := row_cell HB0.out.e 17
      have x0_1_17 : W0.cell? ⟨w.heap.size + 1, 17, none⟩ = some (.int .i64 0) := row_cell HB0.out.f 17
      have x0_0_18 : W0.cell? ⟨w.heap.size, 18, none⟩ = some (.slice ad3 m.turn.files.length cp3) := row_cell HB0.out.e 18
      have x0_1_18 : W0.cell? ⟨w.heap.size + 1, 18, none⟩ = some (.slice none 0 0) := row_cell HB0.out.f 18
      have x0_0_19 : W0.cell? ⟨w.heap.size, 19, none⟩ = some (.slice ad4 m.turn.said.length cp4) := row_cell HB0.out.e 19
      have x0_1_19 : W0.cell? ⟨w.heap.size + 1, 19, none⟩ = some (.slice none 0 0) := row_cell HB0.out.f 19
      go_wp2
      go_ret
      exact ⟨says_f fun h => C1.out h.2.1, HB0.out.lo⟩
  · have q0 : (m.kind == 0) = false := by simp [c0]
    have C0 := hid c0
    clear c0
    go_enter Tryz.func22, Tryz.ntmps22
    go_upto_region 1 with fail
    clear hW0
    have x0_0_0 : W0.cell? ⟨w.heap.size, 0, none⟩ = some (.int .i64 m.kind) := row_cell HB0.out.e 0
    have x0_1_0 : W0.cell? ⟨w.heap.size + 1, 0, none⟩ = some (.int .i64 0) := row_cell HB0.out.f 0
    have x0_0_1 : W0.cell? ⟨w.heap.size, 1, none⟩ = some (.int .i64 m.to) := row_cell HB0.out.e 1
    have x0_1_1 : W0.cell? ⟨w.heap.size + 1, 1, none⟩ = some (.int .i64 0) := row_cell HB0.out.f 1
    have x0_0_2 : W0.cell? ⟨w.heap.size, 2, none⟩ = some (.int .i64 m.sender) := row_cell HB0.out.e 2
    have x0_1_2 : W0.cell? ⟨w.heap.size + 1, 2, none⟩ = some (.int .i64 0) := row_cell HB0.out.f 2
    have x0_0_3 : W0.cell? ⟨w.heap.size, 3, none⟩ = some (.int .i64 m.epoch) := row_cell HB0.out.e 3
    have x0_1_3 : W0.cell? ⟨w.heap.size + 1, 3, none⟩ = some (.int .i64 0) := row_cell HB0.out.f 3
    have x0_0_4 : W0.cell? ⟨w.heap.size, 4, none⟩ = some (.int .i64 m.edit) := row_cell HB0.out.e 4
    have x0_1_4 : W0.cell? ⟨w.heap.size + 1, 4, none⟩ = some (.int .i64 0) := row_cell HB0.out.f 4
    have x0_0_11 : W0.cell? ⟨w.heap.size, 11, none⟩ = some (.int .i64 m.count) := row_cell HB0.out.e 11
    have x0_1_11 : W0.cell? ⟨w.heap.size + 1, 11, none⟩ = some (.int .i64 0) := row_cell HB0.out.f 11
    have x0_0_5 : W0.cell? ⟨w.heap.size, 5, none⟩ = some (.string m.target.name) := row_cell HB0.out.e 5
    have x0_1_5 : W0.cell? ⟨w.heap.size + 1, 5, none⟩ = some (.string ⟨#[]⟩) := row_cell HB0.out.f 5
    have x0_0_6 : W0.cell? ⟨w.heap.size, 6, none⟩ = some (.string m.target.tool) := row_cell HB0.out.e 6
    have x0_1_6 : W0.cell? ⟨w.heap.size + 1, 6, none⟩ = some (.string ⟨#[]⟩) := row_cell HB0.out.f 6
    have x0_0_7 : W0.cell? ⟨w.heap.size, 7, none⟩ = some (.string m.target.arg) := row_cell HB0.out.e 7
    have x0_1_7 : W0.cell? ⟨w.heap.size + 1, 7, none⟩ = some (.string ⟨#[]⟩) := row_cell HB0.out.f 7
    have x0_0_8 : W0.cell? ⟨w.heap.size, 8, none⟩ = some (.slice ad0 m.target.ins.length cp0) := row_cell HB0.out.e 8
    have x0_1_8 : W0.cell? ⟨w.heap.size + 1, 8, none⟩ = some (.slice none 0 0) := row_cell HB0.out.f 8
    have x0_0_9 : W0.cell? ⟨w.heap.size, 9, none⟩ = some (.slice ad1 m.target.outs.length cp1) := row_cell HB0.out.e 9
    have x0_1_9 : W0.cell? ⟨w.heap.size + 1, 9, none⟩ = some (.slice none 0 0) := row_cell HB0.out.f 9
    have x0_0_10 : W0.cell? ⟨w.heap.size, 10, none⟩ = some (.slice ad2 m.seen.length cp2) := row_cell HB0.out.e 10
    have x0_1_10 : W0.cell? ⟨w.heap.size + 1, 10, none⟩ = some (.slice none 0 0) := row_cell HB0.out.f 10
    have x0_0_12 : W0.cell? ⟨w.heap.size, 12, none⟩ = some (.bool m.turn.over) := row_cell HB0.out.e 12
    have x0_1_12 : W0.cell? ⟨w.heap.size + 1, 12, none⟩ = some (.bool false) := row_cell HB0.out.f 12
    have x0_0_13 : W0.cell? ⟨w.heap.size, 13, none⟩ = some (.int .i64 m.turn.code) := row_cell HB0.out.e 13
    have x0_1_13 : W0.cell? ⟨w.heap.size + 1, 13, none⟩ = some (.int .i64 0) := row_cell HB0.out.f 13
    have x0_0_14 : W0.cell? ⟨w.heap.size, 14, none⟩ = some (.string m.turn.text) := row_cell HB0.out.e 14
    have x0_1_14 : W0.cell? ⟨w.heap.size + 1, 14, none⟩ = some (.string ⟨#[]⟩) := row_cell HB0.out.f 14
    have x0_0_15 : W0.cell? ⟨w.heap.size, 15, none⟩ = some (.int .i64 m.turn.kind) := row_cell HB0.out.e 15
    have x0_1_15 : W0.cell? ⟨w.heap.size + 1, 15, none⟩ = some (.int .i64 0) := row_cell HB0.out.f 15
    have x0_0_16 : W0.cell? ⟨w.heap.size, 16, none⟩ = some (.string m.turn.name) := row_cell HB0.out.e 16
    have x0_1_16 : W0.cell? ⟨w.heap.size + 1, 16, none⟩ = some (.string ⟨#[]⟩) := row_cell HB0.out.f 16
    have x0_0_17 : W0.cell? ⟨w.heap.size, 17, none⟩ = some (.int .i64 m.turn.steps) := row_cell HB0.out.e 17
    have x0_1_17 : W0.cell? ⟨w.heap.size + 1, 17, none⟩ = some (.int .i64 0) := row_cell HB0.out.f 17
    have x0_0_18 : W0.cell? ⟨w.heap.size, 18, none⟩ = some (.slice ad3 m.turn.files.length cp3) := row_cell HB0.out.e 18
    have x0_1_18 : W0.cell? ⟨w.heap.size + 1, 18, none⟩ = some (.slice none 0 0) := row_cell HB0.out.f 18
    have x0_0_19 : W0.cell? ⟨w.heap.size, 19, none⟩ = some (.slice ad4 m.turn.said.length cp4) := row_cell HB0.out.e 19
    have x0_1_19 : W0.cell? ⟨w.heap.size + 1, 19, none⟩ = some (.slice none 0 0) := row_cell HB0.out.f 19
    go_wp2
    go_ret
    exact ⟨says_f fun h => C0.out h.1, HB0.out.lo⟩
theorem sameMs_none (m : Ms) {v0 v1 v2 v3 v4 : Value} (w : World) (hm : SmMs m) (k0 : SStrA w v0 m.target.ins) (k1 : SStrA w v1 m.target.outs) (k2 : SSnA w v2 m.seen) (k3 : SFlA w v3 m.turn.files) (k4 : SStrA w v4 m.turn.said) :
    Calls Tryz.prog 22 #[.agg #[.int .i64 m.kind, .int .i64 m.to, .int .i64 m.sender, .int .i64 m.epoch, .int .i64 m.edit, .string m.target.name, .string m.target.tool, .string m.target.arg, v0, v1, v2, .int .i64 m.count, .bool m.turn.over, .int .i64 m.turn.code, .string m.turn.text, .int .i64 m.turn.kind, .string m.turn.name, .int .i64 m.turn.steps, v3, v4], .agg #[.int .i64 0, .int .i64 0, .int .i64 0, .int .i64 0, .int .i64 0, .string ⟨#[]⟩, .string ⟨#[]⟩, .string ⟨#[]⟩, .slice none 0 0, .slice none 0 0, .slice none 0 0, .int .i64 0, .bool false, .int .i64 0, .string ⟨#[]⟩, .int .i64 0, .string ⟨#[]⟩, .int .i64 0, .slice none 0 0, .slice none 0 0]] w fun e w' => Says e (MsNone m) ∧ Below w.heap.size w w' :=
  (sameMs_none0 m w hm k0 k1 k2 k3 k4).mono fun _ _ ⟨⟨b, h1, h2⟩, h3⟩ => ⟨⟨b, h1, h2.trans ⟨fun ⟨a, b, c, d, e, f, g, h, i⟩ => ⟨a, b, c, d, e, g, h, f, i⟩, fun ⟨a, b, c, d, e, f, g, h, i⟩ => ⟨a, b, c, d, e, h, f, g, i⟩⟩⟩, h3⟩
set_option maxHeartbeats 16000000 in
theorem sameMs_used (m : Ms) {v0 v1 v2 v3 v4 : Value} (w : World) (hm : SmMs m) (hk : m.kind = 1) (k0 : SStrA w v0 m.target.ins) (k1 : SStrA w v1 m.target.outs) (k2 : SSnA w v2 m.seen) (k3 : SFlA w v3 m.turn.files) (k4 : SStrA w v4 m.turn.said) :
    Calls Tryz.prog 22 #[.agg #[.int .i64 1, .int .i64 m.to, .int .i64 0, .int .i64 m.epoch, .int .i64 m.edit, .string m.target.name, .string m.target.tool, .string m.target.arg, v0, v1, v2, .int .i64 0, .bool false, .int .i64 0, .string ⟨#[]⟩, .int .i64 0, .string ⟨#[]⟩, .int .i64 0, .slice none 0 0, .slice none 0 0], .agg #[.int .i64 m.kind, .int .i64 m.to, .int .i64 m.sender, .int .i64 m.epoch, .int .i64 m.edit, .string m.target.name, .string m.target.tool, .string m.target.arg, v0, v1, v2, .int .i64 m.count, .bool m.turn.over, .int .i64 m.turn.code, .string m.turn.text, .int .i64 m.turn.kind, .string m.turn.name, .int .i64 m.turn.steps, v3, v4]] w fun e w' => Says e (m.sender = 0 ∧ m.count = 0 ∧ True ∧ True ∧ TuNone m.turn) ∧ Below w.heap.size w w' := by
  obtain ⟨ht, hsn, hu⟩ := hm
  have K0 := hid k0
  obtain ⟨ad0, cp0, rfl⟩ := k0.sl
  have K1 := hid k1
  obtain ⟨ad1, cp1, rfl⟩ := k1.sl
  have K2 := hid k2
  obtain ⟨ad2, cp2, rfl⟩ := k2.sl
  have K3 := hid k3
  obtain ⟨ad3, cp3, rfl⟩ := k3.sl
  have K4 := hid k4
  obtain ⟨ad4, cp4, rfl⟩ := k4.sl
  clear k0 k1 k2 k3 k4
  have HB0 := hid (B2.start w (.cells #[.int .i64 1, .int .i64 m.to, .int .i64 0, .int .i64 m.epoch, .int .i64 m.edit, .string m.target.name, .string m.target.tool, .string m.target.arg, .slice ad0 m.target.ins.length cp0, .slice ad1 m.target.outs.length cp1, .slice ad2 m.seen.length cp2, .int .i64 0, .bool false, .int .i64 0, .string ⟨#[]⟩, .int .i64 0, .string ⟨#[]⟩, .int .i64 0, .slice none 0 0, .slice none 0 0] 41) (.cells #[.int .i64 m.kind, .int .i64 m.to, .int .i64 m.sender, .int .i64 m.epoch, .int .i64 m.edit, .string m.target.name, .string m.target.tool, .string m.target.arg, .slice ad0 m.target.ins.length cp0, .slice ad1 m.target.outs.length cp1, .slice ad2 m.seen.length cp2, .int .i64 m.count, .bool m.turn.over, .int .i64 m.turn.code, .string m.turn.text, .int .i64 m.turn.kind, .string m.turn.name, .int .i64 m.turn.steps, .slice ad3 m.turn.files.length cp3, .slice ad4 m.turn.said.length cp4] 41))
  obtain ⟨W0, hW0⟩ : ∃ W, (w.alloc (.cells #[.int .i64 1, .int .i64 m.to, .int .i64 0, .int .i64 m.epoch, .int .i64 m.edit, .string m.target.name, .string m.target.tool, .string m.target.arg, .slice ad0 m.target.ins.length cp0, .slice ad1 m.target.outs.length cp1, .slice ad2 m.seen.length cp2, .int .i64 0, .bool false, .int .i64 0, .string ⟨#[]⟩, .int .i64 0, .string ⟨#[]⟩, .int .i64 0, .slice none 0 0, .slice none 0 0] 41)).alloc (.cells #[.int .i64 m.kind, .int .i64 m.to, .int .i64 m.sender, .int .i64 m.epoch, .int .i64 m.edit, .string m.target.name, .string m.target.tool, .string m.target.arg, .slice ad0 m.target.ins.length cp0, .slice ad1 m.target.outs.length cp1, .slice ad2 m.seen.length cp2, .int .i64 m.count, .bool m.turn.over, .int .i64 m.turn.code, .string m.turn.text, .int .i64 m.turn.kind, .string m.turn.name, .int .i64 m.turn.steps, .slice ad3 m.turn.files.length cp3, .slice ad4 m.turn.said.length cp4] 41) = W := ⟨_, rfl⟩
  rw [hW0] at HB0
  have j0 : ((1 : Int) == m.kind) = true := by simp [hk]
  have j1 : (m.to == m.to) = true := by simp
  have j2 : (m.epoch == m.epoch) = true := by simp
  have j3 : (m.edit == m.edit) = true := by simp
  have HK := hid hk
  clear hk
  by_cases c0 : m.sender = 0
  · have q0 : (m.sender == 0) = true := by simp [c0]
    have p0 : ((0 : Int) == m.sender) = true := by simp [c0]
    have C0 := hid c0
    clear c0
    by_cases c1 : m.count = 0
    · have q1 : (m.count == 0) = true := by simp [c1]
      have p1 : ((0 : Int) == m.count) = true := by simp [c1]
      have C1 := hid c1
      clear c1
      by_cases c2 : True
      · have C2 := hid c2
        clear c2
        by_cases c3 : True
        · have C3 := hid c3
          clear c3
          by_cases c4 : TuNone m.turn
          · have C4 := hid c4
            clear c4
            go_enter Tryz.func22, Tryz.ntmps22
            go_upto_region 1 with fail
            clear hW0
            have x0_0_0 : W0.cell? ⟨w.heap.size, 0, none⟩ = some (.int .i64 1) := row_cell HB0.out.e 0
            have x0_1_0 : W0.cell? ⟨w.heap.size + 1, 0, none⟩ = some (.int .i64 m.kind) := row_cell HB0.out.f 0
            have x0_0_1 : W0.cell? ⟨w.heap.size, 1, none⟩ = some (.int .i64 m.to) := row_cell HB0.out.e 1
            have x0_1_1 : W0.cell? ⟨w.heap.size + 1, 1, none⟩ = some (.int .i64 m.to) := row_cell HB0.out.f 1
            have x0_0_2 : W0.cell? ⟨w.heap.size, 2, none⟩ = some (.int .i64 0) := row_cell HB0.out.e 2
            have x0_1_2 : W0.cell? ⟨w.heap.size + 1, 2, none⟩ = some (.int .i64 m.sender) := row_cell HB0.out.f 2
            have x0_0_3 : W0.cell? ⟨w.heap.size, 3, none⟩ = some (.int .i64 m.epoch) := row_cell HB0.out.e 3
            have x0_1_3 : W0.cell? ⟨w.heap.size + 1, 3, none⟩ = some (.int .i64 m.epoch) := row_cell HB0.out.f 3
            have x0_0_4 : W0.cell? ⟨w.heap.size, 4, none⟩ = some (.int .i64 m.edit) := row_cell HB0.out.e 4
            have x0_1_4 : W0.cell? ⟨w.heap.size + 1, 4, none⟩ = some (.int .i64 m.edit) := row_cell HB0.out.f 4
            have x0_0_11 : W0.cell? ⟨w.heap.size, 11, none⟩ = some (.int .i64 0) := row_cell HB0.out.e 11
            have x0_1_11 : W0.cell? ⟨w.heap.size + 1, 11, none⟩ = some (.int .i64 m.count) := row_cell HB0.out.f 11
            have x0_0_5 : W0.cell? ⟨w.heap.size, 5, none⟩ = some (.string m.target.name) := row_cell HB0.out.e 5
            have x0_1_5 : W0.cell? ⟨w.heap.size + 1, 5, none⟩ = some (.string m.target.name) := row_cell HB0.out.f 5
            have x0_0_6 : W0.cell? ⟨w.heap.size, 6, none⟩ = some (.string m.target.tool) := row_cell HB0.out.e 6
            have x0_1_6 : W0.cell? ⟨w.heap.size + 1, 6, none⟩ = some (.string m.target.tool) := row_cell HB0.out.f 6
            have x0_0_7 : W0.cell? ⟨w.heap.size, 7, none⟩ = some (.string m.target.arg) := row_cell HB0.out.e 7
            have x0_1_7 : W0.cell? ⟨w.heap.size + 1, 7, none⟩ = some (.string m.target.arg) := row_cell HB0.out.f 7
            have x0_0_8 : W0.cell? ⟨w.heap.size, 8, none⟩ = some (.slice ad0 m.target.ins.length cp0) := row_cell HB0.out.e 8
            have x0_1_8 : W0.cell? ⟨w.heap.size + 1, 8, none⟩ = some (.slice ad0 m.target.ins.length cp0) := row_cell HB0.out.f 8
            have x0_0_9 : W0.cell? ⟨w.heap.size, 9, none⟩ = some (.slice ad1 m.target.outs.length cp1) := row_cell HB0.out.e 9
            have x0_1_9 : W0.cell? ⟨w.heap.size + 1, 9, none⟩ = some (.slice ad1 m.target.outs.length cp1) := row_cell HB0.out.f 9
            have x0_0_10 : W0.cell? ⟨w.heap.size, 10, none⟩ = some (.slice ad2 m.seen.length cp2) := row_cell HB0.out.e 10
            have x0_1_10 : W0.cell? ⟨w.heap.size + 1, 10, none⟩ = some (.slice ad2 m.seen.length cp2) := row_cell HB0.out.f 10
            have x0_0_12 : W0.cell? ⟨w.heap.size, 12, none⟩ = some (.bool false) := row_cell HB0.out.e 12
            have x0_1_12 : W0.cell? ⟨w.heap.size + 1, 12, none⟩ = some (.bool m.turn.over) := row_cell HB0.out.f 12
            have x0_0_13 : W0.cell? ⟨w.heap.size, 13, none⟩ = some (.int .i64 0) := row_cell HB0.out.e 13
            have x0_1_13 : W0.cell? ⟨w.heap.size + 1, 13, none⟩ = some (.int .i64 m.turn.code) := row_cell HB0.out.f 13
            have x0_0_14 : W0.cell? ⟨w.heap.size, 14, none⟩ = some (.string ⟨#[]⟩) := row_cell HB0.out.e 14
            have x0_1_14 : W0.cell? ⟨w.heap.size + 1, 14, none⟩ = some (.string m.turn.text) := row_cell HB0.out.f 14
            have x0_0_15 : W0.cell? ⟨w.heap.size, 15, none⟩ = some (.int .i64 0) := row_cell HB0.out.e 15
            have x0_1_15 : W0.cell? ⟨w.heap.size + 1, 15, none⟩ = some (.int .i64 m.turn.kind) := row_cell HB0.out.f 15
            have x0_0_16 : W0.cell? ⟨w.heap.size, 16, none⟩ = some (.string ⟨#[]⟩) := row_cell HB0.out.e 16
            have x0_1_16 : W0.cell? ⟨w.heap.size + 1, 16, none⟩ = some (.string m.turn.name) := row_cell HB0.out.f 16
            have x0_0_17 : W0.cell? ⟨w.heap.size, 17, none⟩ = some (.int .i64 0) := row_cell HB0.out.e 17
            have x0_1_17 : W0.cell? ⟨w.heap.size + 1, 17, none⟩ = some (.int .i64 m.turn.steps) := row_cell HB0.out.f 17
            have x0_0_18 : W0.cell? ⟨w.heap.size, 18, none⟩ = some (.slice none 0 0) := row_cell HB0.out.e 18
            have x0_1_18 : W0.cell? ⟨w.heap.size + 1, 18, none⟩ = some (.slice ad3 m.turn.files.length cp3) := row_cell HB0.out.f 18
            have x0_0_19 : W0.cell? ⟨w.heap.size, 19, none⟩ = some (.slice none 0 0) := row_cell HB0.out.e 19
            have x0_1_19 : W0.cell? ⟨w.heap.size + 1, 19, none⟩ = some (.slice ad4 m.turn.said.length cp4) := row_cell HB0.out.f 19
            go_wp2_with fail
            refine (says_true (houseSame_self m.target _ ht (K0.out.next HB0.out.lo) (K1.out.next HB0.out.lo))).mono ?_
            rintro e W1 ⟨hs, hb⟩
            have hq := hs.pos C2.out
            obtain rfl := hq
            have HB1 := hid (HB0.out.next hb)
            clear hs hb x0_0_0 x0_1_0 x0_0_1 x0_1_1 x0_0_2 x0_1_2 x0_0_3 x0_1_3 x0_0_4 x0_1_4 x0_0_11 x0_1_11 x0_0_5 x0_1_5 x0_0_6 x0_1_6 x0_0_7 x0_1_7 x0_0_8 x0_1_8 x0_0_9 x0_1_9 x0_0_10 x0_1_10 x0_0_12 x0_1_12 x0_0_13 x0_1_13 x0_0_14 x0_1_14 x0_0_15 x0_1_15 x0_0_16 x0_1_16 x0_0_17 x0_1_17 x0_0_18 x0_1_18 x0_0_19 x0_1_19
            have x1_0_10 : W1.cell? ⟨w.heap.size, 10, none⟩ = some (.slice ad2 m.seen.length cp2) := row_cell HB1.out.e 10
            have x1_1_10 : W1.cell? ⟨w.heap.size + 1, 10, none⟩ = some (.slice ad2 m.seen.length cp2) := row_cell HB1.out.f 10
            have x1_0_12 : W1.cell? ⟨w.heap.size, 12, none⟩ = some (.bool false) := row_cell HB1.out.e 12
            have x1_1_12 : W1.cell? ⟨w.heap.size + 1, 12, none⟩ = some (.bool m.turn.over) := row_cell HB1.out.f 12
            have x1_0_13 : W1.cell? ⟨w.heap.size, 13, none⟩ = some (.int .i64 0) := row_cell HB1.out.e 13
            have x1_1_13 : W1.cell? ⟨w.heap.size + 1, 13, none⟩ = some (.int .i64 m.turn.code) := row_cell HB1.out.f 13
            have x1_0_14 : W1.cell? ⟨w.heap.size, 14, none⟩ = some (.string ⟨#[]⟩) := row_cell HB1.out.e 14
            have x1_1_14 : W1.cell? ⟨w.heap.size + 1, 14, none⟩ = some (.string m.turn.text) := row_cell HB1.out.f 14
            have x1_0_15 : W1.cell? ⟨w.heap.size, 15, none⟩ = some (.int .i64 0) := row_cell HB1.out.e 15
            have x1_1_15 : W1.cell? ⟨w.heap.size + 1, 15, none⟩ = some (.int .i64 m.turn.kind) := row_cell HB1.out.f 15
            have x1_0_16 : W1.cell? ⟨w.heap.size, 16, none⟩ = some (.string ⟨#[]⟩) := row_cell HB1.out.e 16
            have x1_1_16 : W1.cell? ⟨w.heap.size + 1, 16, none⟩ = some (.string m.turn.name) := row_cell HB1.out.f 16
            have x1_0_17 : W1.cell? ⟨w.heap.size, 17, none⟩ = some (.int .i64 0) := row_cell HB1.out.e 17
            have x1_1_17 : W1.cell? ⟨w.heap.size + 1, 17, none⟩ = some (.int .i64 m.turn.steps) := row_cell HB1.out.f 17
            have x1_0_18 : W1.cell? ⟨w.heap.size, 18, none⟩ = some (.slice none 0 0) := row_cell HB1.out.e 18
            have x1_1_18 : W1.cell? ⟨w.heap.size + 1, 18, none⟩ = some (.slice ad3 m.turn.files.length cp3) := row_cell HB1.out.f 18
            have x1_0_19 : W1.cell? ⟨w.heap.size, 19, none⟩ = some (.slice none 0 0) := row_cell HB1.out.e 19
            have x1_1_19 : W1.cell? ⟨w.heap.size + 1, 19, none⟩ = some (.slice ad4 m.turn.said.length cp4) := row_cell HB1.out.f 19
            go_wp2_with fail
            refine (says_true (equalSn_same m.seen _ hsn.1 (K2.out.next HB1.out.lo) (K2.out.next HB1.out.lo))).mono ?_
            rintro e W2 ⟨hs, hb⟩
            have hq := hs.pos C3.out
            obtain rfl := hq
            have HB2 := hid (HB1.out.next hb)
            clear hs hb x1_0_10 x1_1_10 x1_0_12 x1_1_12 x1_0_13 x1_1_13 x1_0_14 x1_1_14 x1_0_15 x1_1_15 x1_0_16 x1_1_16 x1_0_17 x1_1_17 x1_0_18 x1_1_18 x1_0_19 x1_1_19
            have x2_0_12 : W2.cell? ⟨w.heap.size, 12, none⟩ = some (.bool false) := row_cell HB2.out.e 12
            have x2_1_12 : W2.cell? ⟨w.heap.size + 1, 12, none⟩ = some (.bool m.turn.over) := row_cell HB2.out.f 12
            have x2_0_13 : W2.cell? ⟨w.heap.size, 13, none⟩ = some (.int .i64 0) := row_cell HB2.out.e 13
            have x2_1_13 : W2.cell? ⟨w.heap.size + 1, 13, none⟩ = some (.int .i64 m.turn.code) := row_cell HB2.out.f 13
            have x2_0_14 : W2.cell? ⟨w.heap.size, 14, none⟩ = some (.string ⟨#[]⟩) := row_cell HB2.out.e 14
            have x2_1_14 : W2.cell? ⟨w.heap.size + 1, 14, none⟩ = some (.string m.turn.text) := row_cell HB2.out.f 14
            have x2_0_15 : W2.cell? ⟨w.heap.size, 15, none⟩ = some (.int .i64 0) := row_cell HB2.out.e 15
            have x2_1_15 : W2.cell? ⟨w.heap.size + 1, 15, none⟩ = some (.int .i64 m.turn.kind) := row_cell HB2.out.f 15
            have x2_0_16 : W2.cell? ⟨w.heap.size, 16, none⟩ = some (.string ⟨#[]⟩) := row_cell HB2.out.e 16
            have x2_1_16 : W2.cell? ⟨w.heap.size + 1, 16, none⟩ = some (.string m.turn.name) := row_cell HB2.out.f 16
            have x2_0_17 : W2.cell? ⟨w.heap.size, 17, none⟩ = some (.int .i64 0) := row_cell HB2.out.e 17
            have x2_1_17 : W2.cell? ⟨w.heap.size + 1, 17, none⟩ = some (.int .i64 m.turn.steps) := row_cell HB2.out.f 17
            have x2_0_18 : W2.cell? ⟨w.heap.size, 18, none⟩ = some (.slice none 0 0) := row_cell HB2.out.e 18
            have x2_1_18 : W2.cell? ⟨w.heap.size + 1, 18, none⟩ = some (.slice ad3 m.turn.files.length cp3) := row_cell HB2.out.f 18
            have x2_0_19 : W2.cell? ⟨w.heap.size, 19, none⟩ = some (.slice none 0 0) := row_cell HB2.out.e 19
            have x2_1_19 : W2.cell? ⟨w.heap.size + 1, 19, none⟩ = some (.slice ad4 m.turn.said.length cp4) := row_cell HB2.out.f 19
            go_wp2_with fail
            refine (sameTurn_l m.turn _ hu (K3.out.next HB2.out.lo) (K4.out.next HB2.out.lo)).mono ?_
            rintro e W3 ⟨hs, hb⟩
            have hq := hs.pos C4.out
            obtain rfl := hq
            have HB3 := hid (HB2.out.next hb)
            clear hs hb x2_0_12 x2_1_12 x2_0_13 x2_1_13 x2_0_14 x2_1_14 x2_0_15 x2_1_15 x2_0_16 x2_1_16 x2_0_17 x2_1_17 x2_0_18 x2_1_18 x2_0_19 x2_1_19
            go_wp2
            go_ret
            exact ⟨says_t ⟨C0.out, C1.out, C2.out, C3.out, C4.out⟩, HB3.out.lo⟩
          · have C4 := hid c4
            clear c4
            go_enter Tryz.func22, Tryz.ntmps22
            go_upto_region 1 with fail
            clear hW0
            have x0_0_0 : W0.cell? ⟨w.heap.size, 0, none⟩ = some (.int .i64 1) := row_cell HB0.out.e 0
            have x0_1_0 : W0.cell? ⟨w.heap.size + 1, 0, none⟩ = some (.int .i64 m.kind) := row_cell HB0.out.f 0
            have x0_0_1 : W0.cell? ⟨w.heap.size, 1, none⟩ = some (.int .i64 m.to) := row_cell HB0.out.e 1
            have x0_1_1 : W0.cell? ⟨w.heap.size + 1, 1, none⟩ = some (.int .i64 m.to) := row_cell HB0.out.f 1
            have x0_0_2 : W0.cell? ⟨w.heap.size, 2, none⟩ = some (.int .i64 0) := row_cell HB0.out.e 2
            have x0_1_2 : W0.cell? ⟨w.heap.size + 1, 2, none⟩ = some (.int .i64 m.sender) := row_cell HB0.out.f 2
            have x0_0_3 : W0.cell? ⟨w.heap.size, 3, none⟩ = some (.int .i64 m.epoch) := row_cell HB0.out.e 3
            have x0_1_3 : W0.cell? ⟨w.heap.size + 1, 3, none⟩ = some (.int .i64 m.epoch) := row_cell HB0.out.f 3
            have x0_0_4 : W0.cell? ⟨w.heap.size, 4, none⟩ = some (.int .i64 m.edit) := row_cell HB0.out.e 4
            have x0_1_4 : W0.cell? ⟨w.heap.size + 1, 4, none⟩ = some (.int .i64 m.edit) := row_cell HB0.out.f 4
            have x0_0_11 : W0.cell? ⟨w.heap.size, 11, none⟩ = some (.int .i64 0) := row_cell HB0.out.e 11
            have x0_1_11 : W0.cell? ⟨w.heap.size + 1, 11, none⟩ = some (.int .i64 m.count) := row_cell HB0.out.f 11
            have x0_0_5 : W0.cell? ⟨w.heap.size, 5, none⟩ = some (.string m.target.name) := row_cell HB0.out.e 5
            have x0_1_5 : W0.cell? ⟨w.heap.size + 1, 5, none⟩ = some (.string m.target.name) := row_cell HB0.out.f 5
            have x0_0_6 : W0.cell? ⟨w.heap.size, 6, none⟩ = some (.string m.target.tool) := row_cell HB0.out.e 6
            have x0_1_6 : W0.cell? ⟨w.heap.size + 1, 6, none⟩ = some (.string m.target.tool) := row_cell HB0.out.f 6
            have x0_0_7 : W0.cell? ⟨w.heap.size, 7, none⟩ = some (.string m.target.arg) := row_cell HB0.out.e 7
            have x0_1_7 : W0.cell? ⟨w.heap.size + 1, 7, none⟩ = some (.string m.target.arg) := row_cell HB0.out.f 7
            have x0_0_8 : W0.cell? ⟨w.heap.size, 8, none⟩ = some (.slice ad0 m.target.ins.length cp0) := row_cell HB0.out.e 8
            have x0_1_8 : W0.cell? ⟨w.heap.size + 1, 8, none⟩ = some (.slice ad0 m.target.ins.length cp0) := row_cell HB0.out.f 8
            have x0_0_9 : W0.cell? ⟨w.heap.size, 9, none⟩ = some (.slice ad1 m.target.outs.length cp1) := row_cell HB0.out.e 9
            have x0_1_9 : W0.cell? ⟨w.heap.size + 1, 9, none⟩ = some (.slice ad1 m.target.outs.length cp1) := row_cell HB0.out.f 9
            have x0_0_10 : W0.cell? ⟨w.heap.size, 10, none⟩ = some (.slice ad2 m.seen.length cp2) := row_cell HB0.out.e 10
            have x0_1_10 : W0.cell? ⟨w.heap.size + 1, 10, none⟩ = some (.slice ad2 m.seen.length cp2) := row_cell HB0.out.f 10
            have x0_0_12 : W0.cell? ⟨w.heap.size, 12, none⟩ = some (.bool false) := row_cell HB0.out.e 12
            have x0_1_12 : W0.cell? ⟨w.heap.size + 1, 12, none⟩ = some (.bool m.turn.over) := row_cell HB0.out.f 12
            have x0_0_13 : W0.cell? ⟨w.heap.size, 13, none⟩ = some (.int .i64 0) := row_cell HB0.out.e 13
            have x0_1_13 : W0.cell? ⟨w.heap.size + 1, 13, none⟩ = some (.int .i64 m.turn.code) := row_cell HB0.out.f 13
            have x0_0_14 : W0.cell? ⟨w.heap.size, 14, none⟩ = some (.string ⟨#[]⟩) := row_cell HB0.out.e 14
            have x0_1_14 : W0.cell? ⟨w.heap.size + 1, 14, none⟩ = some (.string m.turn.text) := row_cell HB0.out.f 14
            have x0_0_15 : W0.cell? ⟨w.heap.size, 15, none⟩ = some (.int .i64 0) := row_cell HB0.out.e 15
            have x0_1_15 : W0.cell? ⟨w.heap.size + 1, 15, none⟩ = some (.int .i64 m.turn.kind) := row_cell HB0.out.f 15
            have x0_0_16 : W0.cell? ⟨w.heap.size, 16, none⟩ = some (.string ⟨#[]⟩) := row_cell HB0.out.e 16
            have x0_1_16 : W0.cell? ⟨w.heap.size + 1, 16, none⟩ = some (.string m.turn.name) := row_cell HB0.out.f 16
            have x0_0_17 : W0.cell? ⟨w.heap.size, 17, none⟩ = some (.int .i64 0) := row_cell HB0.out.e 17
            have x0_1_17 : W0.cell? ⟨w.heap.size + 1, 17, none⟩ = some (.int .i64 m.turn.steps) := row_cell HB0.out.f 17
            have x0_0_18 : W0.cell? ⟨w.heap.size, 18, none⟩ = some (.slice none 0 0) := row_cell HB0.out.e 18
            have x0_1_18 : W0.cell? ⟨w.heap.size + 1, 18, none⟩ = some (.slice ad3 m.turn.files.length cp3) := row_cell HB0.out.f 18
            have x0_0_19 : W0.cell? ⟨w.heap.size, 19, none⟩ = some (.slice none 0 0) := row_cell HB0.out.e 19
            have x0_1_19 : W0.cell? ⟨w.heap.size + 1, 19, none⟩ = some (.slice ad4 m.turn.said.length cp4) := row_cell HB0.out.f 19
            go_wp2_with fail
            refine (says_true (houseSame_self m.target _ ht (K0.out.next HB0.out.lo) (K1.out.next HB0.out.lo))).mono ?_
            rintro e W1 ⟨hs, hb⟩
            have hq := hs.pos C2.out
            obtain rfl := hq
            have HB1 := hid (HB0.out.next hb)
            clear hs hb x0_0_0 x0_1_0 x0_0_1 x0_1_1 x0_0_2 x0_1_2 x0_0_3 x0_1_3 x0_0_4 x0_1_4 x0_0_11 x0_1_11 x0_0_5 x0_1_5 x0_0_6 x0_1_6 x0_0_7 x0_1_7 x0_0_8 x0_1_8 x0_0_9 x0_1_9 x0_0_10 x0_1_10 x0_0_12 x0_1_12 x0_0_13 x0_1_13 x0_0_14 x0_1_14 x0_0_15 x0_1_15 x0_0_16 x0_1_16 x0_0_17 x0_1_17 x0_0_18 x0_1_18 x0_0_19 x0_1_19
            have x1_0_10 : W1.cell? ⟨w.heap.size, 10, none⟩ = some (.slice ad2 m.seen.length cp2) := row_cell HB1.out.e 10
            have x1_1_10 : W1.cell? ⟨w.heap.size + 1, 10, none⟩ = some (.slice ad2 m.seen.length cp2) := row_cell HB1.out.f 10
            have x1_0_12 : W1.cell? ⟨w.heap.size, 12, none⟩ = some (.bool false) := row_cell HB1.out.e 12
            have x1_1_12 : W1.cell? ⟨w.heap.size + 1, 12, none⟩ = some (.bool m.turn.over) := row_cell HB1.out.f 12
            have x1_0_13 : W1.cell? ⟨w.heap.size, 13, none⟩ = some (.int .i64 0) := row_cell HB1.out.e 13
            have x1_1_13 : W1.cell? ⟨w.heap.size + 1, 13, none⟩ = some (.int .i64 m.turn.code) := row_cell HB1.out.f 13
            have x1_0_14 : W1.cell? ⟨w.heap.size, 14, none⟩ = some (.string ⟨#[]⟩) := row_cell HB1.out.e 14
            have x1_1_14 : W1.cell? ⟨w.heap.size + 1, 14, none⟩ = some (.string m.turn.text) := row_cell HB1.out.f 14
            have x1_0_15 : W1.cell? ⟨w.heap.size, 15, none⟩ = some (.int .i64 0) := row_cell HB1.out.e 15
            have x1_1_15 : W1.cell? ⟨w.heap.size + 1, 15, none⟩ = some (.int .i64 m.turn.kind) := row_cell HB1.out.f 15
            have x1_0_16 : W1.cell? ⟨w.heap.size, 16, none⟩ = some (.string ⟨#[]⟩) := row_cell HB1.out.e 16
            have x1_1_16 : W1.cell? ⟨w.heap.size + 1, 16, none⟩ = some (.string m.turn.name) := row_cell HB1.out.f 16
            have x1_0_17 : W1.cell? ⟨w.heap.size, 17, none⟩ = some (.int .i64 0) := row_cell HB1.out.e 17
            have x1_1_17 : W1.cell? ⟨w.heap.size + 1, 17, none⟩ = some (.int .i64 m.turn.steps) := row_cell HB1.out.f 17
            have x1_0_18 : W1.cell? ⟨w.heap.size, 18, none⟩ = some (.slice none 0 0) := row_cell HB1.out.e 18
            have x1_1_18 : W1.cell? ⟨w.heap.size + 1, 18, none⟩ = some (.slice ad3 m.turn.files.length cp3) := row_cell HB1.out.f 18
            have x1_0_19 : W1.cell? ⟨w.heap.size, 19, none⟩ = some (.slice none 0 0) := row_cell HB1.out.e 19
            have x1_1_19 : W1.cell? ⟨w.heap.size + 1, 19, none⟩ = some (.slice ad4 m.turn.said.length cp4) := row_cell HB1.out.f 19
            go_wp2_with fail
            refine (says_true (equalSn_same m.seen _ hsn.1 (K2.out.next HB1.out.lo) (K2.out.next HB1.out.lo))).mono ?_
            rintro e W2 ⟨hs, hb⟩
            have hq := hs.pos C3.out
            obtain rfl := hq
            have HB2 := hid (HB1.out.next hb)
            clear hs hb x1_0_10 x1_1_10 x1_0_12 x1_1_12 x1_0_13 x1_1_13 x1_0_14 x1_1_14 x1_0_15 x1_1_15 x1_0_16 x1_1_16 x1_0_17 x1_1_17 x1_0_18 x1_1_18 x1_0_19 x1_1_19
            have x2_0_12 : W2.cell? ⟨w.heap.size, 12, none⟩ = some (.bool false) := row_cell HB2.out.e 12
            have x2_1_12 : W2.cell? ⟨w.heap.size + 1, 12, none⟩ = some (.bool m.turn.over) := row_cell HB2.out.f 12
            have x2_0_13 : W2.cell? ⟨w.heap.size, 13, none⟩ = some (.int .i64 0) := row_cell HB2.out.e 13
            have x2_1_13 : W2.cell? ⟨w.heap.size + 1, 13, none⟩ = some (.int .i64 m.turn.code) := row_cell HB2.out.f 13
            have x2_0_14 : W2.cell? ⟨w.heap.size, 14, none⟩ = some (.string ⟨#[]⟩) := row_cell HB2.out.e 14
            have x2_1_14 : W2.cell? ⟨w.heap.size + 1, 14, none⟩ = some (.string m.turn.text) := row_cell HB2.out.f 14
            have x2_0_15 : W2.cell? ⟨w.heap.size, 15, none⟩ = some (.int .i64 0) := row_cell HB2.out.e 15
            have x2_1_15 : W2.cell? ⟨w.heap.size + 1, 15, none⟩ = some (.int .i64 m.turn.kind) := row_cell HB2.out.f 15
            have x2_0_16 : W2.cell? ⟨w.heap.size, 16, none⟩ = some (.string ⟨#[]⟩) := row_cell HB2.out.e 16
            have x2_1_16 : W2.cell? ⟨w.heap.size + 1, 16, none⟩ = some (.string m.turn.name) := row_cell HB2.out.f 16
            have x2_0_17 : W2.cell? ⟨w.heap.size, 17, none⟩ = some (.int .i64 0) := row_cell HB2.out.e 17
            have x2_1_17 : W2.cell? ⟨w.heap.size + 1, 17, none⟩ = some (.int .i64 m.turn.steps) := row_cell HB2.out.f 17
            have x2_0_18 : W2.cell? ⟨w.heap.size, 18, none⟩ = some (.slice none 0 0) := row_cell HB2.out.e 18
            have x2_1_18 : W2.cell? ⟨w.heap.size + 1, 18, none⟩ = some (.slice ad3 m.turn.files.length cp3) := row_cell HB2.out.f 18
            have x2_0_19 : W2.cell? ⟨w.heap.size, 19, none⟩ = some (.slice none 0 0) := row_cell HB2.out.e 19
            have x2_1_19 : W2.cell? ⟨w.heap.size + 1, 19, none⟩ = some (.slice ad4 m.turn.said.length cp4) := row_cell HB2.out.f 19
            go_wp2_with fail
            refine (sameTurn_l m.turn _ hu (K3.out.next HB2.out.lo) (K4.out.next HB2.out.lo)).mono ?_
            rintro e W3 ⟨hs, hb⟩
            have hq := hs.neg C4.out
            obtain rfl := hq
            have HB3 := hid (HB2.out.next hb)
            clear hs hb x2_0_12 x2_1_12 x2_0_13 x2_1_13 x2_0_14 x2_1_14 x2_0_15 x2_1_15 x2_0_16 x2_1_16 x2_0_17 x2_1_17 x2_0_18 x2_1_18 x2_0_19 x2_1_19
            go_wp2
            go_ret
            exact ⟨says_f fun h => C4.out h.2.2.2.2, HB3.out.lo⟩
        · have C3 := hid c3
          clear c3
          go_enter Tryz.func22, Tryz.ntmps22
          go_upto_region 1 with fail
          clear hW0
          have x0_0_0 : W0.cell? ⟨w.heap.size, 0, none⟩ = some (.int .i64 1) := row_cell HB0.out.e 0
          have x0_1_0 : W0.cell? ⟨w.heap.size + 1, 0, none⟩ = some (.int .i64 m.kind) := row_cell HB0.out.f 0
          have x0_0_1 : W0.cell? ⟨w.heap.size, 1, none⟩ = some (.int .i64 m.to) := row_cell HB0.out.e 1
          have x0_1_1 : W0.cell? ⟨w.heap.size + 1, 1, none⟩ = some (.int .i64 m.to) := row_cell HB0.out.f 1
          have x0_0_2 : W0.cell? ⟨w.heap.size, 2, none⟩ = some (.int .i64 0) := row_cell HB0.out.e 2
          have x0_1_2 : W0.cell? ⟨w.heap.size + 1, 2, none⟩ = some (.int .i64 m.sender) := row_cell HB0.out.f 2
          have x0_0_3 : W0.cell? ⟨w.heap.size, 3, none⟩ = some (.int .i64 m.epoch) := row_cell HB0.out.e 3
          have x0_1_3 : W0.cell? ⟨w.heap.size + 1, 3, none⟩ = some (.int .i64 m.epoch) := row_cell HB0.out.f 3
          have x0_0_4 : W0.cell? ⟨w.heap.size, 4, none⟩ = some (.int .i64 m.edit) := row_cell HB0.out.e 4
          have x0_1_4 : W0.cell? ⟨w.heap.size + 1, 4, none⟩ = some (.int .i64 m.edit) := row_cell HB0.out.f 4
          have x0_0_11 : W0.cell? ⟨w.heap.size, 11, none⟩ = some (.int .i64 0) := row_cell HB0.out.e 11
          have x0_1_11 : W0.cell? ⟨w.heap.size + 1, 11, none⟩ = some (.int .i64 m.count) := row_cell HB0.out.f 11
          have x0_0_5 : W0.cell? ⟨w.heap.size, 5, none⟩ = some (.string m.target.name) := row_cell HB0.out.e 5
          have x0_1_5 : W0.cell? ⟨w.heap.size + 1, 5, none⟩ = some (.string m.target.name) := row_cell HB0.out.f 5
          have x0_0_6 : W0.cell? ⟨w.heap.size, 6, none⟩ = some (.string m.target.tool) := row_cell HB0.out.e 6
          have x0_1_6 : W0.cell? ⟨w.heap.size + 1, 6, none⟩ = some (.string m.target.tool) := row_cell HB0.out.f 6
          have x0_0_7 : W0.cell? ⟨w.heap.size, 7, none⟩ = some (.string m.target.arg) := row_cell HB0.out.e 7
          have x0_1_7 : W0.cell? ⟨w.heap.size + 1, 7, none⟩ = some (.string m.target.arg) := row_cell HB0.out.f 7
          have x0_0_8 : W0.cell? ⟨w.heap.size, 8, none⟩ = some (.slice ad0 m.target.ins.length cp0) := row_cell HB0.out.e 8
          have x0_1_8 : W0.cell? ⟨w.heap.size + 1, 8, none⟩ = some (.slice ad0 m.target.ins.length cp0) := row_cell HB0.out.f 8
          have x0_0_9 : W0.cell? ⟨w.heap.size, 9, none⟩ = some (.slice ad1 m.target.outs.length cp1) := row_cell HB0.out.e 9
          have x0_1_9 : W0.cell? ⟨w.heap.size + 1, 9, none⟩ = some (.slice ad1 m.target.outs.length cp1) := row_cell HB0.out.f 9
          have x0_0_10 : W0.cell? ⟨w.heap.size, 10, none⟩ = some (.slice ad2 m.seen.length cp2) := row_cell HB0.out.e 10
          have x0_1_10 : W0.cell? ⟨w.heap.size + 1, 10, none⟩ = some (.slice ad2 m.seen.length cp2) := row_cell HB0.out.f 10
          have x0_0_12 : W0.cell? ⟨w.heap.size, 12, none⟩ = some (.bool false) := row_cell HB0.out.e 12
          have x0_1_12 : W0.cell? ⟨w.heap.size + 1, 12, none⟩ = some (.bool m.turn.over) := row_cell HB0.out.f 12
          have x0_0_13 : W0.cell? ⟨w.heap.size, 13, none⟩ = some (.int .i64 0) := row_cell HB0.out.e 13
          have x0_1_13 : W0.cell? ⟨w.heap.size + 1, 13, none⟩ = some (.int .i64 m.turn.code) := row_cell HB0.out.f 13
          have x0_0_14 : W0.cell? ⟨w.heap.size, 14, none⟩ = some (.string ⟨#[]⟩) := row_cell HB0.out.e 14
          have x0_1_14 : W0.cell? ⟨w.heap.size + 1, 14, none⟩ = some (.string m.turn.text) := row_cell HB0.out.f 14
          have x0_0_15 : W0.cell? ⟨w.heap.size, 15, none⟩ = some (.int .i64 0) := row_cell HB0.out.e 15
          have x0_1_15 : W0.cell? ⟨w.heap.size + 1, 15, none⟩ = some (.int .i64 m.turn.kind) := row_cell HB0.out.f 15
          have x0_0_16 : W0.cell? ⟨w.heap.size, 16, none⟩ = some (.string ⟨#[]⟩) := row_cell HB0.out.e 16
          have x0_1_16 : W0.cell? ⟨w.heap.size + 1, 16, none⟩ = some (.string m.turn.name) := row_cell HB0.out.f 16
          have x0_0_17 : W0.cell? ⟨w.heap.size, 17, none⟩ = some (.int .i64 0) := row_cell HB0.out.e 17
          have x0_1_17 : W0.cell? ⟨w.heap.size + 1, 17, none⟩ = some (.int .i64 m.turn.steps) := row_cell HB0.out.f 17
          have x0_0_18 : W0.cell? ⟨w.heap.size, 18, none⟩ = some (.slice none 0 0) := row_cell HB0.out.e 18
          have x0_1_18 : W0.cell? ⟨w.heap.size + 1, 18, none⟩ = some (.slice ad3 m.turn.files.length cp3) := row_cell HB0.out.f 18
          have x0_0_19 : W0.cell? ⟨w.heap.size, 19, none⟩ = some (.slice none 0 0) := row_cell HB0.out.e 19
          have x0_1_19 : W0.cell? ⟨w.heap.size + 1, 19, none⟩ = some (.slice ad4 m.turn.said.length cp4) := row_cell HB0.out.f 19
          go_wp2_with fail
          refine (says_true (houseSame_self m.target _ ht (K0.out.next HB0.out.lo) (K1.out.next HB0.out.lo))).mono ?_
          rintro e W1 ⟨hs, hb⟩
          have hq := hs.pos C2.out
          obtain rfl := hq
          have HB1 := hid (HB0.out.next hb)
          clear hs hb x0_0_0 x0_1_0 x0_0_1 x0_1_1 x0_0_2 x0_1_2 x0_0_3 x0_1_3 x0_0_4 x0_1_4 x0_0_11 x0_1_11 x0_0_5 x0_1_5 x0_0_6 x0_1_6 x0_0_7 x0_1_7 x0_0_8 x0_1_8 x0_0_9 x0_1_9 x0_0_10 x0_1_10 x0_0_12 x0_1_12 x0_0_13 x0_1_13 x0_0_14 x0_1_14 x0_0_15 x0_1_15 x0_0_16 x0_1_16 x0_0_17 x0_1_17 x0_0_18 x0_1_18 x0_0_19 x0_1_19
          have x1_0_10 : W1.cell? ⟨w.heap.size, 10, none⟩ = some (.slice ad2 m.seen.length cp2) := row_cell HB1.out.e 10
          have x1_1_10 : W1.cell? ⟨w.heap.size + 1, 10, none⟩ = some (.slice ad2 m.seen.length cp2) := row_cell HB1.out.f 10
          have x1_0_12 : W1.cell? ⟨w.heap.size, 12, none⟩ = some (.bool false) := row_cell HB1.out.e 12
          have x1_1_12 : W1.cell? ⟨w.heap.size + 1, 12, none⟩ = some (.bool m.turn.over) := row_cell HB1.out.f 12
          have x1_0_13 : W1.cell? ⟨w.heap.size, 13, none⟩ = some (.int .i64 0) := row_cell HB1.out.e 13
          have x1_1_13 : W1.cell? ⟨w.heap.size + 1, 13, none⟩ = some (.int .i64 m.turn.code) := row_cell HB1.out.f 13
          have x1_0_14 : W1.cell? ⟨w.heap.size, 14, none⟩ = some (.string ⟨#[]⟩) := row_cell HB1.out.e 14
          have x1_1_14 : W1.cell? ⟨w.heap.size + 1, 14, none⟩ = some (.string m.turn.text) := row_cell HB1.out.f 14
          have x1_0_15 : W1.cell? ⟨w.heap.size, 15, none⟩ = some (.int .i64 0) := row_cell HB1.out.e 15
          have x1_1_15 : W1.cell? ⟨w.heap.size + 1, 15, none⟩ = some (.int .i64 m.turn.kind) := row_cell HB1.out.f 15
          have x1_0_16 : W1.cell? ⟨w.heap.size, 16, none⟩ = some (.string ⟨#[]⟩) := row_cell HB1.out.e 16
          have x1_1_16 : W1.cell? ⟨w.heap.size + 1, 16, none⟩ = some (.string m.turn.name) := row_cell HB1.out.f 16
          have x1_0_17 : W1.cell? ⟨w.heap.size, 17, none⟩ = some (.int .i64 0) := row_cell HB1.out.e 17
          have x1_1_17 : W1.cell? ⟨w.heap.size + 1, 17, none⟩ = some (.int .i64 m.turn.steps) := row_cell HB1.out.f 17
          have x1_0_18 : W1.cell? ⟨w.heap.size, 18, none⟩ = some (.slice none 0 0) := row_cell HB1.out.e 18
          have x1_1_18 : W1.cell? ⟨w.heap.size + 1, 18, none⟩ = some (.slice ad3 m.turn.files.length cp3) := row_cell HB1.out.f 18
          have x1_0_19 : W1.cell? ⟨w.heap.size, 19, none⟩ = some (.slice none 0 0) := row_cell HB1.out.e 19
          have x1_1_19 : W1.cell? ⟨w.heap.size + 1, 19, none⟩ = some (.slice ad4 m.turn.said.length cp4) := row_cell HB1.out.f 19
          go_wp2_with fail
          refine (says_true (equalSn_same m.seen _ hsn.1 (K2.out.next HB1.out.lo) (K2.out.next HB1.out.lo))).mono ?_
          rintro e W2 ⟨hs, hb⟩
          have hq := hs.neg C3.out
          obtain rfl := hq
          have HB2 := hid (HB1.out.next hb)
          clear hs hb x1_0_10 x1_1_10 x1_0_12 x1_1_12 x1_0_13 x1_1_13 x1_0_14 x1_1_14 x1_0_15 x1_1_15 x1_0_16 x1_1_16 x1_0_17 x1_1_17 x1_0_18 x1_1_18 x1_0_19 x1_1_19
          go_wp2
          go_ret
          exact ⟨says_f fun h => C3.out h.2.2.2.1, HB2.out.lo⟩
      · have C2 := hid c2
        clear c2
        go_enter Tryz.func22, Tryz.ntmps22
        go_upto_region 1 with fail
        clear hW0
        have x0_0_0 : W0.cell? ⟨w.heap.size, 0, none⟩ = some (.int .i64 1) := row_cell HB0.out.e 0
        have x0_1_0 : W0.cell? ⟨w.heap.size + 1, 0, none⟩ = some (.int .i64 m.kind) := row_cell HB0.out.f 0
        have x0_0_1 : W0.cell? ⟨w.heap.size, 1, none⟩ = some (.int .i64 m.to) := row_cell HB0.out.e 1
        have x0_1_1 : W0.cell? ⟨w.heap.size + 1, 1, none⟩ = some (.int .i64 m.to) := row_cell HB0.out.f 1
        have x0_0_2 : W0.cell? ⟨w.heap.size, 2, none⟩ = some (.int .i64 0) := row_cell HB0.out.e 2
        have x0_1_2 : W0.cell? ⟨w.heap.size + 1, 2, none⟩ = some (.int .i64 m.sender) := row_cell HB0.out.f 2
        have x0_0_3 : W0.cell? ⟨w.heap.size, 3, none⟩ = some (.int .i64 m.epoch) := row_cell HB0.out.e 3
        have x0_1_3 : W0.cell? ⟨w.heap.size + 1, 3, none⟩ = some (.int .i64 m.epoch) := row_cell HB0.out.f 3
        have x0_0_4 : W0.cell? ⟨w.heap.size, 4, none⟩ = some (.int .i64 m.edit) := row_cell HB0.out.e 4
        have x0_1_4 : W0.cell? ⟨w.heap.size + 1, 4, none⟩ = some (.int .i64 m.edit) := row_cell HB0.out.f 4
        have x0_0_11 : W0.cell? ⟨w.heap.size, 11, none⟩ = some (.int .i64 0) := row_cell HB0.out.e 11
        have x0_1_11 : W0.cell? ⟨w.heap.size + 1, 11, none⟩ = some (.int .i64 m.count) := row_cell HB0.out.f 11
        have x0_0_5 : W0.cell? ⟨w.heap.size, 5, none⟩ = some (.string m.target.name) := row_cell HB0.out.e 5
        have x0_1_5 : W0.cell? ⟨w.heap.size + 1, 5, none⟩ = some (.string m.target.name) := row_cell HB0.out.f 5
        have x0_0_6 : W0.cell? ⟨w.heap.size, 6, none⟩ = some (.string m.target.tool) := row_cell HB0.out.e 6
        have x0_1_6 : W0.cell? ⟨w.heap.size + 1, 6, none⟩ = some (.string m.target.tool) := row_cell HB0.out.f 6
        have x0_0_7 : W0.cell? ⟨w.heap.size, 7, none⟩ = some (.string m.target.arg) := row_cell HB0.out.e 7
        have x0_1_7 : W0.cell? ⟨w.heap.size + 1, 7, none⟩ = some (.string m.target.arg) := row_cell HB0.out.f 7
        have x0_0_8 : W0.cell? ⟨w.heap.size, 8, none⟩ = some (.slice ad0 m.target.ins.length cp0) := row_cell HB0.out.e 8
        have x0_1_8 : W0.cell? ⟨w.heap.size + 1, 8, none⟩ = some (.slice ad0 m.target.ins.length cp0) := row_cell HB0.out.f 8
        have x0_0_9 : W0.cell? ⟨w.heap.size, 9, none⟩ = some (.slice ad1 m.target.outs.length cp1) := row_cell HB0.out.e 9
        have x0_1_9 : W0.cell? ⟨w.heap.size + 1, 9, none⟩ = some (.slice ad1 m.target.outs.length cp1) := row_cell HB0.out.f 9
        have x0_0_10 : W0.cell? ⟨w.heap.size, 10, none⟩ = some (.slice ad2 m.seen.length cp2) := row_cell HB0.out.e 10
        have x0_1_10 : W0.cell? ⟨w.heap.size + 1, 10, none⟩ = some (.slice ad2 m.seen.length cp2) := row_cell HB0.out.f 10
        have x0_0_12 : W0.cell? ⟨w.heap.size, 12, none⟩ = some (.bool false) := row_cell HB0.out.e 12
        have x0_1_12 : W0.cell? ⟨w.heap.size + 1, 12, none⟩ = some (.bool m.turn.over) := row_cell HB0.out.f 12
        have x0_0_13 : W0.cell? ⟨w.heap.size, 13, none⟩ = some (.int .i64 0) := row_cell HB0.out.e 13
        have x0_1_13 : W0.cell? ⟨w.heap.size + 1, 13, none⟩ = some (.int .i64 m.turn.code) := row_cell HB0.out.f 13
        have x0_0_14 : W0.cell? ⟨w.heap.size, 14, none⟩ = some (.string ⟨#[]⟩) := row_cell HB0.out.e 14
        have x0_1_14 : W0.cell? ⟨w.heap.size + 1, 14, none⟩ = some (.string m.turn.text) := row_cell HB0.out.f 14
        have x0_0_15 : W0.cell? ⟨w.heap.size, 15, none⟩ = some (.int .i64 0) := row_cell HB0.out.e 15
        have x0_1_15 : W0.cell? ⟨w.heap.size + 1, 15, none⟩ = some (.int .i64 m.turn.kind) := row_cell HB0.out.f 15
        have x0_0_16 : W0.cell? ⟨w.heap.size, 16, none⟩ = some (.string ⟨#[]⟩) := row_cell HB0.out.e 16
        have x0_1_16 : W0.cell? ⟨w.heap.size + 1, 16, none⟩ = some (.string m.turn.name) := row_cell HB0.out.f 16
        have x0_0_17 : W0.cell? ⟨w.heap.size, 17, none⟩ = some (.int .i64 0) := row_cell HB0.out.e 17
        have x0_1_17 : W0.cell? ⟨w.heap.size + 1, 17, none⟩ = some (.int .i64 m.turn.steps) := row_cell HB0.out.f 17
        have x0_0_18 : W0.cell? ⟨w.heap.size, 18, none⟩ = some (.slice none 0 0) := row_cell HB0.out.e 18
        have x0_1_18 : W0.cell? ⟨w.heap.size + 1, 18, none⟩ = some (.slice ad3 m.turn.files.length cp3) := row_cell HB0.out.f 18
        have x0_0_19 : W0.cell? ⟨w.heap.size, 19, none⟩ = some (.slice none 0 0) := row_cell HB0.out.e 19
        have x0_1_19 : W0.cell? ⟨w.heap.size + 1, 19, none⟩ = some (.slice ad4 m.turn.said.length cp4) := row_cell HB0.out.f 19
        go_wp2_with fail
        refine (says_true (houseSame_self m.target _ ht (K0.out.next HB0.out.lo) (K1.out.next HB0.out.lo))).mono ?_
        rintro e W1 ⟨hs, hb⟩
        have hq := hs.neg C2.out
        obtain rfl := hq
        have HB1 := hid (HB0.out.next hb)
        clear hs hb x0_0_0 x0_1_0 x0_0_1 x0_1_1 x0_0_2 x0_1_2 x0_0_3 x0_1_3 x0_0_4 x0_1_4 x0_0_11 x0_1_11 x0_0_5 x0_1_5 x0_0_6 x0_1_6 x0_0_7 x0_1_7 x0_0_8 x0_1_8 x0_0_9 x0_1_9 x0_0_10 x0_1_10 x0_0_12 x0_1_12 x0_0_13 x0_1_13 x0_0_14 x0_1_14 x0_0_15 x0_1_15 x0_0_16 x0_1_16 x0_0_17 x0_1_17 x0_0_18 x0_1_18 x0_0_19 x0_1_19
        go_wp2
        go_ret
        exact ⟨says_f fun h => C2.out h.2.2.1, HB1.out.lo⟩
    · have q1 : (m.count == 0) = false := by simp [c1]
      have p1 : ((0 : Int) == m.count) = false := by rw [beq_eq_false_iff_ne]; intro h; exact c1 h.symm
      have C1 := hid c1
      clear c1
      go_enter Tryz.func22, Tryz.ntmps22
      go_upto_region 1 with fail
      clear hW0
      have x0_0_0 : W0.cell? ⟨w.heap.size, 0, none⟩ = some (.int .i64 1) := row_cell HB0.out.e 0
      have x0_1_0 : W0.cell? ⟨w.heap.size + 1, 0, none⟩ = some (.int .i64 m.kind) := row_cell HB0.out.f 0
      have x0_0_1 : W0.cell? ⟨w.heap.size, 1, none⟩ = some (.int .i64 m.to) := row_cell HB0.out.e 1
      have x0_1_1 : W0.cell? ⟨w.heap.size + 1, 1, none⟩ = some (.int .i64 m.to) := row_cell HB0.out.f 1
      have x0_0_2 : W0.cell? ⟨w.heap.size, 2, none⟩ = some (.int .i64 0) := row_cell HB0.out.e 2
      have x0_1_2 : W0.cell? ⟨w.heap.size + 1, 2, none⟩ = some (.int .i64 m.sender) := row_cell HB0.out.f 2
      have x0_0_3 : W0.cell? ⟨w.heap.size, 3, none⟩ = some (.int .i64 m.epoch) := row_cell HB0.out.e 3
      have x0_1_3 : W0.cell? ⟨w.heap.size + 1, 3, none⟩ = some (.int .i64 m.epoch) := row_cell HB0.out.f 3
      have x0_0_4 : W0.cell? ⟨w.heap.size, 4, none⟩ = some (.int .i64 m.edit) := row_cell HB0.out.e 4
      have x0_1_4 : W0.cell? ⟨w.heap.size + 1, 4, none⟩ = some (.int .i64 m.edit) := row_cell HB0.out.f 4
      have x0_0_11 : W0.cell? ⟨w.heap.size, 11, none⟩ = some (.int .i64 0) := row_cell HB0.out.e 11
      have x0_1_11 : W0.cell? ⟨w.heap.size + 1, 11, none⟩ = some (.int .i64 m.count) := row_cell HB0.out.f 11
      have x0_0_5 : W0.cell? ⟨w.heap.size, 5, none⟩ = some (.string m.target.name) := row_cell HB0.out.e 5
      have x0_1_5 : W0.cell? ⟨w.heap.size + 1, 5, none⟩ = some (.string m.target.name) := row_cell HB0.out.f 5
      have x0_0_6 : W0.cell? ⟨w.heap.size, 6, none⟩ = some (.string m.target.tool) := row_cell HB0.out.e 6
      have x0_1_6 : W0.cell? ⟨w.heap.size + 1, 6, none⟩ = some (.string m.target.tool) := row_cell HB0.out.f 6
      have x0_0_7 : W0.cell? ⟨w.heap.size, 7, none⟩ = some (.string m.target.arg) := row_cell HB0.out.e 7
      have x0_1_7 : W0.cell? ⟨w.heap.size + 1, 7, none⟩ = some (.string m.target.arg) := row_cell HB0.out.f 7
      have x0_0_8 : W0.cell? ⟨w.heap.size, 8, none⟩ = some (.slice ad0 m.target.ins.length cp0) := row_cell HB0.out.e 8
      have x0_1_8 : W0.cell? ⟨w.heap.size + 1, 8, none⟩ = some (.slice ad0 m.target.ins.length cp0) := row_cell HB0.out.f 8
      have x0_0_9 : W0.cell? ⟨w.heap.size, 9, none⟩ = some (.slice ad1 m.target.outs.length cp1) := row_cell HB0.out.e 9
      have x0_1_9 : W0.cell? ⟨w.heap.size + 1, 9, none⟩ = some (.slice ad1 m.target.outs.length cp1) := row_cell HB0.out.f 9
      have x0_0_10 : W0.cell? ⟨w.heap.size, 10, none⟩ = some (.slice ad2 m.seen.length cp2) := row_cell HB0.out.e 10
      have x0_1_10 : W0.cell? ⟨w.heap.size + 1, 10, none⟩ = some (.slice ad2 m.seen.length cp2) := row_cell HB0.out.f 10
      have x0_0_12 : W0.cell? ⟨w.heap.size, 12, none⟩ = some (.bool false) := row_cell HB0.out.e 12
      have x0_1_12 : W0.cell? ⟨w.heap.size + 1, 12, none⟩ = some (.bool m.turn.over) := row_cell HB0.out.f 12
      have x0_0_13 : W0.cell? ⟨w.heap.size, 13, none⟩ = some (.int .i64 0) := row_cell HB0.out.e 13
      have x0_1_13 : W0.cell? ⟨w.heap.size + 1, 13, none⟩ = some (.int .i64 m.turn.code) := row_cell HB0.out.f 13
      have x0_0_14 : W0.cell? ⟨w.heap.size, 14, none⟩ = some (.string ⟨#[]⟩) := row_cell HB0.out.e 14
      have x0_1_14 : W0.cell? ⟨w.heap.size + 1, 14, none⟩ = some (.string m.turn.text) := row_cell HB0.out.f 14
      have x0_0_15 : W0.cell? ⟨w.heap.size, 15, none⟩ = some (.int .i64 0) := row_cell HB0.out.e 15
      have x0_1_15 : W0.cell? ⟨w.heap.size + 1, 15, none⟩ = some (.int .i64 m.turn.kind) := row_cell HB0.out.f 15
      have x0_0_16 : W0.cell? ⟨w.heap.size, 16, none⟩ = some (.string ⟨#[]⟩) := row_cell HB0.out.e 16
      have x0_1_16 : W0.cell? ⟨w.heap.size + 1, 16, none⟩ = some (.string m.turn.name) := row_cell HB0.out.f 16
      have x0_0_17 : W0.cell? ⟨w.heap.size, 17, none⟩ = some (.int .i64 0) := row_cell HB0.out.e 17
      have x0_1_17 : W0.cell? ⟨w.heap.size + 1, 17, none⟩ = some (.int .i64 m.turn.steps) := row_cell HB0.out.f 17
      have x0_0_18 : W0.cell? ⟨w.heap.size, 18, none⟩ = some (.slice none 0 0) := row_cell HB0.out.e 18
      have x0_1_18 : W0.cell? ⟨w.heap.size + 1, 18, none⟩ = some (.slice ad3 m.turn.files.length cp3) := row_cell HB0.out.f 18
      have x0_0_19 : W0.cell? ⟨w.heap.size, 19, none⟩ = some (.slice none 0 0) := row_cell HB0.out.e 19
      have x0_1_19 : W0.cell? ⟨w.heap.size + 1, 19, none⟩ = some (.slice ad4 m.turn.said.length cp4) := row_cell HB0.out.f 19
      go_wp2
      go_ret
      exact ⟨says_f fun h => C1.out h.2.1, HB0.out.lo⟩
  · have q0 : (m.sender == 0) = false := by simp [c0]
    have p0 : ((0 : Int) == m.sender) = false := by rw [beq_eq_false_iff_ne]; intro h; exact c0 h.symm
    have C0 := hid c0
    clear c0
    go_enter Tryz.func22, Tryz.ntmps22
    go_upto_region 1 with fail
    clear hW0
    have x0_0_0 : W0.cell? ⟨w.heap.size, 0, none⟩ = some (.int .i64 1) := row_cell HB0.out.e 0
    have x0_1_0 : W0.cell? ⟨w.heap.size + 1, 0, none⟩ = some (.int .i64 m.kind) := row_cell HB0.out.f 0
    have x0_0_1 : W0.cell? ⟨w.heap.size, 1, none⟩ = some (.int .i64 m.to) := row_cell HB0.out.e 1
    have x0_1_1 : W0.cell? ⟨w.heap.size + 1, 1, none⟩ = some (.int .i64 m.to) := row_cell HB0.out.f 1
    have x0_0_2 : W0.cell? ⟨w.heap.size, 2, none⟩ = some (.int .i64 0) := row_cell HB0.out.e 2
    have x0_1_2 : W0.cell? ⟨w.heap.size + 1, 2, none⟩ = some (.int .i64 m.sender) := row_cell HB0.out.f 2
    have x0_0_3 : W0.cell? ⟨w.heap.size, 3, none⟩ = some (.int .i64 m.epoch) := row_cell HB0.out.e 3
    have x0_1_3 : W0.cell? ⟨w.heap.size + 1, 3, none⟩ = some (.int .i64 m.epoch) := row_cell HB0.out.f 3
    have x0_0_4 : W0.cell? ⟨w.heap.size, 4, none⟩ = some (.int .i64 m.edit) := row_cell HB0.out.e 4
    have x0_1_4 : W0.cell? ⟨w.heap.size + 1, 4, none⟩ = some (.int .i64 m.edit) := row_cell HB0.out.f 4
    have x0_0_11 : W0.cell? ⟨w.heap.size, 11, none⟩ = some (.int .i64 0) := row_cell HB0.out.e 11
    have x0_1_11 : W0.cell? ⟨w.heap.size + 1, 11, none⟩ = some (.int .i64 m.count) := row_cell HB0.out.f 11
    have x0_0_5 : W0.cell? ⟨w.heap.size, 5, none⟩ = some (.string m.target.name) := row_cell HB0.out.e 5
    have x0_1_5 : W0.cell? ⟨w.heap.size + 1, 5, none⟩ = some (.string m.target.name) := row_cell HB0.out.f 5
    have x0_0_6 : W0.cell? ⟨w.heap.size, 6, none⟩ = some (.string m.target.tool) := row_cell HB0.out.e 6
    have x0_1_6 : W0.cell? ⟨w.heap.size + 1, 6, none⟩ = some (.string m.target.tool) := row_cell HB0.out.f 6
    have x0_0_7 : W0.cell? ⟨w.heap.size, 7, none⟩ = some (.string m.target.arg) := row_cell HB0.out.e 7
    have x0_1_7 : W0.cell? ⟨w.heap.size + 1, 7, none⟩ = some (.string m.target.arg) := row_cell HB0.out.f 7
    have x0_0_8 : W0.cell? ⟨w.heap.size, 8, none⟩ = some (.slice ad0 m.target.ins.length cp0) := row_cell HB0.out.e 8
    have x0_1_8 : W0.cell? ⟨w.heap.size + 1, 8, none⟩ = some (.slice ad0 m.target.ins.length cp0) := row_cell HB0.out.f 8
    have x0_0_9 : W0.cell? ⟨w.heap.size, 9, none⟩ = some (.slice ad1 m.target.outs.length cp1) := row_cell HB0.out.e 9
    have x0_1_9 : W0.cell? ⟨w.heap.size + 1, 9, none⟩ = some (.slice ad1 m.target.outs.length cp1) := row_cell HB0.out.f 9
    have x0_0_10 : W0.cell? ⟨w.heap.size, 10, none⟩ = some (.slice ad2 m.seen.length cp2) := row_cell HB0.out.e 10
    have x0_1_10 : W0.cell? ⟨w.heap.size + 1, 10, none⟩ = some (.slice ad2 m.seen.length cp2) := row_cell HB0.out.f 10
    have x0_0_12 : W0.cell? ⟨w.heap.size, 12, none⟩ = some (.bool false) := row_cell HB0.out.e 12
    have x0_1_12 : W0.cell? ⟨w.heap.size + 1, 12, none⟩ = some (.bool m.turn.over) := row_cell HB0.out.f 12
    have x0_0_13 : W0.cell? ⟨w.heap.size, 13, none⟩ = some (.int .i64 0) := row_cell HB0.out.e 13
    have x0_1_13 : W0.cell? ⟨w.heap.size + 1, 13, none⟩ = some (.int .i64 m.turn.code) := row_cell HB0.out.f 13
    have x0_0_14 : W0.cell? ⟨w.heap.size, 14, none⟩ = some (.string ⟨#[]⟩) := row_cell HB0.out.e 14
    have x0_1_14 : W0.cell? ⟨w.heap.size + 1, 14, none⟩ = some (.string m.turn.text) := row_cell HB0.out.f 14
    have x0_0_15 : W0.cell? ⟨w.heap.size, 15, none⟩ = some (.int .i64 0) := row_cell HB0.out.e 15
    have x0_1_15 : W0.cell? ⟨w.heap.size + 1, 15, none⟩ = some (.int .i64 m.turn.kind) := row_cell HB0.out.f 15
    have x0_0_16 : W0.cell? ⟨w.heap.size, 16, none⟩ = some (.string ⟨#[]⟩) := row_cell HB0.out.e 16
    have x0_1_16 : W0.cell? ⟨w.heap.size + 1, 16, none⟩ = some (.string m.turn.name) := row_cell HB0.out.f 16
    have x0_0_17 : W0.cell? ⟨w.heap.size, 17, none⟩ = some (.int .i64 0) := row_cell HB0.out.e 17
    have x0_1_17 : W0.cell? ⟨w.heap.size + 1, 17, none⟩ = some (.int .i64 m.turn.steps) := row_cell HB0.out.f 17
    have x0_0_18 : W0.cell? ⟨w.heap.size, 18, none⟩ = some (.slice none 0 0) := row_cell HB0.out.e 18
    have x0_1_18 : W0.cell? ⟨w.heap.size + 1, 18, none⟩ = some (.slice ad3 m.turn.files.length cp3) := row_cell HB0.out.f 18
    have x0_0_19 : W0.cell? ⟨w.heap.size, 19, none⟩ = some (.slice none 0 0) := row_cell HB0.out.e 19
    have x0_1_19 : W0.cell? ⟨w.heap.size + 1, 19, none⟩ = some (.slice ad4 m.turn.said.length cp4) := row_cell HB0.out.f 19
    go_wp2
    go_ret
    exact ⟨says_f fun h => C0.out h.1, HB0.out.lo⟩
end Go.Proofs.YtlopcjhipajdcaaGreatDoor.Y
