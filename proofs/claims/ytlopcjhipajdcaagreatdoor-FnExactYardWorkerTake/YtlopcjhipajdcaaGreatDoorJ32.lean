import Derived.Test.YtlopcjhipajdcaaGreatDoorJ30
import Derived.Test.YtlopcjhipajdcaaGreatDoorJ31
import Derived.Test.YtlopcjhipajdcaaGreatDoorJ10
import Derived.Test.YtlopcjhipajdcaaGreatDoorJ13
/-! The form of an offer, by the model: whether there is one. Printed by gen_ybody.py. -/
namespace Go.Proofs.YtlopcjhipajdcaaGreatDoor.Y
open Go.RowKit R
open Go.Proofs.YtlopcjhipajdcaaGreatDoor.J (FileOk BegOk RepOk ltB Says says_t says_f)
set_option maxRecDepth 20000
set_option maxHeartbeats 32000000 in
theorem body_any (m : Ms) {v0 v1 v2 v3 v4 : Value} (w : World) (hm : SmMs m) (hk : m.kind = 1) (k0 : SStrA w v0 m.target.ins) (k1 : SStrA w v1 m.target.outs) (k2 : SSnA w v2 m.seen) (k3 : SFlA w v3 m.turn.files) (k4 : SStrA w v4 m.turn.said) :
    Calls Tryz.prog 20 #[.agg #[.int .i64 m.kind, .int .i64 m.to, .int .i64 m.sender, .int .i64 m.epoch, .int .i64 m.edit, .string m.target.name, .string m.target.tool, .string m.target.arg, v0, v1, v2, .int .i64 m.count, .bool m.turn.over, .int .i64 m.turn.code, .string m.turn.text, .int .i64 m.turn.kind, .string m.turn.name, .int .i64 m.turn.steps, v3, v4]] w fun e w' => (∃ s : ByteArray, e = .returned (.string s) ∧ (1 ≤ s.size ↔ OfOk m)) ∧ Below w.heap.size w w' := by
  obtain ⟨ht, hs, hu⟩ := hm
  have K0 := hid k0
  obtain ⟨ad0, cp0, rfl⟩ := k0.sl
  have K1 := hid k1
  obtain ⟨ad1, cp1, rfl⟩ := k1.sl
  have K2 := hid k2
  obtain ⟨ad2, cp2, rfl⟩ := k2.sl
  have K3 := hid k3
  obtain ⟨ad3, cp3, rfl⟩ := k3.sl
  have K4 := hid k4
  obtain ⟨ad4, cp4, rfl⟩ := k4.sl
  clear k0 k1 k2 k3 k4
  have HB0 := hid (B1.start w (.cells #[.int .i64 m.kind, .int .i64 m.to, .int .i64 m.sender, .int .i64 m.epoch, .int .i64 m.edit, .string m.target.name, .string m.target.tool, .string m.target.arg, .slice ad0 m.target.ins.length cp0, .slice ad1 m.target.outs.length cp1, .slice ad2 m.seen.length cp2, .int .i64 m.count, .bool m.turn.over, .int .i64 m.turn.code, .string m.turn.text, .int .i64 m.turn.kind, .string m.turn.name, .int .i64 m.turn.steps, .slice ad3 m.turn.files.length cp3, .slice ad4 m.turn.said.length cp4] 41))
  obtain ⟨W0, hW0⟩ : ∃ W, w.alloc (.cells #[.int .i64 m.kind, .int .i64 m.to, .int .i64 m.sender, .int .i64 m.epoch, .int .i64 m.edit, .string m.target.name, .string m.target.tool, .string m.target.arg, .slice ad0 m.target.ins.length cp0, .slice ad1 m.target.outs.length cp1, .slice ad2 m.seen.length cp2, .int .i64 m.count, .bool m.turn.over, .int .i64 m.turn.code, .string m.turn.text, .int .i64 m.turn.kind, .string m.turn.name, .int .i64 m.turn.steps, .slice ad3 m.turn.files.length cp3, .slice ad4 m.turn.said.length cp4] 41) = W := ⟨_, rfl⟩
  rw [hW0] at HB0
  have hE : -1000000 ≤ m.epoch.tmod 1000 ∧ m.epoch.tmod 1000 ≤ 1000000 := by
    have h1 := Int.tmod_lt_of_pos m.epoch (b := 1000) (by omega)
    have h2 := Int.lt_tmod_of_pos m.epoch (b := 1000) (by omega)
    omega
  have hD : -1000000 ≤ m.edit.tmod 10000 ∧ m.edit.tmod 10000 ≤ 1000000 := by
    have h1 := Int.tmod_lt_of_pos m.edit (b := 10000) (by omega)
    have h2 := Int.lt_tmod_of_pos m.edit (b := 10000) (by omega)
    omega
  have HE := hid hE
  have HD := hid hD
  clear hE hD
  have HK : Hid (m.kind = 1) := hk
  have q9 : (m.kind == 1) = true := by simp [hk]
  clear hk
  go_enter Tryz.func20, Tryz.ntmps20
  go_upto_region 1 with fail
  clear hW0
  have x3 : W0.cell? ⟨w.heap.size, 3, none⟩ = some (.int .i64 m.epoch) := row_cell HB0.out.e 3
  have x4 : W0.cell? ⟨w.heap.size, 4, none⟩ = some (.int .i64 m.edit) := row_cell HB0.out.e 4
  go_region_held3 (fun W => W.cell? ⟨w.heap.size, 3, none⟩ = some (.int .i64 m.epoch) ∧ W.cell? ⟨w.heap.size, 4, none⟩ = some (.int .i64 m.edit)) (first | (exact ⟨row_cell HC2.out.e 3, row_cell HC2.out.e 4⟩) | (exact ⟨row_cell HC1.out.e 3, row_cell HC1.out.e 4⟩) | go_keep) (first
    | (have hgate := HC1.out; clear hgate; go_at_call 43; refine (l26Dec_any _ _ HD.out.1 HD.out.2).mono ?_; rintro e w2 ⟨y2, rfl, hy2, hb2⟩; have HC2 := hid (HC1.out.next hb2); have k2 : ¬ (9223372036854775807 < 1 + y1.size + 1 + y2.size) := (by omega); clear hb2)
    | (go_at_call 43; refine (l26Dec_any _ _ HE.out.1 HE.out.2).mono ?_; rintro e w1 ⟨y1, rfl, hy1, hb1⟩; have HC1 := hid (HB0.out.next ((Below.refl _ _).drew.trans hb1)); have k0 : ¬ (9223372036854775807 < 1 + y1.size) := (by omega); have k1 : ¬ (9223372036854775807 < 1 + y1.size + 1) := (by omega); clear hb1))
  clear x3 x4 HB0 HC1
  obtain ⟨W1, rfl⟩ : ∃ W, W = w2 := ⟨_, rfl⟩
  have HB1 := HC2
  clear HC2
  have hyy : (⟨#[32]⟩ ++ y1 ++ ⟨#[32]⟩ ++ y2 : ByteArray).size ≤ 100 := by
    simp only [ByteArray.size_append]
    show 1 + y1.size + 1 + y2.size ≤ 100
    omega
  obtain ⟨YY, hYY⟩ : ∃ YY : ByteArray, ⟨#[32]⟩ ++ y1 ++ ⟨#[32]⟩ ++ y2 = YY := ⟨_, rfl⟩
  rw [hYY] at hyy ⊢
  clear hYY k0 k1 k2 hy1 hy2
  have x1_0 : W1.cell? ⟨w.heap.size, 0, none⟩ = some (.int .i64 m.kind) := row_cell HB1.out.e 0
  go_upto_region 4 with fail
  clear x1_0 q9
  by_cases c0 : m.sender = 0
  · have q0 : (m.sender == 0) = true := by simp [c0]
    have C0 := hid c0
    clear c0
    by_cases c1 : 1 ≤ m.to ∧ m.to ≤ 4
    · have C1 := hid c1
      clear c1
      by_cases c2 : (1 ≤ m.epoch ∧ m.epoch ≤ 200) ∧ 0 ≤ m.edit ∧ m.edit ≤ 1000
      · have C2 := hid c2
        clear c2
        by_cases c3 : TgOk m.target
        · have C3 := hid c3
          clear c3
          by_cases c4 : SnsOk m.target.ins.length m.seen
          · have C4 := hid c4
            clear c4
            by_cases c5 : m.count = 0
            · have q5 : (m.count == 0) = true := by simp [c5]
              have C5 := hid c5
              clear c5
              by_cases c6 : TuNone m.turn
              · have C6 := hid c6
                clear c6
                have x1_1 : W1.cell? ⟨w.heap.size, 1, none⟩ = some (.int .i64 m.to) := row_cell HB1.out.e 1
                have x1_2 : W1.cell? ⟨w.heap.size, 2, none⟩ = some (.int .i64 m.sender) := row_cell HB1.out.e 2
                have x1_5 : W1.cell? ⟨w.heap.size, 5, none⟩ = some (.string m.target.name) := row_cell HB1.out.e 5
                have x1_6 : W1.cell? ⟨w.heap.size, 6, none⟩ = some (.string m.target.tool) := row_cell HB1.out.e 6
                have x1_7 : W1.cell? ⟨w.heap.size, 7, none⟩ = some (.string m.target.arg) := row_cell HB1.out.e 7
                have x1_8 : W1.cell? ⟨w.heap.size, 8, none⟩ = some (.slice ad0 m.target.ins.length cp0) := row_cell HB1.out.e 8
                have x1_9 : W1.cell? ⟨w.heap.size, 9, none⟩ = some (.slice ad1 m.target.outs.length cp1) := row_cell HB1.out.e 9
                have x1_10 : W1.cell? ⟨w.heap.size, 10, none⟩ = some (.slice ad2 m.seen.length cp2) := row_cell HB1.out.e 10
                have x1_11 : W1.cell? ⟨w.heap.size, 11, none⟩ = some (.int .i64 m.count) := row_cell HB1.out.e 11
                have x1_12 : W1.cell? ⟨w.heap.size, 12, none⟩ = some (.bool m.turn.over) := row_cell HB1.out.e 12
                have x1_13 : W1.cell? ⟨w.heap.size, 13, none⟩ = some (.int .i64 m.turn.code) := row_cell HB1.out.e 13
                have x1_14 : W1.cell? ⟨w.heap.size, 14, none⟩ = some (.string m.turn.text) := row_cell HB1.out.e 14
                have x1_15 : W1.cell? ⟨w.heap.size, 15, none⟩ = some (.int .i64 m.turn.kind) := row_cell HB1.out.e 15
                have x1_16 : W1.cell? ⟨w.heap.size, 16, none⟩ = some (.string m.turn.name) := row_cell HB1.out.e 16
                have x1_17 : W1.cell? ⟨w.heap.size, 17, none⟩ = some (.int .i64 m.turn.steps) := row_cell HB1.out.e 17
                have x1_18 : W1.cell? ⟨w.heap.size, 18, none⟩ = some (.slice ad3 m.turn.files.length cp3) := row_cell HB1.out.e 18
                have x1_19 : W1.cell? ⟨w.heap.size, 19, none⟩ = some (.slice ad4 m.turn.said.length cp4) := row_cell HB1.out.e 19
                go_wp2_with fail
                refine (l26In_any m.to 1 4 _).mono ?_
                rintro e WW ⟨hq, rfl⟩
                have hq := hq.pos C1.out
                obtain rfl := hq
                go_wp2_with (first | (refine wpList_taken rfl fun K hK => ?_; refine wp_load_row 41 _ rfl w.heap.size rfl 41 #[.int .i64 m.kind, .int .i64 m.to, .int .i64 m.sender, .int .i64 m.epoch, .int .i64 m.edit, .string m.target.name, .string m.target.tool, .string m.target.arg, .slice ad0 m.target.ins.length cp0, .slice ad1 m.target.outs.length cp1, .slice ad2 m.seen.length cp2, .int .i64 m.count, .bool m.turn.over, .int .i64 m.turn.code, .string m.turn.text, .int .i64 m.turn.kind, .string m.turn.name, .int .i64 m.turn.steps, .slice ad3 m.turn.files.length cp3, .slice ad4 m.turn.said.length cp4] (0, 0) _ HB1.out.e Tryz.underlying41 rfl (by kernel_rfl) ?_; refine hK _ _ ?_; clear hK K))
                refine (when_any m _).mono ?_
                rintro e W2 ⟨hq, hb⟩
                have hq := hq.pos C2.out
                obtain rfl := hq
                have HB2 := hid (HB1.out.next hb)
                clear hb x1_1 x1_2 x1_5 x1_6 x1_7 x1_8 x1_9 x1_10 x1_11 x1_12 x1_13 x1_14 x1_15 x1_16 x1_17 x1_18 x1_19
                have x2_5 : W2.cell? ⟨w.heap.size, 5, none⟩ = some (.string m.target.name) := row_cell HB2.out.e 5
                have x2_6 : W2.cell? ⟨w.heap.size, 6, none⟩ = some (.string m.target.tool) := row_cell HB2.out.e 6
                have x2_7 : W2.cell? ⟨w.heap.size, 7, none⟩ = some (.string m.target.arg) := row_cell HB2.out.e 7
                have x2_8 : W2.cell? ⟨w.heap.size, 8, none⟩ = some (.slice ad0 m.target.ins.length cp0) := row_cell HB2.out.e 8
                have x2_9 : W2.cell? ⟨w.heap.size, 9, none⟩ = some (.slice ad1 m.target.outs.length cp1) := row_cell HB2.out.e 9
                have x2_10 : W2.cell? ⟨w.heap.size, 10, none⟩ = some (.slice ad2 m.seen.length cp2) := row_cell HB2.out.e 10
                have x2_11 : W2.cell? ⟨w.heap.size, 11, none⟩ = some (.int .i64 m.count) := row_cell HB2.out.e 11
                have x2_12 : W2.cell? ⟨w.heap.size, 12, none⟩ = some (.bool m.turn.over) := row_cell HB2.out.e 12
                have x2_13 : W2.cell? ⟨w.heap.size, 13, none⟩ = some (.int .i64 m.turn.code) := row_cell HB2.out.e 13
                have x2_14 : W2.cell? ⟨w.heap.size, 14, none⟩ = some (.string m.turn.text) := row_cell HB2.out.e 14
                have x2_15 : W2.cell? ⟨w.heap.size, 15, none⟩ = some (.int .i64 m.turn.kind) := row_cell HB2.out.e 15
                have x2_16 : W2.cell? ⟨w.heap.size, 16, none⟩ = some (.string m.turn.name) := row_cell HB2.out.e 16
                have x2_17 : W2.cell? ⟨w.heap.size, 17, none⟩ = some (.int .i64 m.turn.steps) := row_cell HB2.out.e 17
                have x2_18 : W2.cell? ⟨w.heap.size, 18, none⟩ = some (.slice ad3 m.turn.files.length cp3) := row_cell HB2.out.e 18
                have x2_19 : W2.cell? ⟨w.heap.size, 19, none⟩ = some (.slice ad4 m.turn.said.length cp4) := row_cell HB2.out.e 19
                go_wp2_with fail
                refine (targetOk_any m.target _ ht (K0.out.next HB2.out.lo) (K1.out.next HB2.out.lo)).mono ?_
                rintro e W3 ⟨hq, hb⟩
                have hq := hq.pos C3.out
                obtain rfl := hq
                have HB3 := hid (HB2.out.next hb)
                clear hb x2_5 x2_6 x2_7 x2_8 x2_9 x2_10 x2_11 x2_12 x2_13 x2_14 x2_15 x2_16 x2_17 x2_18 x2_19
                have x3_5 : W3.cell? ⟨w.heap.size, 5, none⟩ = some (.string m.target.name) := row_cell HB3.out.e 5
                have x3_6 : W3.cell? ⟨w.heap.size, 6, none⟩ = some (.string m.target.tool) := row_cell HB3.out.e 6
                have x3_7 : W3.cell? ⟨w.heap.size, 7, none⟩ = some (.string m.target.arg) := row_cell HB3.out.e 7
                have x3_8 : W3.cell? ⟨w.heap.size, 8, none⟩ = some (.slice ad0 m.target.ins.length cp0) := row_cell HB3.out.e 8
                have x3_9 : W3.cell? ⟨w.heap.size, 9, none⟩ = some (.slice ad1 m.target.outs.length cp1) := row_cell HB3.out.e 9
                have x3_10 : W3.cell? ⟨w.heap.size, 10, none⟩ = some (.slice ad2 m.seen.length cp2) := row_cell HB3.out.e 10
                have x3_11 : W3.cell? ⟨w.heap.size, 11, none⟩ = some (.int .i64 m.count) := row_cell HB3.out.e 11
                have x3_12 : W3.cell? ⟨w.heap.size, 12, none⟩ = some (.bool m.turn.over) := row_cell HB3.out.e 12
                have x3_13 : W3.cell? ⟨w.heap.size, 13, none⟩ = some (.int .i64 m.turn.code) := row_cell HB3.out.e 13
                have x3_14 : W3.cell? ⟨w.heap.size, 14, none⟩ = some (.string m.turn.text) := row_cell HB3.out.e 14
                have x3_15 : W3.cell? ⟨w.heap.size, 15, none⟩ = some (.int .i64 m.turn.kind) := row_cell HB3.out.e 15
                have x3_16 : W3.cell? ⟨w.heap.size, 16, none⟩ = some (.string m.turn.name) := row_cell HB3.out.e 16
                have x3_17 : W3.cell? ⟨w.heap.size, 17, none⟩ = some (.int .i64 m.turn.steps) := row_cell HB3.out.e 17
                have x3_18 : W3.cell? ⟨w.heap.size, 18, none⟩ = some (.slice ad3 m.turn.files.length cp3) := row_cell HB3.out.e 18
                have x3_19 : W3.cell? ⟨w.heap.size, 19, none⟩ = some (.slice ad4 m.turn.said.length cp4) := row_cell HB3.out.e 19
                go_wp2_with fail
                refine (seens_any m.target m.seen _ ht hs (K0.out.next HB3.out.lo) (K2.out.next HB3.out.lo)).mono ?_
                rintro e W4 ⟨hq, hb⟩
                have hq := hq.pos C4.out
                obtain rfl := hq
                have HB4 := hid (HB3.out.next hb)
                clear hb x3_5 x3_6 x3_7 x3_8 x3_9 x3_10 x3_11 x3_12 x3_13 x3_14 x3_15 x3_16 x3_17 x3_18 x3_19
                have x4_11 : W4.cell? ⟨w.heap.size, 11, none⟩ = some (.int .i64 m.count) := row_cell HB4.out.e 11
                have x4_12 : W4.cell? ⟨w.heap.size, 12, none⟩ = some (.bool m.turn.over) := row_cell HB4.out.e 12
                have x4_13 : W4.cell? ⟨w.heap.size, 13, none⟩ = some (.int .i64 m.turn.code) := row_cell HB4.out.e 13
                have x4_14 : W4.cell? ⟨w.heap.size, 14, none⟩ = some (.string m.turn.text) := row_cell HB4.out.e 14
                have x4_15 : W4.cell? ⟨w.heap.size, 15, none⟩ = some (.int .i64 m.turn.kind) := row_cell HB4.out.e 15
                have x4_16 : W4.cell? ⟨w.heap.size, 16, none⟩ = some (.string m.turn.name) := row_cell HB4.out.e 16
                have x4_17 : W4.cell? ⟨w.heap.size, 17, none⟩ = some (.int .i64 m.turn.steps) := row_cell HB4.out.e 17
                have x4_18 : W4.cell? ⟨w.heap.size, 18, none⟩ = some (.slice ad3 m.turn.files.length cp3) := row_cell HB4.out.e 18
                have x4_19 : W4.cell? ⟨w.heap.size, 19, none⟩ = some (.slice ad4 m.turn.said.length cp4) := row_cell HB4.out.e 19
                go_wp2_with fail
                refine (noTurn_any m.turn _ hu (K3.out.next HB4.out.lo) (K4.out.next HB4.out.lo)).mono ?_
                rintro e W5 ⟨hq, hb⟩
                have hq := hq.pos C6.out
                obtain rfl := hq
                have HB5 := hid (HB4.out.next hb)
                clear hb x4_11 x4_12 x4_13 x4_14 x4_15 x4_16 x4_17 x4_18 x4_19
                go_upto_region 5 with fail
                have x5_1 : W5.cell? ⟨w.heap.size, 1, none⟩ = some (.int .i64 m.to) := row_cell HB5.out.e 1
                have x5_5 : W5.cell? ⟨w.heap.size, 5, none⟩ = some (.string m.target.name) := row_cell HB5.out.e 5
                have x5_6 : W5.cell? ⟨w.heap.size, 6, none⟩ = some (.string m.target.tool) := row_cell HB5.out.e 6
                have x5_7 : W5.cell? ⟨w.heap.size, 7, none⟩ = some (.string m.target.arg) := row_cell HB5.out.e 7
                have x5_8 : W5.cell? ⟨w.heap.size, 8, none⟩ = some (.slice ad0 m.target.ins.length cp0) := row_cell HB5.out.e 8
                have x5_9 : W5.cell? ⟨w.heap.size, 9, none⟩ = some (.slice ad1 m.target.outs.length cp1) := row_cell HB5.out.e 9
                have x5_10 : W5.cell? ⟨w.heap.size, 10, none⟩ = some (.slice ad2 m.seen.length cp2) := row_cell HB5.out.e 10
                obtain ⟨t1, t2⟩ := C1.out
                have ht1 : -1000000 ≤ m.to := by omega
                have ht2 : m.to ≤ 1000000 := by omega
                have hl9 : m.seen.length ≤ 1000 := by have h1 := C4.out.1; have h2 := C3.out.2.2.2.2.2.2.1; omega
                clear t1 t2
                go_region_held3 (fun W => W.cell? ⟨w.heap.size, 1, none⟩ = some (.int .i64 m.to) ∧ W.cell? ⟨w.heap.size, 5, none⟩ = some (.string m.target.name) ∧ W.cell? ⟨w.heap.size, 6, none⟩ = some (.string m.target.tool) ∧ W.cell? ⟨w.heap.size, 7, none⟩ = some (.string m.target.arg) ∧ W.cell? ⟨w.heap.size, 8, none⟩ = some (.slice ad0 m.target.ins.length cp0) ∧ W.cell? ⟨w.heap.size, 9, none⟩ = some (.slice ad1 m.target.outs.length cp1) ∧ W.cell? ⟨w.heap.size, 10, none⟩ = some (.slice ad2 m.seen.length cp2)) (first | (exact ⟨row_cell HC3.out.e 1, row_cell HC3.out.e 5, row_cell HC3.out.e 6, row_cell HC3.out.e 7, row_cell HC3.out.e 8, row_cell HC3.out.e 9, row_cell HC3.out.e 10⟩) | (exact ⟨row_cell HC2.out.e 1, row_cell HC2.out.e 5, row_cell HC2.out.e 6, row_cell HC2.out.e 7, row_cell HC2.out.e 8, row_cell HC2.out.e 9, row_cell HC2.out.e 10⟩) | (exact ⟨row_cell HC1.out.e 1, row_cell HC1.out.e 5, row_cell HC1.out.e 6, row_cell HC1.out.e 7, row_cell HC1.out.e 8, row_cell HC1.out.e 9, row_cell HC1.out.e 10⟩) | go_keep) (first
                  | (have hgate := HC2.out; clear hgate; go_at_call 48; refine (saw_any m.seen _ hl9 C4.out.2 (K2.out.next HC2.out.lo)).mono ?_; rintro e w7 ⟨z3, rfl, hz3, hb7⟩; have HC3 := hid (HC2.out.next hb7); have j3 : ¬ (9223372036854775807 < z2.size + z3.size) := (by omega); clear hb7)
                  | (have hgate := HC1.out; clear hgate; go_at_call 47; refine (lines_any _ m.target _ hz9 C3.out (K0.out.next HC1.out.lo) (K1.out.next HC1.out.lo)).mono ?_; rintro e w6 ⟨z2, rfl, hz2, hz22, hb6⟩; have HC2 := hid (HC1.out.next hb6); clear hb6)
                  | (go_at_call 43; refine (l26Dec_any _ _ ht1 ht2).mono ?_; rintro e w5 ⟨z1, rfl, hz1, hb5⟩; have HC1 := hid (HB5.out.next ((Below.refl _ _).drew.trans hb5)); have j1 : ¬ (9223372036854775807 < 6 + z1.size) := (by omega); have j2 : ¬ (9223372036854775807 < 6 + z1.size + YY.size) := (by omega); have hz9 : (⟨#[111, 102, 102, 101, 114, 32]⟩ ++ z1 ++ YY : ByteArray).size ≤ 1000 := (by simp only [ByteArray.size_append]; show 6 + z1.size + YY.size ≤ 1000; omega); clear hb5))
                go_wp2
                go_ret
                refine ⟨⟨_, rfl, ⟨fun _ => ⟨C0.out, C1.out, C2.out, C3.out, C4.out, C5.out, C6.out⟩, fun _ => ?_⟩⟩, HC3.out.lo⟩
                rw [ByteArray.size_append]
                omega
              · have C6 := hid c6
                clear c6
                have x1_1 : W1.cell? ⟨w.heap.size, 1, none⟩ = some (.int .i64 m.to) := row_cell HB1.out.e 1
                have x1_2 : W1.cell? ⟨w.heap.size, 2, none⟩ = some (.int .i64 m.sender) := row_cell HB1.out.e 2
                have x1_5 : W1.cell? ⟨w.heap.size, 5, none⟩ = some (.string m.target.name) := row_cell HB1.out.e 5
                have x1_6 : W1.cell? ⟨w.heap.size, 6, none⟩ = some (.string m.target.tool) := row_cell HB1.out.e 6
                have x1_7 : W1.cell? ⟨w.heap.size, 7, none⟩ = some (.string m.target.arg) := row_cell HB1.out.e 7
                have x1_8 : W1.cell? ⟨w.heap.size, 8, none⟩ = some (.slice ad0 m.target.ins.length cp0) := row_cell HB1.out.e 8
                have x1_9 : W1.cell? ⟨w.heap.size, 9, none⟩ = some (.slice ad1 m.target.outs.length cp1) := row_cell HB1.out.e 9
                have x1_10 : W1.cell? ⟨w.heap.size, 10, none⟩ = some (.slice ad2 m.seen.length cp2) := row_cell HB1.out.e 10
                have x1_11 : W1.cell? ⟨w.heap.size, 11, none⟩ = some (.int .i64 m.count) := row_cell HB1.out.e 11
                have x1_12 : W1.cell? ⟨w.heap.size, 12, none⟩ = some (.bool m.turn.over) := row_cell HB1.out.e 12
                have x1_13 : W1.cell? ⟨w.heap.size, 13, none⟩ = some (.int .i64 m.turn.code) := row_cell HB1.out.e 13
                have x1_14 : W1.cell? ⟨w.heap.size, 14, none⟩ = some (.string m.turn.text) := row_cell HB1.out.e 14
                have x1_15 : W1.cell? ⟨w.heap.size, 15, none⟩ = some (.int .i64 m.turn.kind) := row_cell HB1.out.e 15
                have x1_16 : W1.cell? ⟨w.heap.size, 16, none⟩ = some (.string m.turn.name) := row_cell HB1.out.e 16
                have x1_17 : W1.cell? ⟨w.heap.size, 17, none⟩ = some (.int .i64 m.turn.steps) := row_cell HB1.out.e 17
                have x1_18 : W1.cell? ⟨w.heap.size, 18, none⟩ = some (.slice ad3 m.turn.files.length cp3) := row_cell HB1.out.e 18
                have x1_19 : W1.cell? ⟨w.heap.size, 19, none⟩ = some (.slice ad4 m.turn.said.length cp4) := row_cell HB1.out.e 19
                go_wp2_with fail
                refine (l26In_any m.to 1 4 _).mono ?_
                rintro e WW ⟨hq, rfl⟩
                have hq := hq.pos C1.out
                obtain rfl := hq
                go_wp2_with (first | (refine wpList_taken rfl fun K hK => ?_; refine wp_load_row 41 _ rfl w.heap.size rfl 41 #[.int .i64 m.kind, .int .i64 m.to, .int .i64 m.sender, .int .i64 m.epoch, .int .i64 m.edit, .string m.target.name, .string m.target.tool, .string m.target.arg, .slice ad0 m.target.ins.length cp0, .slice ad1 m.target.outs.length cp1, .slice ad2 m.seen.length cp2, .int .i64 m.count, .bool m.turn.over, .int .i64 m.turn.code, .string m.turn.text, .int .i64 m.turn.kind, .string m.turn.name, .int .i64 m.turn.steps, .slice ad3 m.turn.files.length cp3, .slice ad4 m.turn.said.length cp4] (0, 0) _ HB1.out.e Tryz.underlying41 rfl (by kernel_rfl) ?_; refine hK _ _ ?_; clear hK K))
                refine (when_any m _).mono ?_
                rintro e W2 ⟨hq, hb⟩
                have hq := hq.pos C2.out
                obtain rfl := hq
                have HB2 := hid (HB1.out.next hb)
                clear hb x1_1 x1_2 x1_5 x1_6 x1_7 x1_8 x1_9 x1_10 x1_11 x1_12 x1_13 x1_14 x1_15 x1_16 x1_17 x1_18 x1_19
                have x2_5 : W2.cell? ⟨w.heap.size, 5, none⟩ = some (.string m.target.name) := row_cell HB2.out.e 5
                have x2_6 : W2.cell? ⟨w.heap.size, 6, none⟩ = some (.string m.target.tool) := row_cell HB2.out.e 6
                have x2_7 : W2.cell? ⟨w.heap.size, 7, none⟩ = some (.string m.target.arg) := row_cell HB2.out.e 7
                have x2_8 : W2.cell? ⟨w.heap.size, 8, none⟩ = some (.slice ad0 m.target.ins.length cp0) := row_cell HB2.out.e 8
                have x2_9 : W2.cell? ⟨w.heap.size, 9, none⟩ = some (.slice ad1 m.target.outs.length cp1) := row_cell HB2.out.e 9
                have x2_10 : W2.cell? ⟨w.heap.size, 10, none⟩ = some (.slice ad2 m.seen.length cp2) := row_cell HB2.out.e 10
                have x2_11 : W2.cell? ⟨w.heap.size, 11, none⟩ = some (.int .i64 m.count) := row_cell HB2.out.e 11
                have x2_12 : W2.cell? ⟨w.heap.size, 12, none⟩ = some (.bool m.turn.over) := row_cell HB2.out.e 12
                have x2_13 : W2.cell? ⟨w.heap.size, 13, none⟩ = some (.int .i64 m.turn.code) := row_cell HB2.out.e 13
                have x2_14 : W2.cell? ⟨w.heap.size, 14, none⟩ = some (.string m.turn.text) := row_cell HB2.out.e 14
                have x2_15 : W2.cell? ⟨w.heap.size, 15, none⟩ = some (.int .i64 m.turn.kind) := row_cell HB2.out.e 15
                have x2_16 : W2.cell? ⟨w.heap.size, 16, none⟩ = some (.string m.turn.name) := row_cell HB2.out.e 16
                have x2_17 : W2.cell? ⟨w.heap.size, 17, none⟩ = some (.int .i64 m.turn.steps) := row_cell HB2.out.e 17
                have x2_18 : W2.cell? ⟨w.heap.size, 18, none⟩ = some (.slice ad3 m.turn.files.length cp3) := row_cell HB2.out.e 18
                have x2_19 : W2.cell? ⟨w.heap.size, 19, none⟩ = some (.slice ad4 m.turn.said.length cp4) := row_cell HB2.out.e 19
                go_wp2_with fail
                refine (targetOk_any m.target _ ht (K0.out.next HB2.out.lo) (K1.out.next HB2.out.lo)).mono ?_
                rintro e W3 ⟨hq, hb⟩
                have hq := hq.pos C3.out
                obtain rfl := hq
                have HB3 := hid (HB2.out.next hb)
                clear hb x2_5 x2_6 x2_7 x2_8 x2_9 x2_10 x2_11 x2_12 x2_13 x2_14 x2_15 x2_16 x2_17 x2_18 x2_19
                have x3_5 : W3.cell? ⟨w.heap.size, 5, none⟩ = some (.string m.target.name) := row_cell HB3.out.e 5
                have x3_6 : W3.cell? ⟨w.heap.size, 6, none⟩ = some (.string m.target.tool) := row_cell HB3.out.e 6
                have x3_7 : W3.cell? ⟨w.heap.size, 7, none⟩ = some (.string m.target.arg) := row_cell HB3.out.e 7
                have x3_8 : W3.cell? ⟨w.heap.size, 8, none⟩ = some (.slice ad0 m.target.ins.length cp0) := row_cell HB3.out.e 8
                have x3_9 : W3.cell? ⟨w.heap.size, 9, none⟩ = some (.slice ad1 m.target.outs.length cp1) := row_cell HB3.out.e 9
                have x3_10 : W3.cell? ⟨w.heap.size, 10, none⟩ = some (.slice ad2 m.seen.length cp2) := row_cell HB3.out.e 10
                have x3_11 : W3.cell? ⟨w.heap.size, 11, none⟩ = some (.int .i64 m.count) := row_cell HB3.out.e 11
                have x3_12 : W3.cell? ⟨w.heap.size, 12, none⟩ = some (.bool m.turn.over) := row_cell HB3.out.e 12
                have x3_13 : W3.cell? ⟨w.heap.size, 13, none⟩ = some (.int .i64 m.turn.code) := row_cell HB3.out.e 13
                have x3_14 : W3.cell? ⟨w.heap.size, 14, none⟩ = some (.string m.turn.text) := row_cell HB3.out.e 14
                have x3_15 : W3.cell? ⟨w.heap.size, 15, none⟩ = some (.int .i64 m.turn.kind) := row_cell HB3.out.e 15
                have x3_16 : W3.cell? ⟨w.heap.size, 16, none⟩ = some (.string m.turn.name) := row_cell HB3.out.e 16
                have x3_17 : W3.cell? ⟨w.heap.size, 17, none⟩ = some (.int .i64 m.turn.steps) := row_cell HB3.out.e 17
                have x3_18 : W3.cell? ⟨w.heap.size, 18, none⟩ = some (.slice ad3 m.turn.files.length cp3) := row_cell HB3.out.e 18
                have x3_19 : W3.cell? ⟨w.heap.size, 19, none⟩ = some (.slice ad4 m.turn.said.length cp4) := row_cell HB3.out.e 19
                go_wp2_with fail
                refine (seens_any m.target m.seen _ ht hs (K0.out.next HB3.out.lo) (K2.out.next HB3.out.lo)).mono ?_
                rintro e W4 ⟨hq, hb⟩
                have hq := hq.pos C4.out
                obtain rfl := hq
                have HB4 := hid (HB3.out.next hb)
                clear hb x3_5 x3_6 x3_7 x3_8 x3_9 x3_10 x3_11 x3_12 x3_13 x3_14 x3_15 x3_16 x3_17 x3_18 x3_19
                have x4_11 : W4.cell? ⟨w.heap.size, 11, none⟩ = some (.int .i64 m.count) := row_cell HB4.out.e 11
                have x4_12 : W4.cell? ⟨w.heap.size, 12, none⟩ = some (.bool m.turn.over) := row_cell HB4.out.e 12
                have x4_13 : W4.cell? ⟨w.heap.size, 13, none⟩ = some (.int .i64 m.turn.code) := row_cell HB4.out.e 13
                have x4_14 : W4.cell? ⟨w.heap.size, 14, none⟩ = some (.string m.turn.text) := row_cell HB4.out.e 14
                have x4_15 : W4.cell? ⟨w.heap.size, 15, none⟩ = some (.int .i64 m.turn.kind) := row_cell HB4.out.e 15
                have x4_16 : W4.cell? ⟨w.heap.size, 16, none⟩ = some (.string m.turn.name) := row_cell HB4.out.e 16
                have x4_17 : W4.cell? ⟨w.heap.size, 17, none⟩ = some (.int .i64 m.turn.steps) := row_cell HB4.out.e 17
                have x4_18 : W4.cell? ⟨w.heap.size, 18, none⟩ = some (.slice ad3 m.turn.files.length cp3) := row_cell HB4.out.e 18
                have x4_19 : W4.cell? ⟨w.heap.size, 19, none⟩ = some (.slice ad4 m.turn.said.length cp4) := row_cell HB4.out.e 19
                go_wp2_with fail
                refine (noTurn_any m.turn _ hu (K3.out.next HB4.out.lo) (K4.out.next HB4.out.lo)).mono ?_
                rintro e W5 ⟨hq, hb⟩
                have hq := hq.neg C6.out
                obtain rfl := hq
                have HB5 := hid (HB4.out.next hb)
                clear hb x4_11 x4_12 x4_13 x4_14 x4_15 x4_16 x4_17 x4_18 x4_19
                go_wp2
                go_ret
                exact ⟨⟨_, rfl, ⟨fun h => absurd (show 1 ≤ 0 from h) (by omega), fun h => absurd h.2.2.2.2.2.2 C6.out⟩⟩, HB5.out.lo⟩
            · have q5 : (m.count == 0) = false := by simp [c5]
              have C5 := hid c5
              clear c5
              have x1_1 : W1.cell? ⟨w.heap.size, 1, none⟩ = some (.int .i64 m.to) := row_cell HB1.out.e 1
              have x1_2 : W1.cell? ⟨w.heap.size, 2, none⟩ = some (.int .i64 m.sender) := row_cell HB1.out.e 2
              have x1_5 : W1.cell? ⟨w.heap.size, 5, none⟩ = some (.string m.target.name) := row_cell HB1.out.e 5
              have x1_6 : W1.cell? ⟨w.heap.size, 6, none⟩ = some (.string m.target.tool) := row_cell HB1.out.e 6
              have x1_7 : W1.cell? ⟨w.heap.size, 7, none⟩ = some (.string m.target.arg) := row_cell HB1.out.e 7
              have x1_8 : W1.cell? ⟨w.heap.size, 8, none⟩ = some (.slice ad0 m.target.ins.length cp0) := row_cell HB1.out.e 8
              have x1_9 : W1.cell? ⟨w.heap.size, 9, none⟩ = some (.slice ad1 m.target.outs.length cp1) := row_cell HB1.out.e 9
              have x1_10 : W1.cell? ⟨w.heap.size, 10, none⟩ = some (.slice ad2 m.seen.length cp2) := row_cell HB1.out.e 10
              have x1_11 : W1.cell? ⟨w.heap.size, 11, none⟩ = some (.int .i64 m.count) := row_cell HB1.out.e 11
              have x1_12 : W1.cell? ⟨w.heap.size, 12, none⟩ = some (.bool m.turn.over) := row_cell HB1.out.e 12
              have x1_13 : W1.cell? ⟨w.heap.size, 13, none⟩ = some (.int .i64 m.turn.code) := row_cell HB1.out.e 13
              have x1_14 : W1.cell? ⟨w.heap.size, 14, none⟩ = some (.string m.turn.text) := row_cell HB1.out.e 14
              have x1_15 : W1.cell? ⟨w.heap.size, 15, none⟩ = some (.int .i64 m.turn.kind) := row_cell HB1.out.e 15
              have x1_16 : W1.cell? ⟨w.heap.size, 16, none⟩ = some (.string m.turn.name) := row_cell HB1.out.e 16
              have x1_17 : W1.cell? ⟨w.heap.size, 17, none⟩ = some (.int .i64 m.turn.steps) := row_cell HB1.out.e 17
              have x1_18 : W1.cell? ⟨w.heap.size, 18, none⟩ = some (.slice ad3 m.turn.files.length cp3) := row_cell HB1.out.e 18
              have x1_19 : W1.cell? ⟨w.heap.size, 19, none⟩ = some (.slice ad4 m.turn.said.length cp4) := row_cell HB1.out.e 19
              go_wp2_with fail
              refine (l26In_any m.to 1 4 _).mono ?_
              rintro e WW ⟨hq, rfl⟩
              have hq := hq.pos C1.out
              obtain rfl := hq
              go_wp2_with (first | (refine wpList_taken rfl fun K hK => ?_; refine wp_load_row 41 _ rfl w.heap.size rfl 41 #[.int .i64 m.kind, .int .i64 m.to, .int .i64 m.sender, .int .i64 m.epoch, .int .i64 m.edit, .string m.target.name, .string m.target.tool, .string m.target.arg, .slice ad0 m.target.ins.length cp0, .slice ad1 m.target.outs.length cp1, .slice ad2 m.seen.length cp2, .int .i64 m.count, .bool m.turn.over, .int .i64 m.turn.code, .string m.turn.text, .int .i64 m.turn.kind, .string m.turn.name, .int .i64 m.turn.steps, .slice ad3 m.turn.files.length cp3, .slice ad4 m.turn.said.length cp4] (0, 0) _ HB1.out.e Tryz.underlying41 rfl (by kernel_rfl) ?_; refine hK _ _ ?_; clear hK K))
              refine (when_any m _).mono ?_
              rintro e W2 ⟨hq, hb⟩
              have hq := hq.pos C2.out
              obtain rfl := hq
              have HB2 := hid (HB1.out.next hb)
              clear hb x1_1 x1_2 x1_5 x1_6 x1_7 x1_8 x1_9 x1_10 x1_11 x1_12 x1_13 x1_14 x1_15 x1_16 x1_17 x1_18 x1_19
              have x2_5 : W2.cell? ⟨w.heap.size, 5, none⟩ = some (.string m.target.name) := row_cell HB2.out.e 5
              have x2_6 : W2.cell? ⟨w.heap.size, 6, none⟩ = some (.string m.target.tool) := row_cell HB2.out.e 6
              have x2_7 : W2.cell? ⟨w.heap.size, 7, none⟩ = some (.string m.target.arg) := row_cell HB2.out.e 7
              have x2_8 : W2.cell? ⟨w.heap.size, 8, none⟩ = some (.slice ad0 m.target.ins.length cp0) := row_cell HB2.out.e 8
              have x2_9 : W2.cell? ⟨w.heap.size, 9, none⟩ = some (.slice ad1 m.target.outs.length cp1) := row_cell HB2.out.e 9
              have x2_10 : W2.cell? ⟨w.heap.size, 10, none⟩ = some (.slice ad2 m.seen.length cp2) := row_cell HB2.out.e 10
              have x2_11 : W2.cell? ⟨w.heap.size, 11, none⟩ = some (.int .i64 m.count) := row_cell HB2.out.e 11
              have x2_12 : W2.cell? ⟨w.heap.size, 12, none⟩ = some (.bool m.turn.over) := row_cell HB2.out.e 12
              have x2_13 : W2.cell? ⟨w.heap.size, 13, none⟩ = some (.int .i64 m.turn.code) := row_cell HB2.out.e 13
              have x2_14 : W2.cell? ⟨w.heap.size, 14, none⟩ = some (.string m.turn.text) := row_cell HB2.out.e 14
              have x2_15 : W2.cell? ⟨w.heap.size, 15, none⟩ = some (.int .i64 m.turn.kind) := row_cell HB2.out.e 15
              have x2_16 : W2.cell? ⟨w.heap.size, 16, none⟩ = some (.string m.turn.name) := row_cell HB2.out.e 16
              have x2_17 : W2.cell? ⟨w.heap.size, 17, none⟩ = some (.int .i64 m.turn.steps) := row_cell HB2.out.e 17
              have x2_18 : W2.cell? ⟨w.heap.size, 18, none⟩ = some (.slice ad3 m.turn.files.length cp3) := row_cell HB2.out.e 18
              have x2_19 : W2.cell? ⟨w.heap.size, 19, none⟩ = some (.slice ad4 m.turn.said.length cp4) := row_cell HB2.out.e 19
              go_wp2_with fail
              refine (targetOk_any m.target _ ht (K0.out.next HB2.out.lo) (K1.out.next HB2.out.lo)).mono ?_
              rintro e W3 ⟨hq, hb⟩
              have hq := hq.pos C3.out
              obtain rfl := hq
              have HB3 := hid (HB2.out.next hb)
              clear hb x2_5 x2_6 x2_7 x2_8 x2_9 x2_10 x2_11 x2_12 x2_13 x2_14 x2_15 x2_16 x2_17 x2_18 x2_19
              have x3_5 : W3.cell? ⟨w.heap.size, 5, none⟩ = some (.string m.target.name) := row_cell HB3.out.e 5
              have x3_6 : W3.cell? ⟨w.heap.size, 6, none⟩ = some (.string m.target.tool) := row_cell HB3.out.e 6
              have x3_7 : W3.cell? ⟨w.heap.size, 7, none⟩ = some (.string m.target.arg) := row_cell HB3.out.e 7
              have x3_8 : W3.cell? ⟨w.heap.size, 8, none⟩ = some (.slice ad0 m.target.ins.length cp0) := row_cell HB3.out.e 8
              have x3_9 : W3.cell? ⟨w.heap.size, 9, none⟩ = some (.slice ad1 m.target.outs.length cp1) := row_cell HB3.out.e 9
              have x3_10 : W3.cell? ⟨w.heap.size, 10, none⟩ = some (.slice ad2 m.seen.length cp2) := row_cell HB3.out.e 10
              have x3_11 : W3.cell? ⟨w.heap.size, 11, none⟩ = some (.int .i64 m.count) := row_cell HB3.out.e 11
              have x3_12 : W3.cell? ⟨w.heap.size, 12, none⟩ = some (.bool m.turn.over) := row_cell HB3.out.e 12
              have x3_13 : W3.cell? ⟨w.heap.size, 13, none⟩ = some (.int .i64 m.turn.code) := row_cell HB3.out.e 13
              have x3_14 : W3.cell? ⟨w.heap.size, 14, none⟩ = some (.string m.turn.text) := row_cell HB3.out.e 14
              have x3_15 : W3.cell? ⟨w.heap.size, 15, none⟩ = some (.int .i64 m.turn.kind) := row_cell HB3.out.e 15
              have x3_16 : W3.cell? ⟨w.heap.size, 16, none⟩ = some (.string m.turn.name) := row_cell HB3.out.e 16
              have x3_17 : W3.cell? ⟨w.heap.size, 17, none⟩ = some (.int .i64 m.turn.steps) := row_cell HB3.out.e 17
              have x3_18 : W3.cell? ⟨w.heap.size, 18, none⟩ = some (.slice ad3 m.turn.files.length cp3) := row_cell HB3.out.e 18
              have x3_19 : W3.cell? ⟨w.heap.size, 19, none⟩ = some (.slice ad4 m.turn.said.length cp4) := row_cell HB3.out.e 19
              go_wp2_with fail
              refine (seens_any m.target m.seen _ ht hs (K0.out.next HB3.out.lo) (K2.out.next HB3.out.lo)).mono ?_
              rintro e W4 ⟨hq, hb⟩
              have hq := hq.pos C4.out
              obtain rfl := hq
              have HB4 := hid (HB3.out.next hb)
              clear hb x3_5 x3_6 x3_7 x3_8 x3_9 x3_10 x3_11 x3_12 x3_13 x3_14 x3_15 x3_16 x3_17 x3_18 x3_19
              have x4_11 : W4.cell? ⟨w.heap.size, 11, none⟩ = some (.int .i64 m.count) := row_cell HB4.out.e 11
              have x4_12 : W4.cell? ⟨w.heap.size, 12, none⟩ = some (.bool m.turn.over) := row_cell HB4.out.e 12
              have x4_13 : W4.cell? ⟨w.heap.size, 13, none⟩ = some (.int .i64 m.turn.code) := row_cell HB4.out.e 13
              have x4_14 : W4.cell? ⟨w.heap.size, 14, none⟩ = some (.string m.turn.text) := row_cell HB4.out.e 14
              have x4_15 : W4.cell? ⟨w.heap.size, 15, none⟩ = some (.int .i64 m.turn.kind) := row_cell HB4.out.e 15
              have x4_16 : W4.cell? ⟨w.heap.size, 16, none⟩ = some (.string m.turn.name) := row_cell HB4.out.e 16
              have x4_17 : W4.cell? ⟨w.heap.size, 17, none⟩ = some (.int .i64 m.turn.steps) := row_cell HB4.out.e 17
              have x4_18 : W4.cell? ⟨w.heap.size, 18, none⟩ = some (.slice ad3 m.turn.files.length cp3) := row_cell HB4.out.e 18
              have x4_19 : W4.cell? ⟨w.heap.size, 19, none⟩ = some (.slice ad4 m.turn.said.length cp4) := row_cell HB4.out.e 19
              go_wp2
              go_ret
              exact ⟨⟨_, rfl, ⟨fun h => absurd (show 1 ≤ 0 from h) (by omega), fun h => absurd h.2.2.2.2.2.1 C5.out⟩⟩, HB4.out.lo⟩
          · have C4 := hid c4
            clear c4
            have x1_1 : W1.cell? ⟨w.heap.size, 1, none⟩ = some (.int .i64 m.to) := row_cell HB1.out.e 1
            have x1_2 : W1.cell? ⟨w.heap.size, 2, none⟩ = some (.int .i64 m.sender) := row_cell HB1.out.e 2
            have x1_5 : W1.cell? ⟨w.heap.size, 5, none⟩ = some (.string m.target.name) := row_cell HB1.out.e 5
            have x1_6 : W1.cell? ⟨w.heap.size, 6, none⟩ = some (.string m.target.tool) := row_cell HB1.out.e 6
            have x1_7 : W1.cell? ⟨w.heap.size, 7, none⟩ = some (.string m.target.arg) := row_cell HB1.out.e 7
            have x1_8 : W1.cell? ⟨w.heap.size, 8, none⟩ = some (.slice ad0 m.target.ins.length cp0) := row_cell HB1.out.e 8
            have x1_9 : W1.cell? ⟨w.heap.size, 9, none⟩ = some (.slice ad1 m.target.outs.length cp1) := row_cell HB1.out.e 9
            have x1_10 : W1.cell? ⟨w.heap.size, 10, none⟩ = some (.slice ad2 m.seen.length cp2) := row_cell HB1.out.e 10
            have x1_11 : W1.cell? ⟨w.heap.size, 11, none⟩ = some (.int .i64 m.count) := row_cell HB1.out.e 11
            have x1_12 : W1.cell? ⟨w.heap.size, 12, none⟩ = some (.bool m.turn.over) := row_cell HB1.out.e 12
            have x1_13 : W1.cell? ⟨w.heap.size, 13, none⟩ = some (.int .i64 m.turn.code) := row_cell HB1.out.e 13
            have x1_14 : W1.cell? ⟨w.heap.size, 14, none⟩ = some (.string m.turn.text) := row_cell HB1.out.e 14
            have x1_15 : W1.cell? ⟨w.heap.size, 15, none⟩ = some (.int .i64 m.turn.kind) := row_cell HB1.out.e 15
            have x1_16 : W1.cell? ⟨w.heap.size, 16, none⟩ = some (.string m.turn.name) := row_cell HB1.out.e 16
            have x1_17 : W1.cell? ⟨w.heap.size, 17, none⟩ = some (.int .i64 m.turn.steps) := row_cell HB1.out.e 17
            have x1_18 : W1.cell? ⟨w.heap.size, 18, none⟩ = some (.slice ad3 m.turn.files.length cp3) := row_cell HB1.out.e 18
            have x1_19 : W1.cell? ⟨w.heap.size, 19, none⟩ = some (.slice ad4 m.turn.said.length cp4) := row_cell HB1.out.e 19
            go_wp2_with fail
            refine (l26In_any m.to 1 4 _).mono ?_
            rintro e WW ⟨hq, rfl⟩
            have hq := hq.pos C1.out
            obtain rfl := hq
            go_wp2_with (first | (refine wpList_taken rfl fun K hK => ?_; refine wp_load_row 41 _ rfl w.heap.size rfl 41 #[.int .i64 m.kind, .int .i64 m.to, .int .i64 m.sender, .int .i64 m.epoch, .int .i64 m.edit, .string m.target.name, .string m.target.tool, .string m.target.arg, .slice ad0 m.target.ins.length cp0, .slice ad1 m.target.outs.length cp1, .slice ad2 m.seen.length cp2, .int .i64 m.count, .bool m.turn.over, .int .i64 m.turn.code, .string m.turn.text, .int .i64 m.turn.kind, .string m.turn.name, .int .i64 m.turn.steps, .slice ad3 m.turn.files.length cp3, .slice ad4 m.turn.said.length cp4] (0, 0) _ HB1.out.e Tryz.underlying41 rfl (by kernel_rfl) ?_; refine hK _ _ ?_; clear hK K))
            refine (when_any m _).mono ?_
            rintro e W2 ⟨hq, hb⟩
            have hq := hq.pos C2.out
            obtain rfl := hq
            have HB2 := hid (HB1.out.next hb)
            clear hb x1_1 x1_2 x1_5 x1_6 x1_7 x1_8 x1_9 x1_10 x1_11 x1_12 x1_13 x1_14 x1_15 x1_16 x1_17 x1_18 x1_19
            have x2_5 : W2.cell? ⟨w.heap.size, 5, none⟩ = some (.string m.target.name) := row_cell HB2.out.e 5
            have x2_6 : W2.cell? ⟨w.heap.size, 6, none⟩ = some (.string m.target.tool) := row_cell HB2.out.e 6
            have x2_7 : W2.cell? ⟨w.heap.size, 7, none⟩ = some (.string m.target.arg) := row_cell HB2.out.e 7
            have x2_8 : W2.cell? ⟨w.heap.size, 8, none⟩ = some (.slice ad0 m.target.ins.length cp0) := row_cell HB2.out.e 8
            have x2_9 : W2.cell? ⟨w.heap.size, 9, none⟩ = some (.slice ad1 m.target.outs.length cp1) := row_cell HB2.out.e 9
            have x2_10 : W2.cell? ⟨w.heap.size, 10, none⟩ = some (.slice ad2 m.seen.length cp2) := row_cell HB2.out.e 10
            have x2_11 : W2.cell? ⟨w.heap.size, 11, none⟩ = some (.int .i64 m.count) := row_cell HB2.out.e 11
            have x2_12 : W2.cell? ⟨w.heap.size, 12, none⟩ = some (.bool m.turn.over) := row_cell HB2.out.e 12
            have x2_13 : W2.cell? ⟨w.heap.size, 13, none⟩ = some (.int .i64 m.turn.code) := row_cell HB2.out.e 13
            have x2_14 : W2.cell? ⟨w.heap.size, 14, none⟩ = some (.string m.turn.text) := row_cell HB2.out.e 14
            have x2_15 : W2.cell? ⟨w.heap.size, 15, none⟩ = some (.int .i64 m.turn.kind) := row_cell HB2.out.e 15
            have x2_16 : W2.cell? ⟨w.heap.size, 16, none⟩ = some (.string m.turn.name) := row_cell HB2.out.e 16
            have x2_17 : W2.cell? ⟨w.heap.size, 17, none⟩ = some (.int .i64 m.turn.steps) := row_cell HB2.out.e 17
            have x2_18 : W2.cell? ⟨w.heap.size, 18, none⟩ = some (.slice ad3 m.turn.files.length cp3) := row_cell HB2.out.e 18
            have x2_19 : W2.cell? ⟨w.heap.size, 19, none⟩ = some (.slice ad4 m.turn.said.length cp4) := row_cell HB2.out.e 19
            go_wp2_with fail
            refine (targetOk_any m.target _ ht (K0.out.next HB2.out.lo) (K1.out.next HB2.out.lo)).mono ?_
            rintro e W3 ⟨hq, hb⟩
            have hq := hq.pos C3.out
            obtain rfl := hq
            have HB3 := hid (HB2.out.next hb)
            clear hb x2_5 x2_6 x2_7 x2_8 x2_9 x2_10 x2_11 x2_12 x2_13 x2_14 x2_15 x2_16 x2_17 x2_18 x2_19
            have x3_5 : W3.cell? ⟨w.heap.size, 5, none⟩ = some (.string m.target.name) := row_cell HB3.out.e 5
            have x3_6 : W3.cell? ⟨w.heap.size, 6, none⟩ = some (.string m.target.tool) := row_cell HB3.out.e 6
            have x3_7 : W3.cell? ⟨w.heap.size, 7, none⟩ = some (.string m.target.arg) := row_cell HB3.out.e 7
            have x3_8 : W3.cell? ⟨w.heap.size, 8, none⟩ = some (.slice ad0 m.target.ins.length cp0) := row_cell HB3.out.e 8
            have x3_9 : W3.cell? ⟨w.heap.size, 9, none⟩ = some (.slice ad1 m.target.outs.length cp1) := row_cell HB3.out.e 9
            have x3_10 : W3.cell? ⟨w.heap.size, 10, none⟩ = some (.slice ad2 m.seen.length cp2) := row_cell HB3.out.e 10
            have x3_11 : W3.cell? ⟨w.heap.size, 11, none⟩ = some (.int .i64 m.count) := row_cell HB3.out.e 11
            have x3_12 : W3.cell? ⟨w.heap.size, 12, none⟩ = some (.bool m.turn.over) := row_cell HB3.out.e 12
            have x3_13 : W3.cell? ⟨w.heap.size, 13, none⟩ = some (.int .i64 m.turn.code) := row_cell HB3.out.e 13
            have x3_14 : W3.cell? ⟨w.heap.size, 14, none⟩ = some (.string m.turn.text) := row_cell HB3.out.e 14
            have x3_15 : W3.cell? ⟨w.heap.size, 15, none⟩ = some (.int .i64 m.turn.kind) := row_cell HB3.out.e 15
            have x3_16 : W3.cell? ⟨w.heap.size, 16, none⟩ = some (.string m.turn.name) := row_cell HB3.out.e 16
            have x3_17 : W3.cell? ⟨w.heap.size, 17, none⟩ = some (.int .i64 m.turn.steps) := row_cell HB3.out.e 17
            have x3_18 : W3.cell? ⟨w.heap.size, 18, none⟩ = some (.slice ad3 m.turn.files.length cp3) := row_cell HB3.out.e 18
            have x3_19 : W3.cell? ⟨w.heap.size, 19, none⟩ = some (.slice ad4 m.turn.said.length cp4) := row_cell HB3.out.e 19
            go_wp2_with fail
            refine (seens_any m.target m.seen _ ht hs (K0.out.next HB3.out.lo) (K2.out.next HB3.out.lo)).mono ?_
            rintro e W4 ⟨hq, hb⟩
            have hq := hq.neg C4.out
            obtain rfl := hq
            have HB4 := hid (HB3.out.next hb)
            clear hb x3_5 x3_6 x3_7 x3_8 x3_9 x3_10 x3_11 x3_12 x3_13 x3_14 x3_15 x3_16 x3_17 x3_18 x3_19
            have x4_11 : W4.cell? ⟨w.heap.size, 11, none⟩ = some (.int .i64 m.count) := row_cell HB4.out.e 11
            have x4_12 : W4.cell? ⟨w.heap.size, 12, none⟩ = some (.bool m.turn.over) := row_cell HB4.out.e 12
            have x4_13 : W4.cell? ⟨w.heap.size, 13, none⟩ = some (.int .i64 m.turn.code) := row_cell HB4.out.e 13
            have x4_14 : W4.cell? ⟨w.heap.size, 14, none⟩ = some (.string m.turn.text) := row_cell HB4.out.e 14
            have x4_15 : W4.cell? ⟨w.heap.size, 15, none⟩ = some (.int .i64 m.turn.kind) := row_cell HB4.out.e 15
            have x4_16 : W4.cell? ⟨w.heap.size, 16, none⟩ = some (.string m.turn.name) := row_cell HB4.out.e 16
            have x4_17 : W4.cell? ⟨w.heap.size, 17, none⟩ = some (.int .i64 m.turn.steps) := row_cell HB4.out.e 17
            have x4_18 : W4.cell? ⟨w.heap.size, 18, none⟩ = some (.slice ad3 m.turn.files.length cp3) := row_cell HB4.out.e 18
            have x4_19 : W4.cell? ⟨w.heap.size, 19, none⟩ = some (.slice ad4 m.turn.said.length cp4) := row_cell HB4.out.e 19
            go_wp2
            go_ret
            exact ⟨⟨_, rfl, ⟨fun h => absurd (show 1 ≤ 0 from h) (by omega), fun h => absurd h.2.2.2.2.1 C4.out⟩⟩, HB4.out.lo⟩
        · have C3 := hid c3
          clear c3
          have x1_1 : W1.cell? ⟨w.heap.size, 1, none⟩ = some (.int .i64 m.to) := row_cell HB1.out.e 1
          have x1_2 : W1.cell? ⟨w.heap.size, 2, none⟩ = some (.int .i64 m.sender) := row_cell HB1.out.e 2
          have x1_5 : W1.cell? ⟨w.heap.size, 5, none⟩ = some (.string m.target.name) := row_cell HB1.out.e 5
          have x1_6 : W1.cell? ⟨w.heap.size, 6, none⟩ = some (.string m.target.tool) := row_cell HB1.out.e 6
          have x1_7 : W1.cell? ⟨w.heap.size, 7, none⟩ = some (.string m.target.arg) := row_cell HB1.out.e 7
          have x1_8 : W1.cell? ⟨w.heap.size, 8, none⟩ = some (.slice ad0 m.target.ins.length cp0) := row_cell HB1.out.e 8
          have x1_9 : W1.cell? ⟨w.heap.size, 9, none⟩ = some (.slice ad1 m.target.outs.length cp1) := row_cell HB1.out.e 9
          have x1_10 : W1.cell? ⟨w.heap.size, 10, none⟩ = some (.slice ad2 m.seen.length cp2) := row_cell HB1.out.e 10
          have x1_11 : W1.cell? ⟨w.heap.size, 11, none⟩ = some (.int .i64 m.count) := row_cell HB1.out.e 11
          have x1_12 : W1.cell? ⟨w.heap.size, 12, none⟩ = some (.bool m.turn.over) := row_cell HB1.out.e 12
          have x1_13 : W1.cell? ⟨w.heap.size, 13, none⟩ = some (.int .i64 m.turn.code) := row_cell HB1.out.e 13
          have x1_14 : W1.cell? ⟨w.heap.size, 14, none⟩ = some (.string m.turn.text) := row_cell HB1.out.e 14
          have x1_15 : W1.cell? ⟨w.heap.size, 15, none⟩ = some (.int .i64 m.turn.kind) := row_cell HB1.out.e 15
          have x1_16 : W1.cell? ⟨w.heap.size, 16, none⟩ = some (.string m.turn.name) := row_cell HB1.out.e 16
          have x1_17 : W1.cell? ⟨w.heap.size, 17, none⟩ = some (.int .i64 m.turn.steps) := row_cell HB1.out.e 17
          have x1_18 : W1.cell? ⟨w.heap.size, 18, none⟩ = some (.slice ad3 m.turn.files.length cp3) := row_cell HB1.out.e 18
          have x1_19 : W1.cell? ⟨w.heap.size, 19, none⟩ = some (.slice ad4 m.turn.said.length cp4) := row_cell HB1.out.e 19
          go_wp2_with fail
          refine (l26In_any m.to 1 4 _).mono ?_
          rintro e WW ⟨hq, rfl⟩
          have hq := hq.pos C1.out
          obtain rfl := hq
          go_wp2_with (first | (refine wpList_taken rfl fun K hK => ?_; refine wp_load_row 41 _ rfl w.heap.size rfl 41 #[.int .i64 m.kind, .int .i64 m.to, .int .i64 m.sender, .int .i64 m.epoch, .int .i64 m.edit, .string m.target.name, .string m.target.tool, .string m.target.arg, .slice ad0 m.target.ins.length cp0, .slice ad1 m.target.outs.length cp1, .slice ad2 m.seen.length cp2, .int .i64 m.count, .bool m.turn.over, .int .i64 m.turn.code, .string m.turn.text, .int .i64 m.turn.kind, .string m.turn.name, .int .i64 m.turn.steps, .slice ad3 m.turn.files.length cp3, .slice ad4 m.turn.said.length cp4] (0, 0) _ HB1.out.e Tryz.underlying41 rfl (by kernel_rfl) ?_; refine hK _ _ ?_; clear hK K))
          refine (when_any m _).mono ?_
          rintro e W2 ⟨hq, hb⟩
          have hq := hq.pos C2.out
          obtain rfl := hq
          have HB2 := hid (HB1.out.next hb)
          clear hb x1_1 x1_2 x1_5 x1_6 x1_7 x1_8 x1_9 x1_10 x1_11 x1_12 x1_13 x1_14 x1_15 x1_16 x1_17 x1_18 x1_19
          have x2_5 : W2.cell? ⟨w.heap.size, 5, none⟩ = some (.string m.target.name) := row_cell HB2.out.e 5
          have x2_6 : W2.cell? ⟨w.heap.size, 6, none⟩ = some (.string m.target.tool) := row_cell HB2.out.e 6
          have x2_7 : W2.cell? ⟨w.heap.size, 7, none⟩ = some (.string m.target.arg) := row_cell HB2.out.e 7
          have x2_8 : W2.cell? ⟨w.heap.size, 8, none⟩ = some (.slice ad0 m.target.ins.length cp0) := row_cell HB2.out.e 8
          have x2_9 : W2.cell? ⟨w.heap.size, 9, none⟩ = some (.slice ad1 m.target.outs.length cp1) := row_cell HB2.out.e 9
          have x2_10 : W2.cell? ⟨w.heap.size, 10, none⟩ = some (.slice ad2 m.seen.length cp2) := row_cell HB2.out.e 10
          have x2_11 : W2.cell? ⟨w.heap.size, 11, none⟩ = some (.int .i64 m.count) := row_cell HB2.out.e 11
          have x2_12 : W2.cell? ⟨w.heap.size, 12, none⟩ = some (.bool m.turn.over) := row_cell HB2.out.e 12
          have x2_13 : W2.cell? ⟨w.heap.size, 13, none⟩ = some (.int .i64 m.turn.code) := row_cell HB2.out.e 13
          have x2_14 : W2.cell? ⟨w.heap.size, 14, none⟩ = some (.string m.turn.text) := row_cell HB2.out.e 14
          have x2_15 : W2.cell? ⟨w.heap.size, 15, none⟩ = some (.int .i64 m.turn.kind) := row_cell HB2.out.e 15
          have x2_16 : W2.cell? ⟨w.heap.size, 16, none⟩ = some (.string m.turn.name) := row_cell HB2.out.e 16
          have x2_17 : W2.cell? ⟨w.heap.size, 17, none⟩ = some (.int .i64 m.turn.steps) := row_cell HB2.out.e 17
          have x2_18 : W2.cell? ⟨w.heap.size, 18, none⟩ = some (.slice ad3 m.turn.files.length cp3) := row_cell HB2.out.e 18
          have x2_19 : W2.cell? ⟨w.heap.size, 19, none⟩ = some (.slice ad4 m.turn.said.length cp4) := row_cell HB2.out.e 19
          go_wp2_with fail
          refine (targetOk_any m.target _ ht (K0.out.next HB2.out.lo) (K1.out.next HB2.out.lo)).mono ?_
          rintro e W3 ⟨hq, hb⟩
          have hq := hq.neg C3.out
          obtain rfl := hq
          have HB3 := hid (HB2.out.next hb)
          clear hb x2_5 x2_6 x2_7 x2_8 x2_9 x2_10 x2_11 x2_12 x2_13 x2_14 x2_15 x2_16 x2_17 x2_18 x2_19
          have x3_5 : W3.cell? ⟨w.heap.size, 5, none⟩ = some (.string m.target.name) := row_cell HB3.out.e 5
          have x3_6 : W3.cell? ⟨w.heap.size, 6, none⟩ = some (.string m.target.tool) := row_cell HB3.out.e 6
          have x3_7 : W3.cell? ⟨w.heap.size, 7, none⟩ = some (.string m.target.arg) := row_cell HB3.out.e 7
          have x3_8 : W3.cell? ⟨w.heap.size, 8, none⟩ = some (.slice ad0 m.target.ins.length cp0) := row_cell HB3.out.e 8
          have x3_9 : W3.cell? ⟨w.heap.size, 9, none⟩ = some (.slice ad1 m.target.outs.length cp1) := row_cell HB3.out.e 9
          have x3_10 : W3.cell? ⟨w.heap.size, 10, none⟩ = some (.slice ad2 m.seen.length cp2) := row_cell HB3.out.e 10
          have x3_11 : W3.cell? ⟨w.heap.size, 11, none⟩ = some (.int .i64 m.count) := row_cell HB3.out.e 11
          have x3_12 : W3.cell? ⟨w.heap.size, 12, none⟩ = some (.bool m.turn.over) := row_cell HB3.out.e 12
          have x3_13 : W3.cell? ⟨w.heap.size, 13, none⟩ = some (.int .i64 m.turn.code) := row_cell HB3.out.e 13
          have x3_14 : W3.cell? ⟨w.heap.size, 14, none⟩ = some (.string m.turn.text) := row_cell HB3.out.e 14
          have x3_15 : W3.cell? ⟨w.heap.size, 15, none⟩ = some (.int .i64 m.turn.kind) := row_cell HB3.out.e 15
          have x3_16 : W3.cell? ⟨w.heap.size, 16, none⟩ = some (.string m.turn.name) := row_cell HB3.out.e 16
          have x3_17 : W3.cell? ⟨w.heap.size, 17, none⟩ = some (.int .i64 m.turn.steps) := row_cell HB3.out.e 17
          have x3_18 : W3.cell? ⟨w.heap.size, 18, none⟩ = some (.slice ad3 m.turn.files.length cp3) := row_cell HB3.out.e 18
          have x3_19 : W3.cell? ⟨w.heap.size, 19, none⟩ = some (.slice ad4 m.turn.said.length cp4) := row_cell HB3.out.e 19
          go_wp2
          go_ret
          exact ⟨⟨_, rfl, ⟨fun h => absurd (show 1 ≤ 0 from h) (by omega), fun h => absurd h.2.2.2.1 C3.out⟩⟩, HB3.out.lo⟩
      · have C2 := hid c2
        clear c2
        have x1_1 : W1.cell? ⟨w.heap.size, 1, none⟩ = some (.int .i64 m.to) := row_cell HB1.out.e 1
        have x1_2 : W1.cell? ⟨w.heap.size, 2, none⟩ = some (.int .i64 m.sender) := row_cell HB1.out.e 2
        have x1_5 : W1.cell? ⟨w.heap.size, 5, none⟩ = some (.string m.target.name) := row_cell HB1.out.e 5
        have x1_6 : W1.cell? ⟨w.heap.size, 6, none⟩ = some (.string m.target.tool) := row_cell HB1.out.e 6
        have x1_7 : W1.cell? ⟨w.heap.size, 7, none⟩ = some (.string m.target.arg) := row_cell HB1.out.e 7
        have x1_8 : W1.cell? ⟨w.heap.size, 8, none⟩ = some (.slice ad0 m.target.ins.length cp0) := row_cell HB1.out.e 8
        have x1_9 : W1.cell? ⟨w.heap.size, 9, none⟩ = some (.slice ad1 m.target.outs.length cp1) := row_cell HB1.out.e 9
        have x1_10 : W1.cell? ⟨w.heap.size, 10, none⟩ = some (.slice ad2 m.seen.length cp2) := row_cell HB1.out.e 10
        have x1_11 : W1.cell? ⟨w.heap.size, 11, none⟩ = some (.int .i64 m.count) := row_cell HB1.out.e 11
        have x1_12 : W1.cell? ⟨w.heap.size, 12, none⟩ = some (.bool m.turn.over) := row_cell HB1.out.e 12
        have x1_13 : W1.cell? ⟨w.heap.size, 13, none⟩ = some (.int .i64 m.turn.code) := row_cell HB1.out.e 13
        have x1_14 : W1.cell? ⟨w.heap.size, 14, none⟩ = some (.string m.turn.text) := row_cell HB1.out.e 14
        have x1_15 : W1.cell? ⟨w.heap.size, 15, none⟩ = some (.int .i64 m.turn.kind) := row_cell HB1.out.e 15
        have x1_16 : W1.cell? ⟨w.heap.size, 16, none⟩ = some (.string m.turn.name) := row_cell HB1.out.e 16
        have x1_17 : W1.cell? ⟨w.heap.size, 17, none⟩ = some (.int .i64 m.turn.steps) := row_cell HB1.out.e 17
        have x1_18 : W1.cell? ⟨w.heap.size, 18, none⟩ = some (.slice ad3 m.turn.files.length cp3) := row_cell HB1.out.e 18
        have x1_19 : W1.cell? ⟨w.heap.size, 19, none⟩ = some (.slice ad4 m.turn.said.length cp4) := row_cell HB1.out.e 19
        go_wp2_with fail
        refine (l26In_any m.to 1 4 _).mono ?_
        rintro e WW ⟨hq, rfl⟩
        have hq := hq.pos C1.out
        obtain rfl := hq
        go_wp2_with (first | (refine wpList_taken rfl fun K hK => ?_; refine wp_load_row 41 _ rfl w.heap.size rfl 41 #[.int .i64 m.kind, .int .i64 m.to, .int .i64 m.sender, .int .i64 m.epoch, .int .i64 m.edit, .string m.target.name, .string m.target.tool, .string m.target.arg, .slice ad0 m.target.ins.length cp0, .slice ad1 m.target.outs.length cp1, .slice ad2 m.seen.length cp2, .int .i64 m.count, .bool m.turn.over, .int .i64 m.turn.code, .string m.turn.text, .int .i64 m.turn.kind, .string m.turn.name, .int .i64 m.turn.steps, .slice ad3 m.turn.files.length cp3, .slice ad4 m.turn.said.length cp4] (0, 0) _ HB1.out.e Tryz.underlying41 rfl (by kernel_rfl) ?_; refine hK _ _ ?_; clear hK K))
        refine (when_any m _).mono ?_
        rintro e W2 ⟨hq, hb⟩
        have hq := hq.neg C2.out
        obtain rfl := hq
        have HB2 := hid (HB1.out.next hb)
        clear hb x1_1 x1_2 x1_5 x1_6 x1_7 x1_8 x1_9 x1_10 x1_11 x1_12 x1_13 x1_14 x1_15 x1_16 x1_17 x1_18 x1_19
        have x2_5 : W2.cell? ⟨w.heap.size, 5, none⟩ = some (.string m.target.name) := row_cell HB2.out.e 5
        have x2_6 : W2.cell? ⟨w.heap.size, 6, none⟩ = some (.string m.target.tool) := row_cell HB2.out.e 6
        have x2_7 : W2.cell? ⟨w.heap.size, 7, none⟩ = some (.string m.target.arg) := row_cell HB2.out.e 7
        have x2_8 : W2.cell? ⟨w.heap.size, 8, none⟩ = some (.slice ad0 m.target.ins.length cp0) := row_cell HB2.out.e 8
        have x2_9 : W2.cell? ⟨w.heap.size, 9, none⟩ = some (.slice ad1 m.target.outs.length cp1) := row_cell HB2.out.e 9
        have x2_10 : W2.cell? ⟨w.heap.size, 10, none⟩ = some (.slice ad2 m.seen.length cp2) := row_cell HB2.out.e 10
        have x2_11 : W2.cell? ⟨w.heap.size, 11, none⟩ = some (.int .i64 m.count) := row_cell HB2.out.e 11
        have x2_12 : W2.cell? ⟨w.heap.size, 12, none⟩ = some (.bool m.turn.over) := row_cell HB2.out.e 12
        have x2_13 : W2.cell? ⟨w.heap.size, 13, none⟩ = some (.int .i64 m.turn.code) := row_cell HB2.out.e 13
        have x2_14 : W2.cell? ⟨w.heap.size, 14, none⟩ = some (.string m.turn.text) := row_cell HB2.out.e 14
        have x2_15 : W2.cell? ⟨w.heap.size, 15, none⟩ = some (.int .i64 m.turn.kind) := row_cell HB2.out.e 15
        have x2_16 : W2.cell? ⟨w.heap.size, 16, none⟩ = some (.string m.turn.name) := row_cell HB2.out.e 16
        have x2_17 : W2.cell? ⟨w.heap.size, 17, none⟩ = some (.int .i64 m.turn.steps) := row_cell HB2.out.e 17
        have x2_18 : W2.cell? ⟨w.heap.size, 18, none⟩ = some (.slice ad3 m.turn.files.length cp3) := row_cell HB2.out.e 18
        have x2_19 : W2.cell? ⟨w.heap.size, 19, none⟩ = some (.slice ad4 m.turn.said.length cp4) := row_cell HB2.out.e 19
        go_wp2
        go_ret
        exact ⟨⟨_, rfl, ⟨fun h => absurd (show 1 ≤ 0 from h) (by omega), fun h => absurd h.2.2.1 C2.out⟩⟩, HB2.out.lo⟩
    · have C1 := hid c1
      clear c1
      have x1_1 : W1.cell? ⟨w.heap.size, 1, none⟩ = some (.int .i64 m.to) := row_cell HB1.out.e 1
      have x1_2 : W1.cell? ⟨w.heap.size, 2, none⟩ = some (.int .i64 m.sender) := row_cell HB1.out.e 2
      have x1_5 : W1.cell? ⟨w.heap.size, 5, none⟩ = some (.string m.target.name) := row_cell HB1.out.e 5
      have x1_6 : W1.cell? ⟨w.heap.size, 6, none⟩ = some (.string m.target.tool) := row_cell HB1.out.e 6
      have x1_7 : W1.cell? ⟨w.heap.size, 7, none⟩ = some (.string m.target.arg) := row_cell HB1.out.e 7
      have x1_8 : W1.cell? ⟨w.heap.size, 8, none⟩ = some (.slice ad0 m.target.ins.length cp0) := row_cell HB1.out.e 8
      have x1_9 : W1.cell? ⟨w.heap.size, 9, none⟩ = some (.slice ad1 m.target.outs.length cp1) := row_cell HB1.out.e 9
      have x1_10 : W1.cell? ⟨w.heap.size, 10, none⟩ = some (.slice ad2 m.seen.length cp2) := row_cell HB1.out.e 10
      have x1_11 : W1.cell? ⟨w.heap.size, 11, none⟩ = some (.int .i64 m.count) := row_cell HB1.out.e 11
      have x1_12 : W1.cell? ⟨w.heap.size, 12, none⟩ = some (.bool m.turn.over) := row_cell HB1.out.e 12
      have x1_13 : W1.cell? ⟨w.heap.size, 13, none⟩ = some (.int .i64 m.turn.code) := row_cell HB1.out.e 13
      have x1_14 : W1.cell? ⟨w.heap.size, 14, none⟩ = some (.string m.turn.text) := row_cell HB1.out.e 14
      have x1_15 : W1.cell? ⟨w.heap.size, 15, none⟩ = some (.int .i64 m.turn.kind) := row_cell HB1.out.e 15
      have x1_16 : W1.cell? ⟨w.heap.size, 16, none⟩ = some (.string m.turn.name) := row_cell HB1.out.e 16
      have x1_17 : W1.cell? ⟨w.heap.size, 17, none⟩ = some (.int .i64 m.turn.steps) := row_cell HB1.out.e 17
      have x1_18 : W1.cell? ⟨w.heap.size, 18, none⟩ = some (.slice ad3 m.turn.files.length cp3) := row_cell HB1.out.e 18
      have x1_19 : W1.cell? ⟨w.heap.size, 19, none⟩ = some (.slice ad4 m.turn.said.length cp4) := row_cell HB1.out.e 19
      go_wp2_with fail
      refine (l26In_any m.to 1 4 _).mono ?_
      rintro e WW ⟨hq, rfl⟩
      have hq := hq.neg C1.out
      obtain rfl := hq
      go_wp2
      go_ret
      exact ⟨⟨_, rfl, ⟨fun h => absurd (show 1 ≤ 0 from h) (by omega), fun h => absurd h.2.1 C1.out⟩⟩, HB1.out.lo⟩
  · have q0 : (m.sender == 0) = false := by simp [c0]
    have C0 := hid c0
    clear c0
    have x1_1 : W1.cell? ⟨w.heap.size, 1, none⟩ = some (.int .i64 m.to) := row_cell HB1.out.e 1
    have x1_2 : W1.cell? ⟨w.heap.size, 2, none⟩ = some (.int .i64 m.sender) := row_cell HB1.out.e 2
    have x1_5 : W1.cell? ⟨w.heap.size, 5, none⟩ = some (.string m.target.name) := row_cell HB1.out.e 5
    have x1_6 : W1.cell? ⟨w.heap.size, 6, none⟩ = some (.string m.target.tool) := row_cell HB1.out.e 6
    have x1_7 : W1.cell? ⟨w.heap.size, 7, none⟩ = some (.string m.target.arg) := row_cell HB1.out.e 7
    have x1_8 : W1.cell? ⟨w.heap.size, 8, none⟩ = some (.slice ad0 m.target.ins.length cp0) := row_cell HB1.out.e 8
    have x1_9 : W1.cell? ⟨w.heap.size, 9, none⟩ = some (.slice ad1 m.target.outs.length cp1) := row_cell HB1.out.e 9
    have x1_10 : W1.cell? ⟨w.heap.size, 10, none⟩ = some (.slice ad2 m.seen.length cp2) := row_cell HB1.out.e 10
    have x1_11 : W1.cell? ⟨w.heap.size, 11, none⟩ = some (.int .i64 m.count) := row_cell HB1.out.e 11
    have x1_12 : W1.cell? ⟨w.heap.size, 12, none⟩ = some (.bool m.turn.over) := row_cell HB1.out.e 12
    have x1_13 : W1.cell? ⟨w.heap.size, 13, none⟩ = some (.int .i64 m.turn.code) := row_cell HB1.out.e 13
    have x1_14 : W1.cell? ⟨w.heap.size, 14, none⟩ = some (.string m.turn.text) := row_cell HB1.out.e 14
    have x1_15 : W1.cell? ⟨w.heap.size, 15, none⟩ = some (.int .i64 m.turn.kind) := row_cell HB1.out.e 15
    have x1_16 : W1.cell? ⟨w.heap.size, 16, none⟩ = some (.string m.turn.name) := row_cell HB1.out.e 16
    have x1_17 : W1.cell? ⟨w.heap.size, 17, none⟩ = some (.int .i64 m.turn.steps) := row_cell HB1.out.e 17
    have x1_18 : W1.cell? ⟨w.heap.size, 18, none⟩ = some (.slice ad3 m.turn.files.length cp3) := row_cell HB1.out.e 18
    have x1_19 : W1.cell? ⟨w.heap.size, 19, none⟩ = some (.slice ad4 m.turn.said.length cp4) := row_cell HB1.out.e 19
    go_wp2
    go_ret
    exact ⟨⟨_, rfl, ⟨fun h => absurd (show 1 ≤ 0 from h) (by omega), fun h => absurd h.1 C0.out⟩⟩, HB1.out.lo⟩
end Go.Proofs.YtlopcjhipajdcaaGreatDoor.Y
