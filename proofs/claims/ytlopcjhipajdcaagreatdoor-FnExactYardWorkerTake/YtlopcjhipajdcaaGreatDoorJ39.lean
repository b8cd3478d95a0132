import Derived.Deep.MidRow
import Derived.Laws.CopyOwn
import Derived.Laws.Tables
import Derived.Test.YtlopcjhipajdcaaGreatDoorJ38
import Derived.Test.YtlopcjhipajdcaaGreatDoorJ13
/-! What an offer uses, and whether it is so, by the program. Printed by gen_ymail.py. -/
namespace Go.Proofs.YtlopcjhipajdcaaGreatDoor.Y
open Go.RowKit R
open Go.Proofs.YtlopcjhipajdcaaGreatDoor.J (FileOk BegOk RepOk ltB Says says_t says_f)
set_option maxRecDepth 20000
theorem same_belowA {f : Nat} {a : Array Value} {w : World} {Q : Prop} (h : Calls Tryz.prog f a w fun e w' => Says e Q ∧ w' = w) : Calls Tryz.prog f a w fun e w' => Says e Q ∧ Below w.heap.size w w' :=
  h.mono fun e w' ⟨h1, h2⟩ => ⟨h1, by rw [h2]; exact Below.refl _ _⟩
set_option maxHeartbeats 8000000 in
theorem offerSo_any (m : Ms) {v0 v1 v2 v3 v4 : Value} (w : World) (hm : SmMs m) (k0 : SStrA w v0 m.target.ins) (k1 : SStrA w v1 m.target.outs) (k2 : SSnA w v2 m.seen) (k3 : SFlA w v3 m.turn.files) (k4 : SStrA w v4 m.turn.said) :
    Calls Tryz.prog 101 #[.agg #[.int .i64 m.kind, .int .i64 m.to, .int .i64 m.sender, .int .i64 m.epoch, .int .i64 m.edit, .string m.target.name, .string m.target.tool, .string m.target.arg, v0, v1, v2, .int .i64 m.count, .bool m.turn.over, .int .i64 m.turn.code, .string m.turn.text, .int .i64 m.turn.kind, .string m.turn.name, .int .i64 m.turn.steps, v3, v4]] w fun e w' => Says e ((1 ≤ m.to ∧ m.to ≤ 4) ∧ ((1 ≤ m.epoch ∧ m.epoch ≤ 200) ∧ 0 ≤ m.edit ∧ m.edit ≤ 1000) ∧ TgOk m.target ∧ SnsOk m.target.ins.length m.seen) ∧ Below w.heap.size w w' := by
  obtain ⟨ht, hsn, hu⟩ := hm
  have K0 := hid k0
  obtain ⟨ad0, cp0, rfl⟩ := k0.sl
  have K1 := hid k1
  obtain ⟨ad1, cp1, rfl⟩ := k1.sl
  have K2 := hid k2
  obtain ⟨ad2, cp2, rfl⟩ := k2.sl
  have K3 := hid k3
  obtain ⟨ad3, cp3, rfl⟩ := k3.sl
  have K4 := hid k4
  obtain ⟨ad4, cp4, rfl⟩ := k4.sl
  clear k0 k1 k2 k3 k4
  have HB0 := hid (B1.start w (.cells #[.int .i64 m.kind, .int .i64 m.to, .int .i64 m.sender, .int .i64 m.epoch, .int .i64 m.edit, .string m.target.name, .string m.target.tool, .string m.target.arg, .slice ad0 m.target.ins.length cp0, .slice ad1 m.target.outs.length cp1, .slice ad2 m.seen.length cp2, .int .i64 m.count, .bool m.turn.over, .int .i64 m.turn.code, .string m.turn.text, .int .i64 m.turn.kind, .string m.turn.name, .int .i64 m.turn.steps, .slice ad3 m.turn.files.length cp3, .slice ad4 m.turn.said.length cp4] 41))
  obtain ⟨W0, hW0⟩ : ∃ W, w.alloc (.cells #[.int .i64 m.kind, .int .i64 m.to, .int .i64 m.sender, .int .i64 m.epoch, .int .i64 m.edit, .string m.target.name, .string m.target.tool, .string m.target.arg, .slice ad0 m.target.ins.length cp0, .slice ad1 m.target.outs.length cp1, .slice ad2 m.seen.length cp2, .int .i64 m.count, .bool m.turn.over, .int .i64 m.turn.code, .string m.turn.text, .int .i64 m.turn.kind, .string m.turn.name, .int .i64 m.turn.steps, .slice ad3 m.turn.files.length cp3, .slice ad4 m.turn.said.length cp4] 41) = W := ⟨_, rfl⟩
  rw [hW0] at HB0
  by_cases c0 : 1 ≤ m.to ∧ m.to ≤ 4
  · have C0 := hid c0
    clear c0
    by_cases c1 : (1 ≤ m.epoch ∧ m.epoch ≤ 200) ∧ 0 ≤ m.edit ∧ m.edit ≤ 1000
    · have C1 := hid c1
      clear c1
      by_cases c2 : TgOk m.target
      · have C2 := hid c2
        clear c2
        by_cases c3 : SnsOk m.target.ins.length m.seen
        · have C3 := hid c3
          clear c3
          go_enter Tryz.func101, Tryz.ntmps101
          go_upto_region 1 with fail
          clear hW0
          have x0_0_1 : W0.cell? ⟨w.heap.size, 1, none⟩ = some (.int .i64 m.to) := row_cell HB0.out.e 1
          have x0_0_3 : W0.cell? ⟨w.heap.size, 3, none⟩ = some (.int .i64 m.epoch) := row_cell HB0.out.e 3
          have x0_0_4 : W0.cell? ⟨w.heap.size, 4, none⟩ = some (.int .i64 m.edit) := row_cell HB0.out.e 4
          have x0_0_5 : W0.cell? ⟨w.heap.size, 5, none⟩ = some (.string m.target.name) := row_cell HB0.out.e 5
          have x0_0_6 : W0.cell? ⟨w.heap.size, 6, none⟩ = some (.string m.target.tool) := row_cell HB0.out.e 6
          have x0_0_7 : W0.cell? ⟨w.heap.size, 7, none⟩ = some (.string m.target.arg) := row_cell HB0.out.e 7
          have x0_0_8 : W0.cell? ⟨w.heap.size, 8, none⟩ = some (.slice ad0 m.target.ins.length cp0) := row_cell HB0.out.e 8
          have x0_0_9 : W0.cell? ⟨w.heap.size, 9, none⟩ = some (.slice ad1 m.target.outs.length cp1) := row_cell HB0.out.e 9
          have x0_0_10 : W0.cell? ⟨w.heap.size, 10, none⟩ = some (.slice ad2 m.seen.length cp2) := row_cell HB0.out.e 10
          go_wp2_with fail
          refine (same_belowA (isWorker_any m.to _)).mono ?_
          rintro e W1 ⟨hs, hb⟩
          have hq := hs.pos C0.out
          obtain rfl := hq
          have HB1 := hid (HB0.out.next hb)
          clear hs hb x0_0_1 x0_0_3 x0_0_4 x0_0_5 x0_0_6 x0_0_7 x0_0_8 x0_0_9 x0_0_10
          have x1_0_3 : W1.cell? ⟨w.heap.size, 3, none⟩ = some (.int .i64 m.epoch) := row_cell HB1.out.e 3
          have x1_0_4 : W1.cell? ⟨w.heap.size, 4, none⟩ = some (.int .i64 m.edit) := row_cell HB1.out.e 4
          have x1_0_5 : W1.cell? ⟨w.heap.size, 5, none⟩ = some (.string m.target.name) := row_cell HB1.out.e 5
          have x1_0_6 : W1.cell? ⟨w.heap.size, 6, none⟩ = some (.string m.target.tool) := row_cell HB1.out.e 6
          have x1_0_7 : W1.cell? ⟨w.heap.size, 7, none⟩ = some (.string m.target.arg) := row_cell HB1.out.e 7
          have x1_0_8 : W1.cell? ⟨w.heap.size, 8, none⟩ = some (.slice ad0 m.target.ins.length cp0) := row_cell HB1.out.e 8
          have x1_0_9 : W1.cell? ⟨w.heap.size, 9, none⟩ = some (.slice ad1 m.target.outs.length cp1) := row_cell HB1.out.e 9
          have x1_0_10 : W1.cell? ⟨w.heap.size, 10, none⟩ = some (.slice ad2 m.seen.length cp2) := row_cell HB1.out.e 10
          go_wp2_with fail
          refine (same_belowA (isTime_any m.epoch m.edit _)).mono ?_
          rintro e W2 ⟨hs, hb⟩
          have hq := hs.pos C1.out
          obtain rfl := hq
          have HB2 := hid (HB1.out.next hb)
          clear hs hb x1_0_3 x1_0_4 x1_0_5 x1_0_6 x1_0_7 x1_0_8 x1_0_9 x1_0_10
          have x2_0_5 : W2.cell? ⟨w.heap.size, 5, none⟩ = some (.string m.target.name) := row_cell HB2.out.e 5
          have x2_0_6 : W2.cell? ⟨w.heap.size, 6, none⟩ = some (.string m.target.tool) := row_cell HB2.out.e 6
          have x2_0_7 : W2.cell? ⟨w.heap.size, 7, none⟩ = some (.string m.target.arg) := row_cell HB2.out.e 7
          have x2_0_8 : W2.cell? ⟨w.heap.size, 8, none⟩ = some (.slice ad0 m.target.ins.length cp0) := row_cell HB2.out.e 8
          have x2_0_9 : W2.cell? ⟨w.heap.size, 9, none⟩ = some (.slice ad1 m.target.outs.length cp1) := row_cell HB2.out.e 9
          have x2_0_10 : W2.cell? ⟨w.heap.size, 10, none⟩ = some (.slice ad2 m.seen.length cp2) := row_cell HB2.out.e 10
          go_wp2_with fail
          refine (couldOrder_any m.target _ ht (K0.out.next HB2.out.lo) (K1.out.next HB2.out.lo)).mono ?_
          rintro e W3 ⟨hs, hb⟩
          have hq := hs.pos C2.out
          obtain rfl := hq
          have HB3 := hid (HB2.out.next hb)
          clear hs hb x2_0_5 x2_0_6 x2_0_7 x2_0_8 x2_0_9 x2_0_10
          have x3_0_5 : W3.cell? ⟨w.heap.size, 5, none⟩ = some (.string m.target.name) := row_cell HB3.out.e 5
          have x3_0_6 : W3.cell? ⟨w.heap.size, 6, none⟩ = some (.string m.target.tool) := row_cell HB3.out.e 6
          have x3_0_7 : W3.cell? ⟨w.heap.size, 7, none⟩ = some (.string m.target.arg) := row_cell HB3.out.e 7
          have x3_0_8 : W3.cell? ⟨w.heap.size, 8, none⟩ = some (.slice ad0 m.target.ins.length cp0) := row_cell HB3.out.e 8
          have x3_0_9 : W3.cell? ⟨w.heap.size, 9, none⟩ = some (.slice ad1 m.target.outs.length cp1) := row_cell HB3.out.e 9
          have x3_0_10 : W3.cell? ⟨w.heap.size, 10, none⟩ = some (.slice ad2 m.seen.length cp2) := row_cell HB3.out.e 10
          go_wp2_with fail
          refine (couldSee_any m.target m.seen _ ht hsn (K0.out.next HB3.out.lo) (K2.out.next HB3.out.lo)).mono ?_
          rintro e W4 ⟨hs, hb⟩
          have hq := hs.pos C3.out
          obtain rfl := hq
          have HB4 := hid (HB3.out.next hb)
          clear hs hb x3_0_5 x3_0_6 x3_0_7 x3_0_8 x3_0_9 x3_0_10
          go_wp2
          go_ret
          exact ⟨says_t ⟨C0.out, C1.out, C2.out, C3.out⟩, HB4.out.lo⟩
        · have C3 := hid c3
          clear c3
          go_enter Tryz.func101, Tryz.ntmps101
          go_upto_region 1 with fail
          clear hW0
          have x0_0_1 : W0.cell? ⟨w.heap.size, 1, none⟩ = some (.int .i64 m.to) := row_cell HB0.out.e 1
          have x0_0_3 : W0.cell? ⟨w.heap.size, 3, none⟩ = some (.int .i64 m.epoch) := row_cell HB0.out.e 3
          have x0_0_4 : W0.cell? ⟨w.heap.size, 4, none⟩ = some (.int .i64 m.edit) := row_cell HB0.out.e 4
          have x0_0_5 : W0.cell? ⟨w.heap.size, 5, none⟩ = some (.string m.target.name) := row_cell HB0.out.e 5
          have x0_0_6 : W0.cell? ⟨w.heap.size, 6, none⟩ = some (.string m.target.tool) := row_cell HB0.out.e 6
          have x0_0_7 : W0.cell? ⟨w.heap.size, 7, none⟩ = some (.string m.target.arg) := row_cell HB0.out.e 7
          have x0_0_8 : W0.cell? ⟨w.heap.size, 8, none⟩ = some (.slice ad0 m.target.ins.length cp0) := row_cell HB0.out.e 8
          have x0_0_9 : W0.cell? ⟨w.heap.size, 9, none⟩ = some (.slice ad1 m.target.outs.length cp1) := row_cell HB0.out.e 9
          have x0_0_10 : W0.cell? ⟨w.heap.size, 10, none⟩ = some (.slice ad2 m.seen.length cp2) := row_cell HB0.out.e 10
          go_wp2_with fail
          refine (same_belowA (isWorker_any m.to _)).mono ?_
          rintro e W1 ⟨hs, hb⟩
          have hq := hs.pos C0.out
          obtain rfl := hq
          have HB1 := hid (HB0.out.next hb)
          clear hs hb x0_0_1 x0_0_3 x0_0_4 x0_0_5 x0_0_6 x0_0_7 x0_0_8 x0_0_9 x0_0_10
          have x1_0_3 : W1.cell? ⟨w.heap.size, 3, none⟩ = some (.int .i64 m.epoch) := row_cell HB1.out.e 3
          have x1_0_4 : W1.cell? ⟨w.heap.size, 4, none⟩ = some (.int .i64 m.edit) := row_cell HB1.out.e 4
          have x1_0_5 : W1.cell? ⟨w.heap.size, 5, none⟩ = some (.string m.target.name) := row_cell HB1.out.e 5
          have x1_0_6 : W1.cell? ⟨w.heap.size, 6, none⟩ = some (.string m.target.tool) := row_cell HB1.out.e 6
          have x1_0_7 : W1.cell? ⟨w.heap.size, 7, none⟩ = some (.string m.target.arg) := row_cell HB1.out.e 7
          have x1_0_8 : W1.cell? ⟨w.heap.size, 8, none⟩ = some (.slice ad0 m.target.ins.length cp0) := row_cell HB1.out.e 8
          have x1_0_9 : W1.cell? ⟨w.heap.size, 9, none⟩ = some (.slice ad1 m.target.outs.length cp1) := row_cell HB1.out.e 9
          have x1_0_10 : W1.cell? ⟨w.heap.size, 10, none⟩ = some (.slice ad2 m.seen.length cp2) := row_cell HB1.out.e 10
          go_wp2_with fail
          refine (same_belowA (isTime_any m.epoch m.edit _)).mono ?_
          rintro e W2 ⟨hs, hb⟩
          have hq := hs.pos C1.out
          obtain rfl := hq
          have HB2 := hid (HB1.out.next hb)
          clear hs hb x1_0_3 x1_0_4 x1_0_5 x1_0_6 x1_0_7 x1_0_8 x1_0_9 x1_0_10
          have x2_0_5 : W2.cell? ⟨w.heap.size, 5, none⟩ = some (.string m.target.name) := row_cell HB2.out.e 5
          have x2_0_6 : W2.cell? ⟨w.heap.size, 6, none⟩ = some (.string m.target.tool) := row_cell HB2.out.e 6
          have x2_0_7 : W2.cell? ⟨w.heap.size, 7, none⟩ = some (.string m.target.arg) := row_cell HB2.out.e 7
          have x2_0_8 : W2.cell? ⟨w.heap.size, 8, none⟩ = some (.slice ad0 m.target.ins.length cp0) := row_cell HB2.out.e 8
          have x2_0_9 : W2.cell? ⟨w.heap.size, 9, none⟩ = some (.slice ad1 m.target.outs.length cp1) := row_cell HB2.out.e 9
          have x2_0_10 : W2.cell? ⟨w.heap.size, 10, none⟩ = some (.slice ad2 m.seen.length cp2) := row_cell HB2.out.e 10
          go_wp2_with fail
          refine (couldOrder_any m.target _ ht (K0.out.next HB2.out.lo) (K1.out.next HB2.out.lo)).mono ?_
          rintro e W3 ⟨hs, hb⟩
          have hq := hs.pos C2.out
          obtain rfl := hq
          have HB3 := hid (HB2.out.next hb)
          clear hs hb x2_0_5 x2_0_6 x2_0_7 x2_0_8 x2_0_9 x2_0_10
          have x3_0_5 : W3.cell? ⟨w.heap.size, 5, none⟩ = some (.string m.target.name) := row_cell HB3.out.e 5
          have x3_0_6 : W3.cell? ⟨w.heap.size, 6, none⟩ = some (.string m.target.tool) := row_cell HB3.out.e 6
          have x3_0_7 : W3.cell? ⟨w.heap.size, 7, none⟩ = some (.string m.target.arg) := row_cell HB3.out.e 7
          have x3_0_8 : W3.cell? ⟨w.heap.size, 8, none⟩ = some (.slice ad0 m.target.ins.length cp0) := row_cell HB3.out.e 8
          have x3_0_9 : W3.cell? ⟨w.heap.size, 9, none⟩ = some (.slice ad1 m.target.outs.length cp1) := row_cell HB3.out.e 9
          have x3_0_10 : W3.cell? ⟨w.heap.size, 10, none⟩ = some (.slice ad2 m.seen.length cp2) := row_cell HB3.out.e 10
          go_wp2_with fail
          refine (couldSee_any m.target m.seen _ ht hsn (K0.out.next HB3.out.lo) (K2.out.next HB3.out.lo)).mono ?_
          rintro e W4 ⟨hs, hb⟩
          have hq := hs.neg C3.out
          obtain rfl := hq
          have HB4 := hid (HB3.out.next hb)
          clear hs hb x3_0_5 x3_0_6 x3_0_7 x3_0_8 x3_0_9 x3_0_10
          go_wp2
          go_ret
          exact ⟨says_f fun h => C3.out h.2.2.2, HB4.out.lo⟩
      · have C2 := hid c2
        clear c2
        go_enter Tryz.func101, Tryz.ntmps101
        go_upto_region 1 with fail
        clear hW0
        have x0_0_1 : W0.cell? ⟨w.heap.size, 1, none⟩ = some (.int .i64 m.to) := row_cell HB0.out.e 1
        have x0_0_3 : W0.cell? ⟨w.heap.size, 3, none⟩ = some (.int .i64 m.epoch) := row_cell HB0.out.e 3
        have x0_0_4 : W0.cell? ⟨w.heap.size, 4, none⟩ = some (.int .i64 m.edit) := row_cell HB0.out.e 4
        have x0_0_5 : W0.cell? ⟨w.heap.size, 5, none⟩ = some (.string m.target.name) := row_cell HB0.out.e 5
        have x0_0_6 : W0.cell? ⟨w.heap.size, 6, none⟩ = some (.string m.target.tool) := row_cell HB0.out.e 6
        have x0_0_7 : W0.cell? ⟨w.heap.size, 7, none⟩ = some (.string m.target.arg) := row_cell HB0.out.e 7
        have x0_0_8 : W0.cell? ⟨w.heap.size, 8, none⟩ = some (.slice ad0 m.target.ins.length cp0) := row_cell HB0.out.e 8
        have x0_0_9 : W0.cell? ⟨w.heap.size, 9, none⟩ = some (.slice ad1 m.target.outs.length cp1) := row_cell HB0.out.e 9
        have x0_0_10 : W0.cell? ⟨w.heap.size, 10, none⟩ = some (.slice ad2 m.seen.length cp2) := row_cell HB0.out.e 10
        go_wp2_with fail
        refine (same_belowA (isWorker_any m.to _)).mono ?_
        rintro e W1 ⟨hs, hb⟩
        have hq := hs.pos C0.out
        obtain rfl := hq
        have HB1 := hid (HB0.out.next hb)
        clear hs hb x0_0_1 x0_0_3 x0_0_4 x0_0_5 x0_0_6 x0_0_7 x0_0_8 x0_0_9 x0_0_10
        have x1_0_3 : W1.cell? ⟨w.heap.size, 3, none⟩ = some (.int .i64 m.epoch) := row_cell HB1.out.e 3
        have x1_0_4 : W1.cell? ⟨w.heap.size, 4, none⟩ = some (.int .i64 m.edit) := row_cell HB1.out.e 4
        have x1_0_5 : W1.cell? ⟨w.heap.size, 5, none⟩ = some (.string m.target.name) := row_cell HB1.out.e 5
        have x1_0_6 : W1.cell? ⟨w.heap.size, 6, none⟩ = some (.string m.target.tool) := row_cell HB1.out.e 6
        have x1_0_7 : W1.cell? ⟨w.heap.size, 7, none⟩ = some (.string m.target.arg) := row_cell HB1.out.e 7
        have x1_0_8 : W1.cell? ⟨w.heap.size, 8, none⟩ = some (.slice ad0 m.target.ins.length cp0) := row_cell HB1.out.e 8
        have x1_0_9 : W1.cell? ⟨w.heap.size, 9, none⟩ = some (.slice ad1 m.target.outs.length cp1) := row_cell HB1.out.e 9
        have x1_0_10 : W1.cell? ⟨w.heap.size, 10, none⟩ = some (.slice ad2 m.seen.length cp2) := row_cell HB1.out.e 10
        go_wp2_with fail
        refine (same_belowA (isTime_any m.epoch m.edit _)).mono ?_
        rintro e W2 ⟨hs, hb⟩
        have hq := hs.pos C1.out
        obtain rfl := hq
        have HB2 := hid (HB1.out.next hb)
        clear hs hb x1_0_3 x1_0_4 x1_0_5 x1_0_6 x1_0_7 x1_0_8 x1_0_9 x1_0_10
        have x2_0_5 : W2.cell? ⟨w.heap.size, 5, none⟩ = some (.string m.target.name) := row_cell HB2.out.e 5
        have x2_0_6 : W2.cell? ⟨w.heap.size, 6, none⟩ = some (.string m.target.tool) := row_cell HB2.out.e 6
        have x2_0_7 : W2.cell? ⟨w.heap.size, 7, none⟩ = some (.string m.target.arg) := row_cell HB2.out.e 7
        have x2_0_8 : W2.cell? ⟨w.heap.size, 8, none⟩ = some (.slice ad0 m.target.ins.length cp0) := row_cell HB2.out.e 8
        have x2_0_9 : W2.cell? ⟨w.heap.size, 9, none⟩ = some (.slice ad1 m.target.outs.length cp1) := row_cell HB2.out.e 9
        have x2_0_10 : W2.cell? ⟨w.heap.size, 10, none⟩ = some (.slice ad2 m.seen.length cp2) := row_cell HB2.out.e 10
        go_wp2_with fail
        refine (couldOrder_any m.target _ ht (K0.out.next HB2.out.lo) (K1.out.next HB2.out.lo)).mono ?_
        rintro e W3 ⟨hs, hb⟩
        have hq := hs.neg C2.out
        obtain rfl := hq
        have HB3 := hid (HB2.out.next hb)
        clear hs hb x2_0_5 x2_0_6 x2_0_7 x2_0_8 x2_0_9 x2_0_10
        go_wp2
        go_ret
        exact ⟨says_f fun h => C2.out h.2.2.1, HB3.out.lo⟩
    · have C1 := hid c1
      clear c1
      go_enter Tryz.func101, Tryz.ntmps101
      go_upto_region 1 with fail
      clear hW0
      have x0_0_1 : W0.cell? ⟨w.heap.size, 1, none⟩ = some (.int .i64 m.to) := row_cell HB0.out.e 1
      have x0_0_3 : W0.cell? ⟨w.heap.size, 3, none⟩ = some (.int .i64 m.epoch) := row_cell HB0.out.e 3
      have x0_0_4 : W0.cell? ⟨w.heap.size, 4, none⟩ = some (.int .i64 m.edit) := row_cell HB0.out.e 4
      have x0_0_5 : W0.cell? ⟨w.heap.size, 5, none⟩ = some (.string m.target.name) := row_cell HB0.out.e 5
      have x0_0_6 : W0.cell? ⟨w.heap.size, 6, none⟩ = some (.string m.target.tool) := row_cell HB0.out.e 6
      have x0_0_7 : W0.cell? ⟨w.heap.size, 7, none⟩ = some (.string m.target.arg) := row_cell HB0.out.e 7
      have x0_0_8 : W0.cell? ⟨w.heap.size, 8, none⟩ = some (.slice ad0 m.target.ins.length cp0) := row_cell HB0.out.e 8
      have x0_0_9 : W0.cell? ⟨w.heap.size, 9, none⟩ = some (.slice ad1 m.target.outs.length cp1) := row_cell HB0.out.e 9
      have x0_0_10 : W0.cell? ⟨w.heap.size, 10, none⟩ = some (.slice ad2 m.seen.length cp2) := row_cell HB0.out.e 10
      go_wp2_with fail
      refine (same_belowA (isWorker_any m.to _)).mono ?_
      rintro e W1 ⟨hs, hb⟩
      have hq := hs.pos C0.out
      obtain rfl := hq
      have HB1 := hid (HB0.out.next hb)
      clear hs hb x0_0_1 x0_0_3 x0_0_4 x0_0_5 x0_0_6 x0_0_7 x0_0_8 x0_0_9 x0_0_10
      have x1_0_3 : W1.cell? ⟨w.heap.size, 3, none⟩ = some (.int .i64 m.epoch) := row_cell HB1.out.e 3
      have x1_0_4 : W1.cell? ⟨w.heap.size, 4, none⟩ = some (.int .i64 m.edit) := row_cell HB1.out.e 4
      have x1_0_5 : W1.cell? ⟨w.heap.size, 5, none⟩ = some (.string m.target.name) := row_cell HB1.out.e 5
      have x1_0_6 : W1.cell? ⟨w.heap.size, 6, none⟩ = some (.string m.target.tool) := row_cell HB1.out.e 6
      have x1_0_7 : W1.cell? ⟨w.heap.size, 7, none⟩ = some (.string m.target.arg) := row_cell HB1.out.e 7
      have x1_0_8 : W1.cell? ⟨w.heap.size, 8, none⟩ = some (.slice ad0 m.target.ins.length cp0) := row_cell HB1.out.e 8
      have x1_0_9 : W1.cell? ⟨w.heap.size, 9, none⟩ = some (.slice ad1 m.target.outs.length cp1) := row_cell HB1.out.e 9
      have x1_0_10 : W1.cell? ⟨w.heap.size, 10, none⟩ = some (.slice ad2 m.seen.length cp2) := row_cell HB1.out.e 10
      go_wp2_with fail
      refine (same_belowA (isTime_any m.epoch m.edit _)).mono ?_
      rintro e W2 ⟨hs, hb⟩
      have hq := hs.neg C1.out
      obtain rfl := hq
      have HB2 := hid (HB1.out.next hb)
      clear hs hb x1_0_3 x1_0_4 x1_0_5 x1_0_6 x1_0_7 x1_0_8 x1_0_9 x1_0_10
      go_wp2
      go_ret
      exact ⟨says_f fun h => C1.out h.2.1, HB2.out.lo⟩
  · have C0 := hid c0
    clear c0
    go_enter Tryz.func101, Tryz.ntmps101
    go_upto_region 1 with fail
    clear hW0
    have x0_0_1 : W0.cell? ⟨w.heap.size, 1, none⟩ = some (.int .i64 m.to) := row_cell HB0.out.e 1
    have x0_0_3 : W0.cell? ⟨w.heap.size, 3, none⟩ = some (.int .i64 m.epoch) := row_cell HB0.out.e 3
    have x0_0_4 : W0.cell? ⟨w.heap.size, 4, none⟩ = some (.int .i64 m.edit) := row_cell HB0.out.e 4
    have x0_0_5 : W0.cell? ⟨w.heap.size, 5, none⟩ = some (.string m.target.name) := row_cell HB0.out.e 5
    have x0_0_6 : W0.cell? ⟨w.heap.size, 6, none⟩ = some (.string m.target.tool) := row_cell HB0.out.e 6
    have x0_0_7 : W0.cell? ⟨w.heap.size, 7, none⟩ = some (.string m.target.arg) := row_cell HB0.out.e 7
    have x0_0_8 : W0.cell? ⟨w.heap.size, 8, none⟩ = some (.slice ad0 m.target.ins.length cp0) := row_cell HB0.out.e 8
    have x0_0_9 : W0.cell? ⟨w.heap.size, 9, none⟩ = some (.slice ad1 m.target.outs.length cp1) := row_cell HB0.out.e 9
    have x0_0_10 : W0.cell? ⟨w.heap.size, 10, none⟩ = some (.slice ad2 m.seen.length cp2) := row_cell HB0.out.e 10
    go_wp2_with fail
    refine (same_belowA (isWorker_any m.to _)).mono ?_
    rintro e W1 ⟨hs, hb⟩
    have hq := hs.neg C0.out
    obtain rfl := hq
    have HB1 := hid (HB0.out.next hb)
    clear hs hb x0_0_1 x0_0_3 x0_0_4 x0_0_5 x0_0_6 x0_0_7 x0_0_8 x0_0_9 x0_0_10
    go_wp2
    go_ret
    exact ⟨says_f fun h => C0.out h.1, HB1.out.lo⟩
set_option maxHeartbeats 8000000 in
theorem offerUsed_any (m : Ms) {v0 v1 v2 v3 v4 : Value} (w : World) (k0 : SStrA w v0 m.target.ins) (k1 : SStrA w v1 m.target.outs) (k2 : SSnA w v2 m.seen) (k3 : SFlA w v3 m.turn.files) (k4 : SStrA w v4 m.turn.said) :
    Calls Tryz.prog 100 #[.agg #[.int .i64 m.kind, .int .i64 m.to, .int .i64 m.sender, .int .i64 m.epoch, .int .i64 m.edit, .string m.target.name, .string m.target.tool, .string m.target.arg, v0, v1, v2, .int .i64 m.count, .bool m.turn.over, .int .i64 m.turn.code, .string m.turn.text, .int .i64 m.turn.kind, .string m.turn.name, .int .i64 m.turn.steps, v3, v4]] w fun e w' => e = .returned (.agg #[.int .i64 1, .int .i64 m.to, .int .i64 0, .int .i64 m.epoch, .int .i64 m.edit, .string m.target.name, .string m.target.tool, .string m.target.arg, v0, v1, v2, .int .i64 0, .bool false, .int .i64 0, .string ⟨#[]⟩, .int .i64 0, .string ⟨#[]⟩, .int .i64 0, .slice none 0 0, .slice none 0 0]) ∧ Below w.heap.size w w' := by
  have K0 := hid k0
  obtain ⟨ad0, cp0, rfl⟩ := k0.sl
  have K1 := hid k1
  obtain ⟨ad1, cp1, rfl⟩ := k1.sl
  have K2 := hid k2
  obtain ⟨ad2, cp2, rfl⟩ := k2.sl
  have K3 := hid k3
  obtain ⟨ad3, cp3, rfl⟩ := k3.sl
  have K4 := hid k4
  obtain ⟨ad4, cp4, rfl⟩ := k4.sl
  clear k0 k1 k2 k3 k4
  have HB0 := hid (B2.start w (.cells #[.int .i64 m.kind, .int .i64 m.to, .int .i64 m.sender, .int .i64 m.epoch, .int .i64 m.edit, .string m.target.name, .string m.target.tool, .string m.target.arg, .slice ad0 m.target.ins.length cp0, .slice ad1 m.target.outs.length cp1, .slice ad2 m.seen.length cp2, .int .i64 m.count, .bool m.turn.over, .int .i64 m.turn.code, .string m.turn.text, .int .i64 m.turn.kind, .string m.turn.name, .int .i64 m.turn.steps, .slice ad3 m.turn.files.length cp3, .slice ad4 m.turn.said.length cp4] 41) (.cells #[.int .i64 0, .int .i64 0, .int .i64 0, .int .i64 0, .int .i64 0, .string ⟨#[]⟩, .string ⟨#[]⟩, .string ⟨#[]⟩, .slice none 0 0, .slice none 0 0, .slice none 0 0, .int .i64 0, .bool false, .int .i64 0, .string ⟨#[]⟩, .int .i64 0, .string ⟨#[]⟩, .int .i64 0, .slice none 0 0, .slice none 0 0] 41))
  obtain ⟨W0, hW0⟩ : ∃ W, (w.alloc (.cells #[.int .i64 m.kind, .int .i64 m.to, .int .i64 m.sender, .int .i64 m.epoch, .int .i64 m.edit, .string m.target.name, .string m.target.tool, .string m.target.arg, .slice ad0 m.target.ins.length cp0, .slice ad1 m.target.outs.length cp1, .slice ad2 m.seen.length cp2, .int .i64 m.count, .bool m.turn.over, .int .i64 m.turn.code, .string m.turn.text, .int .i64 m.turn.kind, .string m.turn.name, .int .i64 m.turn.steps, .slice ad3 m.turn.files.length cp3, .slice ad4 m.turn.said.length cp4] 41)).alloc (.cells #[.int .i64 0, .int .i64 0, .int .i64 0, .int .i64 0, .int .i64 0, .string ⟨#[]⟩, .string ⟨#[]⟩, .string ⟨#[]⟩, .slice none 0 0, .slice none 0 0, .slice none 0 0, .int .i64 0, .bool false, .int .i64 0, .string ⟨#[]⟩, .int .i64 0, .string ⟨#[]⟩, .int .i64 0, .slice none 0 0, .slice none 0 0] 41) = W := ⟨_, rfl⟩
  rw [hW0] at HB0
  go_enter Tryz.func100, Tryz.ntmps100
  go_upto_region 1 with fail
  clear hW0
  have a1 : W0.cell? ⟨w.heap.size, 1, none⟩ = some (.int .i64 m.to) := row_cell HB0.out.e 1
  have a3 : W0.cell? ⟨w.heap.size, 3, none⟩ = some (.int .i64 m.epoch) := row_cell HB0.out.e 3
  have a4 : W0.cell? ⟨w.heap.size, 4, none⟩ = some (.int .i64 m.edit) := row_cell HB0.out.e 4
  have a5 : W0.cell? ⟨w.heap.size, 5, none⟩ = some (.string m.target.name) := row_cell HB0.out.e 5
  have a6 : W0.cell? ⟨w.heap.size, 6, none⟩ = some (.string m.target.tool) := row_cell HB0.out.e 6
  have a7 : W0.cell? ⟨w.heap.size, 7, none⟩ = some (.string m.target.arg) := row_cell HB0.out.e 7
  have a8 : W0.cell? ⟨w.heap.size, 8, none⟩ = some (.slice ad0 m.target.ins.length cp0) := row_cell HB0.out.e 8
  have a9 : W0.cell? ⟨w.heap.size, 9, none⟩ = some (.slice ad1 m.target.outs.length cp1) := row_cell HB0.out.e 9
  have a10 : W0.cell? ⟨w.heap.size, 10, none⟩ = some (.slice ad2 m.seen.length cp2) := row_cell HB0.out.e 10
  have HSR : Hid ((W0.setRow (w.heap.size + 1) #[.int .i64 1, .int .i64 m.to, .int .i64 0, .int .i64 m.epoch, .int .i64 m.edit, .string m.target.name, .string m.target.tool, .string m.target.arg, .slice ad0 m.target.ins.length cp0, .slice ad1 m.target.outs.length cp1, .slice ad2 m.seen.length cp2, .int .i64 0, .bool false, .int .i64 0, .string ⟨#[]⟩, .int .i64 0, .string ⟨#[]⟩, .int .i64 0, .slice none 0 0, .slice none 0 0]).heap[w.heap.size + 1]? = some (.cells #[.int .i64 1, .int .i64 m.to, .int .i64 0, .int .i64 m.epoch, .int .i64 m.edit, .string m.target.name, .string m.target.tool, .string m.target.arg, .slice ad0 m.target.ins.length cp0, .slice ad1 m.target.outs.length cp1, .slice ad2 m.seen.length cp2, .int .i64 0, .bool false, .int .i64 0, .string ⟨#[]⟩, .int .i64 0, .string ⟨#[]⟩, .int .i64 0, .slice none 0 0, .slice none 0 0] 41 (0, 0))) := hid (setRow_heap _ _ _ _ _ _ HB0.out.f)
  go_wp2_with (refine wpList_store_row rfl 41 _ _ rfl (w.heap.size + 1) #[.int .i64 1, .int .i64 m.to, .int .i64 0, .int .i64 m.epoch, .int .i64 m.edit, .string m.target.name, .string m.target.tool, .string m.target.arg, .slice ad0 m.target.ins.length cp0, .slice ad1 m.target.outs.length cp1, .slice ad2 m.seen.length cp2, .int .i64 0, .bool false, .int .i64 0, .string ⟨#[]⟩, .int .i64 0, .string ⟨#[]⟩, .int .i64 0, .slice none 0 0, .slice none 0 0] rfl rfl 41 _ HB0.out.f (by kernel_rfl) rfl (by simp [Value.oneCell']) ?_)
  refine bodyPost_ret (v := .agg #[.int .i64 1, .int .i64 m.to, .int .i64 0, .int .i64 m.epoch, .int .i64 m.edit, .string m.target.name, .string m.target.tool, .string m.target.arg, .slice ad0 m.target.ins.length cp0, .slice ad1 m.target.outs.length cp1, .slice ad2 m.seen.length cp2, .int .i64 0, .bool false, .int .i64 0, .string ⟨#[]⟩, .int .i64 0, .string ⟨#[]⟩, .int .i64 0, .slice none 0 0, .slice none 0 0]) ?_ rfl ⟨rfl, below_setRow HB0.out.lo (by omega) _⟩
  exact results_cell_row Tryz.results100 _ _ (w.heap.size + 1) 41 #[.int .i64 1, .int .i64 m.to, .int .i64 0, .int .i64 m.epoch, .int .i64 m.edit, .string m.target.name, .string m.target.tool, .string m.target.arg, .slice ad0 m.target.ins.length cp0, .slice ad1 m.target.outs.length cp1, .slice ad2 m.seen.length cp2, .int .i64 0, .bool false, .int .i64 0, .string ⟨#[]⟩, .int .i64 0, .string ⟨#[]⟩, .int .i64 0, .slice none 0 0, .slice none 0 0] (0, 0) _ rfl HSR.out Tryz.underlying41 rfl (by kernel_rfl)
end Go.Proofs.YtlopcjhipajdcaaGreatDoor.Y
/-! Regions that draw their order, a step at a time: a condition on the world that has to hold till one operation (the first store) has come up. -/
namespace Go.Proofs.YtlopcjhipajdcaaGreatDoor.Y
open Go.RowKit R
set_option maxRecDepth 20000
section
variable {P : Program} {md : Region.Mode} {ops : Array Oper} {Q : Exit → Act → World → Prop} {S : World → Prop} {s0 : Nat}
/-- Whatever order is picked from here on; S holds behind every operation till number s0 has come up. -/
def wpAnyU (P : Program) (md : Region.Mode) (ops : Array Oper) (Q : Exit → Act → World → Prop) (S : World → Prop) (s0 : Nat) : Nat → Array Bool → Act → World → Prop
  | 0, listed, a, w => Region.ready md ops listed = [] ∧ Q .normal a w
  | fuel + 1, listed, a, w =>
    (Region.ready md ops listed = [] → Q .normal a w) ∧
    ∀ i ∈ Region.ready md ops listed, wpOp P ops Q i (fun a' w' => ((listed.setIfInBounds i true).getD s0 true = false → S w') ∧ wpAnyU P md ops Q S s0 fuel (listed.setIfInBounds i true) a' w') a w
theorem wpAny_of_until : ∀ (fuel : Nat) (listed : Array Bool) (a : Act) (w : World), wpAnyU P md ops Q S s0 fuel listed a w → wpAny P md ops Q fuel listed a w
  | 0, _, _, _, h => h
  | fuel + 1, _, _, _, h => ⟨h.1, fun i hi => wpOp_mono (fun a' w' h' => wpAny_of_until fuel _ a' w' h'.2) (h.2 i hi)⟩
theorem wpAnyU_first {i : Nat} {oi : Oper} {v : Value} (hi : ops[i]? = some oi) (hsel : ∀ (j : Nat) (o : Oper) cs b, ops[j]? = some o → o.op ≠ .select cs b)
    (hQ : ∀ c a w, Q (.panic c) (a.put oi.dst v) w → Q (.panic c) a w) (hne : i ≠ s0) (hw : ∃ o, ops[s0]? = some o ∧ ∃ e ∈ o.after, Region.binds md e = true ∧ e.on = i) :
    ∀ (fuel : Nat) (listed : Array Bool) (a : Act) (w : World),
      (∀ j oj, ops[j]? = some oj → j ≠ i → listed.getD j true = false → (∀ e ∈ oj.after, Region.binds md e = true → e.on ≠ i) → oi.apart ops oj = true) →
      i ∈ Region.ready md ops listed → YieldsIf P ops S oi v a → S w → listed.getD s0 true = false →
      wpAnyU P md ops Q S s0 fuel (listed.setIfInBounds i true) (a.put oi.dst v) w → wpAnyU P md ops Q S s0 (fuel + 1) listed a w := by
  intro fuel
  induction fuel with
  | zero =>
    intro listed a w _ hr hy hS hl H
    refine ⟨fun h => (by rw [h] at hr; cases hr), fun j hj => ?_⟩
    by_cases hji : j = i
    · subst hji; exact hy.wpOp hi hS ⟨fun _ => hS, H⟩
    · have := ready_mono hj hji
      rw [H.1] at this
      cases this
  | succ fuel ih =>
    intro listed a w hfree hr hy hS hl H
    refine ⟨fun h => (by rw [h] at hr; cases hr), fun j hj => ?_⟩
    by_cases hji : j = i
    · subst hji; exact hy.wpOp hi hS ⟨fun _ => hS, H⟩
    · have h1 := H.2 j (ready_mono hj hji)
      obtain ⟨hjun, oj, hoj, hall⟩ := mem_ready.1 hj
      have hnot : ∀ e ∈ oj.after, Region.binds md e = true → e.on ≠ i := fun e he hb heq => by
        have h1 := hall e he hb
        have h0 := (mem_ready.1 hr).1
        rw [heq] at h1
        rcases Nat.lt_or_ge i listed.size with h' | h'
        · simp [h'] at h0 h1; rw [h0] at h1; cases h1
        · simp [Array.getElem?_eq_none h'] at h1
      have hjs : s0 ≠ j := fun e0 => by
        obtain ⟨o, ho, e, he, hb, hon⟩ := hw
        rw [e0] at ho
        rw [hoj] at ho
        cases ho
        exact hnot e he hb hon
      have h2 := wpOp_putIf hoj (hfree j oj hoj hji hjun hnot) (fun cs b => hsel i oi cs b hi) (fun cs b => hsel j oj cs b hoj) hQ hy h1
      have hfree' : ∀ k ok, ops[k]? = some ok → k ≠ i → (listed.setIfInBounds j true).getD k true = false →
          (∀ e ∈ ok.after, Region.binds md e = true → e.on ≠ i) → oi.apart ops ok = true := fun k ok hk hki hun hno => by
        refine hfree k ok hk hki ?_ hno
        by_cases hjk : j = k
        · subst hjk; exact hjun
        · rw [getD_set_ne true hjk] at hun; exact hun
      have hl2 : (listed.setIfInBounds j true).getD s0 true = false := by rw [getD_set_ne true (fun e => hjs e.symm)]; exact hl
      have hl3 : ((listed.setIfInBounds i true).setIfInBounds j true).getD s0 true = false := by rw [getD_set_ne true (fun e => hjs e.symm), getD_set_ne true hne]; exact hl
      refine wpOp_mono (fun a' w' h3 => ⟨fun _ => h3.2.1 hl3, ih (listed.setIfInBounds j true) a' w' hfree' (ready_mono hr (Ne.symm hji)) h3.1 (h3.2.1 hl3) hl2 ?_⟩) h2
      rw [Array.setIfInBounds_comm _ _ hji]
      exact h3.2.2
/-- Does number s0 wait for number i? -/
def waits (md : Region.Mode) (ops : Array Oper) (s0 i : Nat) : Bool := match ops[s0]? with | some o => o.after.toList.any fun e => Region.binds md e && e.on == i | none => false
theorem waits_spec {i : Nat} (h : waits md ops s0 i = true) : ∃ o, ops[s0]? = some o ∧ ∃ e ∈ o.after, Region.binds md e = true ∧ e.on = i := by
  unfold waits at h
  cases ho : ops[s0]? with
  | none => rw [ho] at h; cases h
  | some o =>
    rw [ho] at h
    simp only [List.any_eq_true, Bool.and_eq_true, beq_iff_eq] at h
    obtain ⟨e, he, h1, h2⟩ := h
    exact ⟨o, rfl, e, Array.mem_toList_iff.1 he, h1, h2⟩
theorem wpAnyU_take {i : Nat} {oi : Oper} {v : Value} {fuel : Nat} {listed : Array Bool} {a : Act} {w : World} (hi : ops[i]? = some oi)
    (hs : Region.noSelect ops = true) (hf : Region.free md ops listed i = true) (hr : (Region.ready md ops listed).contains i = true)
    (hQ : ∀ c a w, Q (.panic c) (a.put oi.dst v) w → Q (.panic c) a w) (hw : waits md ops s0 i = true) (hne : (i == s0) = false) (hl : listed.getD s0 true = false) (hy : YieldsIf P ops S oi v a) (hS : S w)
    (h : wpAnyU P md ops Q S s0 fuel (listed.setIfInBounds i true) (a.put oi.dst v) w) : wpAnyU P md ops Q S s0 (fuel + 1) listed a w :=
  wpAnyU_first hi (Region.noSelect_spec hs) hQ (by simpa using hne) (waits_spec hw) fuel listed a w (Region.free_spec hi hf) (by simpa using hr) hy hS hl h
theorem until_one {i fuel : Nat} {listed : Array Bool} {a : Act} {w : World} {o : Oper} (hr : Region.ready md ops listed = [i]) (ho : ops[i]? = some o) (hg : o.guard = none)
    (h : o.wp P a w (fun a' w' => ((listed.setIfInBounds i true).getD s0 true = false → S w') ∧ wpAnyU P md ops Q S s0 fuel (listed.setIfInBounds i true) a' w') Q) : wpAnyU P md ops Q S s0 (fuel + 1) listed a w := by
  refine ⟨fun h2 => (by rw [hr] at h2; cases h2), fun j hj => ?_⟩
  rw [hr] at hj
  obtain rfl : j = i := by simpa using hj
  unfold wpOp
  rw [ho]
  have hw : Region.wanted o (yielded ops a.tmps) = true := by simp [Region.wanted, hg]
  simp only [hw, if_true]
  exact .inl h
theorem until_call {i fuel : Nat} {listed : Array Bool} {a : Act} {w : World} {o : Oper} (hr : Region.ready md ops listed = [i]) (ho : ops[i]? = some o) (hg : o.guard = none)
    {f : FuncId} {vals : Array Value} (hx : (execOp a.eval o).run P w = .ok (.enter f vals) w) {Q' : Ending → World → Prop} (hc : Calls P f vals w Q')
    (h : ∀ e w', Q' e w' → ∃ v, e = .returned v ∧ S w' ∧ wpAnyU P md ops Q S s0 fuel (listed.setIfInBounds i true) (a.put o.dst v) w') : wpAnyU P md ops Q S s0 (fuel + 1) listed a w := by
  refine until_one hr ho hg ?_
  unfold Oper.wp
  rw [hx, Oper.upon_enter]
  refine hc.mono fun e w' hq => ?_
  obtain ⟨v, rfl, hS, hk⟩ := h e w' hq
  exact ⟨fun _ => hS, hk⟩
/-- An operation that yields a value, of the world at hand. -/
theorem until_value {i fuel : Nat} {listed : Array Bool} {a : Act} {w : World} {o : Oper} (hr : Region.ready md ops listed = [i]) (ho : ops[i]? = some o) (hg : o.guard = none) (v : Value)
    (hx : (execOp a.eval o).run P w = .ok (.value v) w) (hS : (listed.setIfInBounds i true).getD s0 true = false → S w) (h : wpAnyU P md ops Q S s0 fuel (listed.setIfInBounds i true) (a.put o.dst v) w) : wpAnyU P md ops Q S s0 (fuel + 1) listed a w := by
  refine until_one hr ho hg ?_
  unfold Oper.wp
  rw [hx]
  exact ⟨hS, h⟩
theorem until_store_row {i fuel : Nat} {listed : Array Bool} {a : Act} {w : World} {o : Oper} (hr : Region.ready md ops listed = [i]) (ho : ops[i]? = some o) (hg : o.guard = none) (ty : TypeId) (x y : Operand) (hop : o.op = .store ty x y)
    (g : Nat) (cells : Array Value) (hx : a.eval x = .pointer (some ⟨g, 0, none⟩)) (hy : a.eval y = .agg cells) (t : TypeId) (old : Array Value) (hh : w.heap[g]? = some (.cells old t (0, 0))) (hi : (P.info? ty).map (·.size) = some cells.size)
    (hold : old.size = cells.size) (h1 : cells.all (·.oneCell') = true) (hl : (listed.setIfInBounds i true).getD s0 true = true) (h : wpAnyU P md ops Q S s0 fuel (listed.setIfInBounds i true) (a.put o.dst undef) (w.setRow g cells)) : wpAnyU P md ops Q S s0 (fuel + 1) listed a w :=
  until_one hr ho hg (wp_store_row ty x y hop g cells hx hy t old hh hi hold h1 ⟨(fun e => by rw [hl] at e; cases e), h⟩)
theorem until_store_mid {i fuel : Nat} {listed : Array Bool} {a : Act} {w : World} {o : Oper} (hr : Region.ready md ops listed = [i]) (ho : ops[i]? = some o) (hg : o.guard = none) (ty : TypeId) (x y : Operand) (hop : o.op = .store ty x y)
    (g off : Nat) (cells : Array Value) (hx : a.eval x = .pointer (some ⟨g, off, none⟩)) (hy : a.eval y = .agg cells) (hh : w.there g off cells.size) (hi : (P.info? ty).map (·.size) = some cells.size)
    (h1 : cells.all (·.oneCell') = true) (hl : (listed.setIfInBounds i true).getD s0 true = true) (h : wpAnyU P md ops Q S s0 fuel (listed.setIfInBounds i true) (a.put o.dst undef) (w.setCells g off cells.toList)) : wpAnyU P md ops Q S s0 (fuel + 1) listed a w :=
  until_one hr ho hg (wp_store_mid ty x y hop g off cells hx hy hh hi h1 ⟨(fun e => by rw [hl] at e; cases e), h⟩)
/-- The store of one cell. -/
theorem until_store {i fuel : Nat} {listed : Array Bool} {a : Act} {w w' : World} {o : Oper} (hr : Region.ready md ops listed = [i]) (ho : ops[i]? = some o) (hg : o.guard = none)
    (hx : (execOp a.eval o).run P w = .ok .skip w') (hl : (listed.setIfInBounds i true).getD s0 true = true) (h : wpAnyU P md ops Q S s0 fuel (listed.setIfInBounds i true) (a.put o.dst undef) w') : wpAnyU P md ops Q S s0 (fuel + 1) listed a w := by
  refine until_one hr ho hg ?_
  unfold Oper.wp
  rw [hx]
  exact ⟨(fun e => by rw [hl] at e; cases e), h⟩
theorem until_done {listed : Array Bool} {a : Act} {w : World} (hr : Region.ready md ops listed = []) (h : Q .normal a w) : ∀ fuel, wpAnyU P md ops Q S s0 fuel listed a w
  | 0 => ⟨hr, h⟩
  | _ + 1 => ⟨fun _ => h, by rw [hr]; simp⟩
theorem wp_region_until {id : Nat} {a : Act} {w : World} (S : World → Prop) (s0 : Nat) (hm : P.follows .mixedOrders = true)
    (h : wpAnyU P .any ops Q S s0 ops.size (Array.replicate ops.size false) a w.drew) : (Code.region id ops true).wp P Q a w :=
  wp_region_any hm (wpAny_of_until _ _ _ _ h)
end
end Go.Proofs.YtlopcjhipajdcaaGreatDoor.Y
