import Derived.Deep.DeepCutAuto
import Derived.Test.YtlopcjhipajdcaaGreatDoorJ10
/-! Nothing, by the model: a turn, a target. -/
namespace Go.Proofs.YtlopcjhipajdcaaGreatDoor.Y
open Go.RowKit R
open Go.Proofs.YtlopcjhipajdcaaGreatDoor.J (FileOk BegOk RepOk ltB Says says_t says_f)
set_option maxRecDepth 20000
set_option maxHeartbeats 4000000 in
theorem noTurn_any (u : Tu) {v0 v1 : Value} (w : World) (hu : SmTu u) (k0 : SFlA w v0 u.files) (k1 : SStrA w v1 u.said) :
    Calls Tryz.prog 42 #[.agg #[.bool u.over, .int .i64 u.code, .string u.text, .int .i64 u.kind, .string u.name, .int .i64 u.steps, v0, v1]] w fun e w' => Says e (TuNone u) ∧ Below w.heap.size w w' := by
  obtain ⟨_, _, hf, hsd⟩ := hu
  obtain ⟨ad0, cp0, rfl⟩ := k0.sl
  obtain ⟨ad1, cp1, rfl⟩ := k1.sl
  clear k0 k1
  have HB0 := hid (B1.start w (.cells #[.bool u.over, .int .i64 u.code, .string u.text, .int .i64 u.kind, .string u.name, .int .i64 u.steps, .slice ad0 u.files.length cp0, .slice ad1 u.said.length cp1] 39))
  obtain ⟨W0, hW0⟩ : ∃ W, w.alloc (.cells #[.bool u.over, .int .i64 u.code, .string u.text, .int .i64 u.kind, .string u.name, .int .i64 u.steps, .slice ad0 u.files.length cp0, .slice ad1 u.said.length cp1] 39) = W := ⟨_, rfl⟩
  rw [hW0] at HB0
  have a0 : W0.cell? ⟨w.heap.size, 0, none⟩ = some (.bool u.over) := row_cell HB0.out.e 0
  have a1 : W0.cell? ⟨w.heap.size, 1, none⟩ = some (.int .i64 u.code) := row_cell HB0.out.e 1
  have a2 : W0.cell? ⟨w.heap.size, 2, none⟩ = some (.string u.text) := row_cell HB0.out.e 2
  have a3 : W0.cell? ⟨w.heap.size, 3, none⟩ = some (.int .i64 u.kind) := row_cell HB0.out.e 3
  have a4 : W0.cell? ⟨w.heap.size, 4, none⟩ = some (.string u.name) := row_cell HB0.out.e 4
  have a5 : W0.cell? ⟨w.heap.size, 5, none⟩ = some (.int .i64 u.steps) := row_cell HB0.out.e 5
  have a6 : W0.cell? ⟨w.heap.size, 6, none⟩ = some (.slice ad0 u.files.length cp0) := row_cell HB0.out.e 6
  have a7 : W0.cell? ⟨w.heap.size, 7, none⟩ = some (.slice ad1 u.said.length cp1) := row_cell HB0.out.e 7
  by_cases c0 : u.over = false
  · have q0 : (!u.over) = true := by simp [c0]
    have C0 := hid c0
    clear c0
    by_cases c1 : u.code = 0
    · have q1 : (u.code == 0) = true := by simp [c1]
      have C1 := hid c1
      clear c1
      by_cases c2 : u.text.size = 0
      · have q2 : u.text.toList.isEmpty = true := by rw [J.isEmpty_iff]; simp [c2]
        have r2 : (u.text.toList == ByteArray.toList ⟨#[]⟩) = true := by rw [size0 c2]; simp
        have C2 := hid c2
        clear c2
        by_cases c3 : u.kind = 0
        · have q3 : (u.kind == 0) = true := by simp [c3]
          have C3 := hid c3
          clear c3
          by_cases c4 : u.name.size = 0
          · have q4 : u.name.toList.isEmpty = true := by rw [J.isEmpty_iff]; simp [c4]
            have r4 : (u.name.toList == ByteArray.toList ⟨#[]⟩) = true := by rw [size0 c4]; simp
            have C4 := hid c4
            clear c4
            by_cases c5 : u.steps = 0
            · have q5 : (u.steps == 0) = true := by simp [c5]
              have C5 := hid c5
              clear c5
              by_cases c6 : u.files = [] ∧ u.said = []
              · have q6 : ((u.files.length : Int) + (u.said.length : Int) == 0) = true := by rw [c6.1, c6.2]; rfl
                have C6 := hid c6
                clear c6
                go_enter Tryz.func42, Tryz.ntmps42
                go_upto_region 1 with fail
                clear hW0
                go_wp2
                go_ret
                exact ⟨says_t ⟨C0.out, C1.out, C2.out, C3.out, C4.out, C5.out, C6.out⟩, HB0.out.lo⟩
              · have q6 : ((u.files.length : Int) + (u.said.length : Int) == 0) = false := by rw [beq_eq_false_iff_ne]; intro h; exact c6 ⟨List.eq_nil_of_length_eq_zero (by omega), List.eq_nil_of_length_eq_zero (by omega)⟩
                have C6 := hid c6
                clear c6
                go_enter Tryz.func42, Tryz.ntmps42
                go_upto_region 1 with fail
                clear hW0
                go_wp2
                go_ret
                exact ⟨says_f fun h => C6.out h.2.2.2.2.2.2, HB0.out.lo⟩
            · have q5 : (u.steps == 0) = false := by simp [c5]
              have C5 := hid c5
              clear c5
              go_enter Tryz.func42, Tryz.ntmps42
              go_upto_region 1 with fail
              clear hW0
              go_wp2
              go_ret
              exact ⟨says_f fun h => C5.out h.2.2.2.2.2.1, HB0.out.lo⟩
          · have q4 : u.name.toList.isEmpty = false := by rw [J.isEmpty_iff]; simp [c4]
            have r4 : (u.name.toList == ByteArray.toList ⟨#[]⟩) = false := by rw [texts_eq]; simp; intro h; rw [h] at c4; exact c4 rfl
            have C4 := hid c4
            clear c4
            go_enter Tryz.func42, Tryz.ntmps42
            go_upto_region 1 with fail
            clear hW0
            go_wp2
            go_ret
            exact ⟨says_f fun h => C4.out h.2.2.2.2.1, HB0.out.lo⟩
        · have q3 : (u.kind == 0) = false := by simp [c3]
          have C3 := hid c3
          clear c3
          go_enter Tryz.func42, Tryz.ntmps42
          go_upto_region 1 with fail
          clear hW0
          go_wp2
          go_ret
          exact ⟨says_f fun h => C3.out h.2.2.2.1, HB0.out.lo⟩
      · have q2 : u.text.toList.isEmpty = false := by rw [J.isEmpty_iff]; simp [c2]
        have r2 : (u.text.toList == ByteArray.toList ⟨#[]⟩) = false := by rw [texts_eq]; simp; intro h; rw [h] at c2; exact c2 rfl
        have C2 := hid c2
        clear c2
        go_enter Tryz.func42, Tryz.ntmps42
        go_upto_region 1 with fail
        clear hW0
        go_wp2
        go_ret
        exact ⟨says_f fun h => C2.out h.2.2.1, HB0.out.lo⟩
    · have q1 : (u.code == 0) = false := by simp [c1]
      have C1 := hid c1
      clear c1
      go_enter Tryz.func42, Tryz.ntmps42
      go_upto_region 1 with fail
      clear hW0
      go_wp2
      go_ret
      exact ⟨says_f fun h => C1.out h.2.1, HB0.out.lo⟩
  · have q0 : (!u.over) = false := by simp at c0; simp [c0]
    have C0 := hid c0
    clear c0
    go_enter Tryz.func42, Tryz.ntmps42
    go_upto_region 1 with fail
    clear hW0
    go_wp2
    go_ret
    exact ⟨says_f fun h => C0.out h.1, HB0.out.lo⟩
set_option maxHeartbeats 4000000 in
theorem sameTarget_none (t : Tg) {v0 v1 : Value} (w : World) (ht : SmTg t) (k0 : SStrA w v0 t.ins) (k1 : SStrA w v1 t.outs) :
    Calls Tryz.prog 41 #[.agg #[.string t.name, .string t.tool, .string t.arg, v0, v1], .agg #[.string ⟨#[]⟩, .string ⟨#[]⟩, .string ⟨#[]⟩, .slice none 0 0, .slice none 0 0]] w fun e w' => Says e (TgNone t) ∧ Below w.heap.size w w' := by
  obtain ⟨_, _, _, hi, ho⟩ := ht
  have K0 := hid k0
  have K1 := hid k1
  obtain ⟨ad0, cp0, rfl⟩ := k0.sl
  obtain ⟨ad1, cp1, rfl⟩ := k1.sl
  clear k0 k1
  have HB0 := hid (B2.start w (.cells #[.string t.name, .string t.tool, .string t.arg, .slice ad0 t.ins.length cp0, .slice ad1 t.outs.length cp1] 35) (.cells #[.string ⟨#[]⟩, .string ⟨#[]⟩, .string ⟨#[]⟩, .slice none 0 0, .slice none 0 0] 35))
  obtain ⟨W0, hW0⟩ : ∃ W, (w.alloc (.cells #[.string t.name, .string t.tool, .string t.arg, .slice ad0 t.ins.length cp0, .slice ad1 t.outs.length cp1] 35)).alloc (.cells #[.string ⟨#[]⟩, .string ⟨#[]⟩, .string ⟨#[]⟩, .slice none 0 0, .slice none 0 0] 35) = W := ⟨_, rfl⟩
  rw [hW0] at HB0
  have HX0 := hid (Below.refl W0.heap.size W0)
  have a0 : W0.cell? ⟨w.heap.size, 0, none⟩ = some (.string t.name) := row_cell HB0.out.e 0
  have z0 : W0.cell? ⟨w.heap.size + 1, 0, none⟩ = some (.string ⟨#[]⟩) := row_cell HB0.out.f 0
  have a1 : W0.cell? ⟨w.heap.size, 1, none⟩ = some (.string t.tool) := row_cell HB0.out.e 1
  have z1 : W0.cell? ⟨w.heap.size + 1, 1, none⟩ = some (.string ⟨#[]⟩) := row_cell HB0.out.f 1
  have a2 : W0.cell? ⟨w.heap.size, 2, none⟩ = some (.string t.arg) := row_cell HB0.out.e 2
  have z2 : W0.cell? ⟨w.heap.size + 1, 2, none⟩ = some (.string ⟨#[]⟩) := row_cell HB0.out.f 2
  have a3 : W0.cell? ⟨w.heap.size, 3, none⟩ = some (.slice ad0 t.ins.length cp0) := row_cell HB0.out.e 3
  have z3 : W0.cell? ⟨w.heap.size + 1, 3, none⟩ = some (.slice none 0 0) := row_cell HB0.out.f 3
  have a4 : W0.cell? ⟨w.heap.size, 4, none⟩ = some (.slice ad1 t.outs.length cp1) := row_cell HB0.out.e 4
  have z4 : W0.cell? ⟨w.heap.size + 1, 4, none⟩ = some (.slice none 0 0) := row_cell HB0.out.f 4
  by_cases c0 : t.name.size = 0
  · have q0 : t.name.toList.isEmpty = true := by rw [J.isEmpty_iff]; simp [c0]
    have r0 : (t.name.toList == ByteArray.toList ⟨#[]⟩) = true := by rw [size0 c0]; simp
    have C0 := hid c0
    clear c0
    by_cases c1 : t.tool.size = 0
    · have q1 : t.tool.toList.isEmpty = true := by rw [J.isEmpty_iff]; simp [c1]
      have r1 : (t.tool.toList == ByteArray.toList ⟨#[]⟩) = true := by rw [size0 c1]; simp
      have C1 := hid c1
      clear c1
      by_cases c2 : t.arg.size = 0
      · have q2 : t.arg.toList.isEmpty = true := by rw [J.isEmpty_iff]; simp [c2]
        have r2 : (t.arg.toList == ByteArray.toList ⟨#[]⟩) = true := by rw [size0 c2]; simp
        have C2 := hid c2
        clear c2
        by_cases c3 : t.ins = []
        · have C3 := hid c3
          clear c3
          by_cases c4 : t.outs = []
          · have C4 := hid c4
            clear c4
            go_enter Tryz.func41, Tryz.ntmps41
            go_upto_region 1 with fail
            clear hW0
            go_wp2_with fail
            refine (sameTexts_none t.ins _ hi.1 (K0.out.next HB0.out.lo)).mono ?_
            rintro e W1 ⟨hs, hb⟩
            have hq := hs.pos C3.out
            obtain rfl := hq
            have HB1 := hid (HB0.out.next hb)
            clear hs hb a0 z0 a1 z1 a2 z2 a3 z3 a4 z4
            have b4 : W1.cell? ⟨w.heap.size, 4, none⟩ = some (.slice ad1 t.outs.length cp1) := row_cell HB1.out.e 4
            have y4 : W1.cell? ⟨w.heap.size + 1, 4, none⟩ = some (.slice none 0 0) := row_cell HB1.out.f 4
            go_wp2_with fail
            refine (sameTexts_none t.outs _ ho.1 (K1.out.next HB1.out.lo)).mono ?_
            rintro e W2 ⟨hs, hb⟩
            have hq := hs.pos C4.out
            obtain rfl := hq
            have HB2 := hid (HB1.out.next hb)
            clear hs hb
            go_wp2
            go_ret
            exact ⟨says_t ⟨C0.out, C1.out, C2.out, C3.out, C4.out⟩, HB2.out.lo⟩
          · have C4 := hid c4
            clear c4
            go_enter Tryz.func41, Tryz.ntmps41
            go_upto_region 1 with fail
            clear hW0
            go_wp2_with fail
            refine (sameTexts_none t.ins _ hi.1 (K0.out.next HB0.out.lo)).mono ?_
            rintro e W1 ⟨hs, hb⟩
            have hq := hs.pos C3.out
            obtain rfl := hq
            have HB1 := hid (HB0.out.next hb)
            clear hs hb a0 z0 a1 z1 a2 z2 a3 z3 a4 z4
            have b4 : W1.cell? ⟨w.heap.size, 4, none⟩ = some (.slice ad1 t.outs.length cp1) := row_cell HB1.out.e 4
            have y4 : W1.cell? ⟨w.heap.size + 1, 4, none⟩ = some (.slice none 0 0) := row_cell HB1.out.f 4
            go_wp2_with fail
            refine (sameTexts_none t.outs _ ho.1 (K1.out.next HB1.out.lo)).mono ?_
            rintro e W2 ⟨hs, hb⟩
            have hq := hs.neg C4.out
            obtain rfl := hq
            have HB2 := hid (HB1.out.next hb)
            clear hs hb
            go_wp2
            go_ret
            exact ⟨says_f fun h => C4.out h.2.2.2.2, HB2.out.lo⟩
        · have C3 := hid c3
          clear c3
          go_enter Tryz.func41, Tryz.ntmps41
          go_upto_region 1 with fail
          clear hW0
          go_wp2_with fail
          refine (sameTexts_none t.ins _ hi.1 (K0.out.next HB0.out.lo)).mono ?_
          rintro e W1 ⟨hs, hb⟩
          have hq := hs.neg C3.out
          obtain rfl := hq
          have HB1 := hid (HB0.out.next hb)
          clear hs hb a0 z0 a1 z1 a2 z2 a3 z3 a4 z4
          go_wp2
          go_ret
          exact ⟨says_f fun h => C3.out h.2.2.2.1, HB1.out.lo⟩
      · have q2 : t.arg.toList.isEmpty = false := by rw [J.isEmpty_iff]; simp [c2]
        have r2 : (t.arg.toList == ByteArray.toList ⟨#[]⟩) = false := by rw [texts_eq]; simp; intro h; rw [h] at c2; exact c2 rfl
        have C2 := hid c2
        clear c2
        go_enter Tryz.func41, Tryz.ntmps41
        go_upto_region 1 with fail
        clear hW0
        go_wp2
        go_ret
        exact ⟨says_f fun h => C2.out h.2.2.1, HB0.out.lo⟩
    · have q1 : t.tool.toList.isEmpty = false := by rw [J.isEmpty_iff]; simp [c1]
      have r1 : (t.tool.toList == ByteArray.toList ⟨#[]⟩) = false := by rw [texts_eq]; simp; intro h; rw [h] at c1; exact c1 rfl
      have C1 := hid c1
      clear c1
      go_enter Tryz.func41, Tryz.ntmps41
      go_upto_region 1 with fail
      clear hW0
      go_wp2
      go_ret
      exact ⟨says_f fun h => C1.out h.2.1, HB0.out.lo⟩
  · have q0 : t.name.toList.isEmpty = false := by rw [J.isEmpty_iff]; simp [c0]
    have r0 : (t.name.toList == ByteArray.toList ⟨#[]⟩) = false := by rw [texts_eq]; simp; intro h; rw [h] at c0; exact c0 rfl
    have C0 := hid c0
    clear c0
    go_enter Tryz.func41, Tryz.ntmps41
    go_upto_region 1 with fail
    clear hW0
    go_wp2
    go_ret
    exact ⟨says_f fun h => C0.out h.1, HB0.out.lo⟩
end Go.Proofs.YtlopcjhipajdcaaGreatDoor.Y
