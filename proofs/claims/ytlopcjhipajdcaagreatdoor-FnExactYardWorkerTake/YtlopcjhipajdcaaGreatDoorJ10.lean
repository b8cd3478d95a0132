import Derived.Deep.DeepCutAuto
import Derived.Test.YtlopcjhipajdcaaGreatDoorJ09
import Derived.Test.YtlopcjhipajdcaaGreatDoorJ03
/-! Nothing, by the model: a turn, a target. -/
namespace Go.Proofs.YtlopcjhipajdcaaGreatDoor.Y
open Go.RowKit R
open Go.Proofs.YtlopcjhipajdcaaGreatDoor.J (FileOk BegOk RepOk ltB Says says_t says_f)
set_option maxRecDepth 20000
set_option maxHeartbeats 4000000 in
theorem noTurn_any (u : Tu) {v0 v1 : Value} (w : World) (hu : SmTu u) (k0 : SFlA w v0 u.files) (k1 : SStrA w v1 u.said) :
    Calls Tryz.prog 42 #[.agg #[.bool u.over, .int .i64 u.code, .string u.text, .int .i64 u.kind, .string u.name, .int .i64 u.steps, v0, v1]] w fun e w' => Says e (TuNone u) ∧ Below w.heap.size w w' := by
  obtain ⟨_, _, hf, hsd⟩ := hu
  obtain ⟨ad0, cp0, rfl⟩ := k0.sl
  obtain ⟨ad1, cp1, rfl⟩ := k1.sl
  clear k0 k1
  have HB0 := hid (B1.start w (.cells #[.bool u.over, .int .i64 u.code, .string u.text, .int .i64 u.kind, .string u.name, .int .i64 u.steps, .slice ad0 u.files.length cp0, .slice ad1 u.said.length cp1] 39))
  obtain ⟨W0, hW0⟩ : ∃ W, w.alloc (.cells #[.bool u.over, .int .i64 u.code, .string u.text, .int .i64 u.kind, .string u.name, .int .i64 u.steps, .slice ad0 u.files.length cp0, .slice ad1 u.said.length cp1] 39) = W := ⟨_, rfl⟩
  rw [hW0] at HB0
  have a0 : W0.cell? ⟨w.heap.size, 0, none⟩ = some (.bool u.over) := row_cell HB0.out.e 0
  have a1 : W0.cell? ⟨w.heap.size, 1, none⟩ = some (.int .i64 u.code) := row_cell HB0.out.e 1
  have a2 : W0.cell? ⟨w.heap.size, 2, none⟩ = some (.string u.text) := row_cell HB0.out.e 2
  have a3 : W0.cell? ⟨w.heap.size, 3, none⟩ = some (.int .i64 u.kind) := row_cell HB0.out.e 3
  have a4 : W0.cell? ⟨w.heap.size, 4, none⟩ = some (.string u.name) := row_cell HB0.out.e 4
  have a5 : W0.cell? ⟨w.heap.size, 5, none⟩ = some (.int .i64 u.steps) := row_cell HB0.out.e 5
  have a6 : W0.cell? ⟨w.heap.size, 6, none⟩ = some (.slice ad0 u.files.length cp0) := row_cell HB0.out.e 6
  have a7 : W0.cell? ⟨w.heap.size, 7, none⟩ = some (.slice ad1 u.said.length cp1) := row_cell HB0.out.e 7
  by_cases c0 : u.over = false
  · have q0 : (!u.over) = true := by simp [c0]
    have C0 := hid c0
    clear c0
    by_cases c1 : u.code = 0
    · have q1 : (u.code == 0) = true := by simp [c1]
      have C1 := hid c1
      clear c1
      by_cases c2 : u.text.size = 0
      · have q2 : u.text.toList.isEmpty = true := by rw [J.isEmpty_iff]; simp [c2]
        have r2 : (u.text.toList == ByteArray.toList ⟨#[]⟩) = true := by rw [size0 c2]; simp
        have C2 := hid c2
        clear c2
        by_cases c3 : u.kind = 0
        · have q3 : (u.kind == 0) = true := by simp [c3]
          have C3 := hid c3
          clear c3
          by_cases c4 : u.name.size = 0
          · have q4 : u.name.toList.isEmpty = true := by rw [J.isEmpty_iff]; simp [c4]
            have r4 : (u.name.toList == ByteArray.toList ⟨#[]⟩) = true := by rw [size0 c4]; simp
            have C4 := hid c4
            clear c4
            by_cases c5 : u.steps = 0
            · have q5 : (u.steps == 0) = true := by simp [c5]
              have C5 := hid c5
              clear c5
              by_cases c6 : u.files = [] ∧ u.said = []
              · have q6 : ((u.files.length : Int) + (u.said.length : Int) == 0) = true := by rw [c6.1, c6.2]; rfl
                have C6 := hid c6
                clear c6
                go_enter Tryz.func42, Tryz.ntmps42
                go_upto_region 1 with fail
                clear hW0
                go_wp2
                go_ret
                exact ⟨says_t ⟨C0.out, C1.out, C2.out, C3.out, C4.out, C5.out, C6.out⟩, HB0.out.lo⟩
              · have q6 : ((u.files.length : Int) + (u.said.length : Int) == 0) = false := by rw [beq_eq_false_iff_ne]; intro h; exact c6 ⟨List.eq_nil_of_length_eq_zero (by omega), List.eq_nil_of_length_eq_zero (by omega)⟩
                have C6 := hid c6
                clear c6
                go_enter Tryz.func42, Tryz.ntmps42
                go_upto_region 1 with fail
                clear hW0
                go_wp2
                go_ret
                exact ⟨says_f fun h => C6.out h.2.2.2.2.2.2, HB0.out.lo⟩
            · have q5 : (u.steps == 0) = false := by simp [c5]
              have C5 := hid c5
              clear c5
              go_enter Tryz.func42, Tryz.ntmps42
              go_upto_region 1 with fail
              clear hW0
              go_wp2
              go_ret
              exact ⟨says_f fun h => C5.out h.2.2.2.2.2.1, HB0.out.lo⟩
          · have q4 : u.name.toList.isEmpty = false := by rw [J.isEmpty_iff]; simp [c4]
            have r4 : (u.name.toList == ByteArray.toList ⟨#[]⟩) = false := by rw [texts_eq]; simp; intro h; rw [h] at c4; exact c4 rfl
            have C4 := hid c4
            clear c4
            go_enter Tryz.func42, Tryz.ntmps42
            go_upto_region 1 with fail
            clear hW0
            go_wp2
            go_ret
            exact ⟨says_f fun h => C4.out h.2.2.2.2.1, HB0.out.lo⟩
        · have q3 : (u.kind == 0) = false := by simp [c3]
          have C3 := hid c3
          clear c3
          go_enter Tryz.func42, Tryz.ntmps42
          go_upto_region 1 with fail
          clear hW0
          go_wp2
          go_ret
          exact ⟨says_f fun h => C3.out h.2.2.2.1, HB0.out.lo⟩
      · have q2 : u.text.toList.isEmpty = false := by rw [J.isEmpty_iff]; simp [c2]
        have r2 : (u.text.toList == ByteArray.toList ⟨#[]⟩) = false := by rw [texts_eq]; simp; intro h; rw [h] at c2; exact c2 rfl
        have C2 := hid c2
        clear c2
        go_enter Tryz.func42, Tryz.ntmps42
        go_upto_region 1 with fail
        clear hW0
        go_wp2
        go_ret
        exact ⟨says_f fun h => C2.out h.2.2.1, HB0.out.lo⟩
    · have q1 : (u.code == 0) = false := by simp [c1]
      have C1 := hid c1
      clear c1
      go_enter Tryz.func42, Tryz.ntmps42
      go_upto_region 1 with fail
      clear hW0
      go_wp2
      go_ret
      exact ⟨says_f fun h => C1.out h.2.1, HB0.out.lo⟩
  · have q0 : (!u.over) = false := by simp at c0; simp [c0]
    have C0 := hid c0
    clear c0
    go_enter Tryz.func42, Tryz.ntmps42
    go_upto_region 1 with fail
    clear hW0
    go_wp2
    go_ret
    exact ⟨says_f fun h => C0.out h.1, HB0.out.lo⟩
set_option maxHeartbeats 4000000 in
theorem sameTarget_none (t : Tg) {v0 v1 : Value} (w : World) (ht : SmTg t) (k0 : SStrA w v0 t.ins) (k1 : SStrA w v1 t.outs) :
    Calls Tryz.prog 41 #[.agg #[.string t.name, .string t.tool, .string t.arg, v0, v1], .agg #[.string ⟨#[]⟩, .string ⟨#[]⟩, .string ⟨#[]⟩, .slice none 0 0, .slice none 0 0]] w fun e w' => Says e (TgNone t) ∧ Below w.heap.size w w' := by
  obtain ⟨_, _, _, hi, ho⟩ := ht
  have K0 := hid k0
  have K1 := hid k1
  obtain ⟨ad0, cp0, rfl⟩ := k0.sl
  obtain ⟨ad1, cp1, rfl⟩ := k1.sl
  clear k0 k1
  have HB0 := hid (B2.start w (.cells #[.string t.name, .string t.tool, .string t.arg, .slice ad0 t.ins.length cp0, .slice ad1 t.outs.length cp1] 35) (.cells #[.string ⟨#[]⟩, .string ⟨#[]⟩, .string ⟨#[]⟩, .slice none 0 0, .slice none 0 0] 35))
  obtain ⟨W0, hW0⟩ : ∃ W, (w.alloc (.cells #[.string t.name, .string t.tool, .string t.arg, .slice ad0 t.ins.length cp0, .slice ad1 t.outs.length cp1] 35)).alloc (.cells #[.string ⟨#[]⟩, .string ⟨#[]⟩, .string ⟨#[]⟩, .slice none 0 0, .slice none 0 0] 35) = W := ⟨_, rfl⟩
  rw [hW0] at HB0
  have HX0 := hid (Below.refl W0.heap.size W0)
  have a0 : W0.cell? ⟨w.heap.size, 0, none⟩ = some (.string t.name) := row_cell HB0.out.e 0
  have z0 : W0.cell? ⟨w.heap.size + 1, 0, none⟩ = some (.string ⟨#[]⟩) := row_cell HB0.out.f 0
  have a1 : W0.cell? ⟨w.heap.size, 1, none⟩ = some (.string t.tool) := row_cell HB0.out.e 1
  have z1 : W0.cell? ⟨w.heap.size + 1, 1, none⟩ = some (.string ⟨#[]⟩) := row_cell HB0.out.f 1
  have a2 : W0.cell? ⟨w.heap.size, 2, none⟩ = some (.string t.arg) := row_cell HB0.out.e 2
  have z2 : W0.cell? ⟨w.heap.size + 1, 2, none⟩ = some (.string ⟨#[]⟩) := row_cell HB0.out.f 2
  have a3 : W0.cell? ⟨w.heap.size, 3, none⟩ = some (.slice ad0 t.ins.length cp0) := row_cell HB0.out.e 3
  have z3 : W0.cell? ⟨w.heap.size + 1, 3, none⟩ = some (.slice none 0 0) := row_cell HB0.out.f 3
  have a4 : W0.cell? ⟨w.heap.size, 4, none⟩ = some (.slice ad1 t.outs.length cp1) := row_cell HB0.out.e 4
  have z4 : W0.cell? ⟨w.heap.size + 1, 4, none⟩ = some (.slice none 0 0) := row_cell HB0.out.f 4
  by_cases c0 : t.name.size = 0
  · have q0 : t.name.toList.isEmpty = true := by rw [J.isEmpty_iff]; simp [c0]
    have r0 : (t.name.toList == ByteArray.toList ⟨#[]⟩) = true := by rw [size0 c0]; simp
    have C0 := hid c0
    clear c0
    by_cases c1 : t.tool.size = 0
    · have q1 : t.tool.toList.isEmpty = true := by rw [J.isEmpty_iff]; simp [c1]
      have r1 : (t.tool.toList == ByteArray.toList ⟨#[]⟩) = true := by rw [size0 c1]; simp
      have C1 := hid c1
      clear c1
      by_cases c2 : t.arg.size = 0
      · have q2 : t.arg.toList.isEmpty = true := by rw [J.isEmpty_iff]; simp [c2]
        have r2 : (t.arg.toList == ByteArray.toList ⟨#[]⟩) = true := by rw [size0 c2]; simp
        have C2 := hid c2
        clear c2
        by_cases c3 : t.ins = []
        · have C3 := hid c3
          clear c3
          by_cases c4 : t.outs = []
          · have C4 := hid c4
            clear c4
            go_enter Tryz.func41, Tryz.ntmps41
            go_upto_region 1 with fail
            clear hW0
            go_wp2_with fail
            refine (sameTexts_none t.ins _ hi.1 (K0.out.next HB0.out.lo)).mono ?_
            rintro e W1 ⟨hs, hb⟩
            have hq := hs.pos C3.out
            obtain rfl := hq
            have HB1 := hid (HB0.out.next hb)
            clear hs hb a0 z0 a1 z1 a2 z2 a3 z3 a4 z4
            have b4 : W1.cell? ⟨w.heap.size, 4, none⟩ = some (.slice ad1 t.outs.length cp1) := row_cell HB1.out.e 4
            have y4 : W1.cell? ⟨w.heap.size + 1, 4, none⟩ = some (.slice none 0 0) := row_cell HB1.out.f 4
            go_wp2_with fail
            refine (sameTexts_none t.outs _ ho.1 (K1.out.next HB1.out.lo)).mono ?_
            rintro e W2 ⟨hs, hb⟩
            have hq := hs.pos C4.out
            obtain rfl := hq
            have HB2 := hid (HB1.out.next hb)
            clear hs hb
            go_wp2
            go_ret
            exact ⟨says_t ⟨C0.out, C1.out, C2.out, C3.out, C4.out⟩, HB2.out.lo⟩
          · have C4 := hid c4
            clear c4
            go_enter Tryz.func41, Tryz.ntmps41
            go_upto_region 1 with fail
            clear hW0
            go_wp2_with fail
            refine (sameTexts_none t.ins _ hi.1 (K0.out.next HB0.out.lo)).mono ?_
            rintro e W1 ⟨hs, hb⟩
            have hq := hs.pos C3.out
            obtain rfl := hq
            have HB1 := hid (HB0.out.next hb)
            clear hs hb a0 z0 a1 z1 a2 z2 a3 z3 a4 z4
            have b4 : W1.cell? ⟨w.heap.size, 4, none⟩ = some (.slice ad1 t.outs.length cp1) := row_cell HB1.out.e 4
            have y4 : W1.cell? ⟨w.heap.size + 1, 4, none⟩ = some (.slice none 0 0) := row_cell HB1.out.f 4
            go_wp2_with fail
            refine (sameTexts_none t.outs _ ho.1 (K1.out.next HB1.out.lo)).mono ?_
            rintro e W2 ⟨hs, hb⟩
            have hq := hs.neg C4.out
            obtain rfl := hq
            have HB2 := hid (HB1.out.next hb)
            clear hs hb
            go_wp2
            go_ret
            exact ⟨says_f fun h => C4.out h.2.2.2.2, HB2.out.lo⟩
        · have C3 := hid c3
          clear c3
          go_enter Tryz.func41, Tryz.ntmps41
          go_upto_region 1 with fail
          clear hW0
          go_wp2_with fail
          refine (sameTexts_none t.ins _ hi.1 (K0.out.next HB0.out.lo)).mono ?_
          rintro e W1 ⟨hs, hb⟩
          have hq := hs.neg C3.out
          obtain rfl := hq
          have HB1 := hid (HB0.out.next hb)
          clear hs hb a0 z0 a1 z1 a2 z2 a3 z3 a4 z4
          go_wp2
          go_ret
          exact ⟨says_f fun h => C3.out h.2.2.2.1, HB1.out.lo⟩
      · have q2 : t.arg.toList.isEmpty = false := by rw [J.isEmpty_iff]; simp [c2]
        have r2 : (t.arg.toList == ByteArray.toList ⟨#[]⟩) = false := by rw [texts_eq]; simp; intro h; rw [h] at c2; exact c2 rfl
        have C2 := hid c2
        clear c2
        go_enter Tryz.func41, Tryz.ntmps41
        go_upto_region 1 with fail
        clear hW0
        go_wp2
        go_ret
        exact ⟨says_f fun h => C2.out h.2.2.1, HB0.out.lo⟩
    · have q1 : t.tool.toList.isEmpty = false := by rw [J.isEmpty_iff]; simp [c1]
      have r1 : (t.tool.toList == ByteArray.toList ⟨#[]⟩) = false := by rw [texts_eq]; simp; intro h; rw [h] at c1; exact c1 rfl
      have C1 := hid c1
      clear c1
      go_enter Tryz.func41, Tryz.ntmps41
      go_upto_region 1 with fail
      clear hW0
      go_wp2
      go_ret
      exact ⟨says_f fun h => C1.out h.2.1, HB0.out.lo⟩
  · have q0 : t.name.toList.isEmpty = false := by rw [J.isEmpty_iff]; simp [c0]
    have r0 : (t.name.toList == ByteArray.toList ⟨#[]⟩) = false := by rw [texts_eq]; simp; intro h; rw [h] at c0; exact c0 rfl
    have C0 := hid c0
    clear c0
    go_enter Tryz.func41, Tryz.ntmps41
    go_upto_region 1 with fail
    clear hW0
    go_wp2
    go_ret
    exact ⟨says_f fun h => C0.out h.1, HB0.out.lo⟩
end Go.Proofs.YtlopcjhipajdcaaGreatDoor.Y
/-! Looks by the program: whether one could be made, whether a row holds one that could not. -/
namespace Go.Proofs.YtlopcjhipajdcaaGreatDoor.Y
open Go.RowKit R
open Go.Proofs.YtlopcjhipajdcaaGreatDoor.J (FileOk BegOk RepOk ltB Says says_t says_f implBeg_any implFile_any implReply_any)
set_option maxRecDepth 20000
set_option maxHeartbeats 1000000 in
theorem mayLook_any (k : Int) (s : ByteArray) (w : World) (hs : s.size ≤ 1048576) :
    Calls Tryz.prog 167 #[.int .i64 k, .string s] w fun e w' => Says e (FileOk s ∨ k = 3 ∧ BegOk s) ∧ Below w.heap.size w w' := by
  have HF := hid (fun W => implFile_any s W hs)
  have HG := hid (fun W => implBeg_any s W hs)
  by_cases hf : FileOk s
  · have H := hid hf
    clear hf
    go_enter Tryz.func167, Tryz.ntmps167
    go_wp2_with fail
    refine (HF.out _).mono ?_
    rintro e W1 ⟨hs1, hb1⟩
    have hq := hs1.pos H.out
    obtain rfl := hq
    have HB := hid hb1
    clear hs1 hb1
    go_wp2
    go_ret
    exact ⟨says_t (.inl H.out), HB.out⟩
  · have H := hid hf
    clear hf
    by_cases hk : k = 3
    · have q : (k == 3) = true := by simp [hk]
      have HK := hid hk
      clear hk
      go_enter Tryz.func167, Tryz.ntmps167
      go_wp2_with fail
      refine (HF.out _).mono ?_
      rintro e W1 ⟨hs1, hb1⟩
      have hq := hs1.neg H.out
      obtain rfl := hq
      have HB := hid hb1
      clear hs1 hb1
      go_wp2_with fail
      refine (HG.out _).mono ?_
      rintro e W2 ⟨⟨b, rfl, hq⟩, hb2⟩
      have HB2 := hid (HB.out.trans (hb2.mono HB.out.size))
      have HQ := hid hq
      clear hq hb2
      go_wp2
      go_ret
      exact ⟨⟨b, rfl, HQ.out.trans ⟨fun h => .inr ⟨HK.out, h⟩, fun h => h.elim (fun h => absurd h H.out) (·.2)⟩⟩, HB2.out⟩
    · have q : (k == 3) = false := by simp [hk]
      have HK := hid hk
      clear hk
      go_enter Tryz.func167, Tryz.ntmps167
      go_wp2_with fail
      refine (HF.out _).mono ?_
      rintro e W1 ⟨hs1, hb1⟩
      have hq := hs1.neg H.out
      obtain rfl := hq
      have HB := hid hb1
      clear hs1 hb1
      go_wp2
      go_ret
      exact ⟨says_f fun h => h.elim H.out fun h => HK.out h.1, HB.out⟩
set_option maxHeartbeats 1000000 in
theorem couldLook_any (k : Int) (s : ByteArray) (w : World) (hs : s.size ≤ 1048576) :
    Calls Tryz.prog 140 #[.int .i64 k, .string s] w fun e w' => Says e (LookOk k s) ∧ Below w.heap.size w w' := by
  have HF := hid (fun W => mayLook_any k s W hs)
  by_cases hk : 1 ≤ k ∧ k ≤ 3
  · have H := hid hk
    clear hk
    go_enter Tryz.func140, Tryz.ntmps140
    go_wp2_with fail
    refine (within_any _ _ _ _).mono ?_
    rintro e W1 ⟨hs1, rfl⟩
    have hq := hs1.pos H.out
    obtain rfl := hq
    clear hs1
    go_wp2_with fail
    refine (HF.out _).mono ?_
    rintro e W2 ⟨⟨b, rfl, hq⟩, hb2⟩
    have HB2 := hid hb2
    have HQ := hid hq
    clear hq hb2
    go_wp2
    go_ret
    refine ⟨⟨b, rfl, HQ.out.trans ?_⟩, HB2.out⟩
    have := H.out
    unfold LookOk
    constructor
    · rintro (h | h)
      · by_cases h3 : k = 3
        · exact .inr ⟨h3, h.2⟩
        · exact .inl ⟨by omega, h⟩
      · exact .inr h
    · rintro (h | h)
      · exact .inl h.2
      · exact .inr h
  · have H := hid hk
    clear hk
    go_enter Tryz.func140, Tryz.ntmps140
    go_wp2_with fail
    refine (within_any _ _ _ _).mono ?_
    rintro e W1 ⟨hs1, rfl⟩
    have hq := hs1.neg H.out
    obtain rfl := hq
    clear hs1
    go_wp2
    go_ret
    exact ⟨says_f fun h => H.out (by rcases h with ⟨h | h, _⟩ | ⟨h, _⟩ <;> omega), Below.refl _ _⟩
theorem says_not {e : Ending} {b : Bool} {P : Prop} (he : e = .returned (.bool (!b))) (h : b = true ↔ P) : Says e (¬ P) := ⟨!b, he, by rw [← h]; simp⟩
set_option maxHeartbeats 1000000 in
/-- The reply of a look is none. -/
theorem badReply_any (x : Sn) (w : World) (hs : x.reply.text.size ≤ 1048576) :
    Calls Tryz.prog 164 #[.agg #[.int .i64 x.kind, .string x.name, .int .i64 x.reply.code, .string x.reply.text]] w fun e w' => Says e (¬ RepOk x.reply.code x.reply.text) ∧ Below w.heap.size w w' := by
  have HF := hid (fun W => implReply_any x.reply.code x.reply.text W hs)
  have HB0 := hid (B1.start w (.cells #[.int .i64 x.kind, .string x.name, .int .i64 x.reply.code, .string x.reply.text] 88))
  obtain ⟨W0, hW0⟩ : ∃ W, w.alloc (.cells #[.int .i64 x.kind, .string x.name, .int .i64 x.reply.code, .string x.reply.text] 88) = W := ⟨_, rfl⟩
  rw [hW0] at HB0
  go_enter Tryz.func164, Tryz.ntmps164
  go_upto_region 1 with fail
  clear hW0
  have a2 : W0.cell? ⟨w.heap.size, 2, none⟩ = some (.int .i64 x.reply.code) := row_cell HB0.out.e 2
  have a3 : W0.cell? ⟨w.heap.size, 3, none⟩ = some (.string x.reply.text) := row_cell HB0.out.e 3
  go_wp2_with fail
  refine (HF.out _).mono ?_
  rintro e W1 ⟨⟨b, rfl, hq⟩, hb⟩
  have HB1 := hid (HB0.out.next hb)
  have HQ := hid hq
  clear hb hq a2 a3
  go_wp2
  go_ret
  exact ⟨says_not rfl HQ.out, HB1.out.lo⟩
set_option maxHeartbeats 1000000 in
/-- A look could not be made. -/
theorem badLook_any (x : Sn) (w : World) (hs : x.name.size ≤ 1048576) :
    Calls Tryz.prog 139 #[.agg #[.int .i64 x.kind, .string x.name, .int .i64 x.reply.code, .string x.reply.text]] w fun e w' => Says e (¬ LookOk x.kind x.name) ∧ Below w.heap.size w w' := by
  have HF := hid (fun W => couldLook_any x.kind x.name W hs)
  have HB0 := hid (B1.start w (.cells #[.int .i64 x.kind, .string x.name, .int .i64 x.reply.code, .string x.reply.text] 88))
  obtain ⟨W0, hW0⟩ : ∃ W, w.alloc (.cells #[.int .i64 x.kind, .string x.name, .int .i64 x.reply.code, .string x.reply.text] 88) = W := ⟨_, rfl⟩
  rw [hW0] at HB0
  go_enter Tryz.func139, Tryz.ntmps139
  go_upto_region 1 with fail
  clear hW0
  have a0 : W0.cell? ⟨w.heap.size, 0, none⟩ = some (.int .i64 x.kind) := row_cell HB0.out.e 0
  have a1 : W0.cell? ⟨w.heap.size, 1, none⟩ = some (.string x.name) := row_cell HB0.out.e 1
  go_wp2_with fail
  refine (HF.out _).mono ?_
  rintro e W1 ⟨⟨b, rfl, hq⟩, hb⟩
  have HB1 := hid (HB0.out.next hb)
  have HQ := hid hq
  clear hb hq a0 a1
  go_wp2
  go_ret
  exact ⟨says_not rfl HQ.out, HB1.out.lo⟩
def IxEnd (n : Nat) (P : Nat → Prop) (w : World) (e : Ending) (w' : World) : Prop := ∃ r : Int, e = .returned (.int .i64 r) ∧ (0 ≤ r ↔ ∃ j, j < n ∧ P j) ∧ Below w.heap.size w w'
set_option maxHeartbeats 2000000 in
theorem idxReply_any (P : Sn → Prop) (l : List Sn) {v : Value} (w : World) (hl : l.length ≤ 1048576) (k0 : SSnA w v l)
    (hF : ∀ j, j < l.length → ∀ W, Calls Tryz.prog 164 #[.agg #[.int .i64 (l.getD j sn0).kind, .string (l.getD j sn0).name, .int .i64 (l.getD j sn0).reply.code, .string (l.getD j sn0).reply.text]] W fun e w' => Says e (P (l.getD j sn0)) ∧ Below W.heap.size W w') :
    Calls Tryz.prog 166 #[v, .func (.func 164) #[] #[]] w (IxEnd l.length (fun j => P (l.getD j sn0)) w) := by
  have K0 := hid k0
  have HF := hid hF
  obtain ⟨ad, cp, rfl⟩ := k0.sl
  clear k0 hF
  go_enter Tryz.func166, Tryz.ntmps166
  go_wp2_with fail
  go_loopw [8] (fun i wr => ∃ j : Nat, j ≤ l.length ∧ i = .int .i64 j ∧ Below w.heap.size w wr ∧ ∀ p, p < j → ¬ P (l.getD p sn0)) (fun i _ => l.length - (intOf i).toNat)
  case atStart => exact ⟨0, Nat.zero_le _, rfl, Below.refl _ _, fun p hp => absurd hp (Nat.not_lt_zero _)⟩
  case round =>
    obtain ⟨j, hj, rfl, hlo, hall⟩ := hrel
    have HLO := hid hlo
    have HALL := hid hall
    clear hlo hall
    by_cases hlt : j < l.length
    · have hlti : (j : Int) < (l.length : Int) := by omega
      obtain ⟨a, c, e9, hal, c0, c1, c2, c3⟩ := (K0.out.next HLO.out).at hlt
      injection e9 with ea en ec
      subst ea ec
      clear en
      have HX := hid (HF.out j hlt)
      have NO : Hid (¬ P (l.getD j sn0) → ∀ p, p < j + 1 → ¬ P (l.getD p sn0)) := hid fun h p hp => by
        by_cases e : p = j
        · subst e; exact h
        · exact HALL.out p (by omega)
      have YE : Hid (P (l.getD j sn0) → ∃ p, p < l.length ∧ P (l.getD p sn0)) := hid fun h => ⟨j, hlt, h⟩
      obtain ⟨x, hx⟩ : ∃ x, l.getD j sn0 = x := ⟨_, rfl⟩
      rw [hx] at c0 c1 c2 c3 HX NO YE
      clear hx
      go_wp2_with fail
      refine (HX.out _).mono ?_
      rintro e W2 ⟨hs, hb⟩
      have HB := hid (HLO.out.trans (hb.mono HLO.out.size))
      clear hb c0 c1 c2 c3
      by_cases hP : P x
      · have hq := hs.pos hP
        obtain rfl := hq
        have N2 := hid (YE.out hP)
        clear hs hP
        go_wp2
        go_ret
        exact ⟨j, rfl, ⟨fun _ => N2.out, fun _ => by omega⟩, HB.out⟩
      · have hq := hs.neg hP
        obtain rfl := hq
        have N2 := hid (NO.out hP)
        clear hs hP
        go_wp2
        go_roundw
        case rel => exact ⟨j + 1, by omega, by go_num, HB.out, N2.out⟩
        case measure => simp [intOf]; omega
    · obtain rfl : j = l.length := by omega
      have hge : ¬ ((l.length : Int) < (l.length : Int)) := by omega
      go_wp2_with fail
      go_ret
      exact ⟨-1, rfl, ⟨fun h => absurd h (by omega), fun ⟨j, h1, h2⟩ => absurd h2 (HALL.out j h1)⟩, HLO.out⟩
set_option maxHeartbeats 2000000 in
theorem hasReply_any (P : Sn → Prop) (l : List Sn) {v : Value} (w : World) (hl : l.length ≤ 1048576) (k0 : SSnA w v l)
    (hF : ∀ j, j < l.length → ∀ W, Calls Tryz.prog 164 #[.agg #[.int .i64 (l.getD j sn0).kind, .string (l.getD j sn0).name, .int .i64 (l.getD j sn0).reply.code, .string (l.getD j sn0).reply.text]] W fun e w' => Says e (P (l.getD j sn0)) ∧ Below W.heap.size W w') :
    Calls Tryz.prog 138 #[v, .func (.func 164) #[] #[]] w fun e w' => Says e (∃ j, j < l.length ∧ P (l.getD j sn0)) ∧ Below w.heap.size w w' := by
  have H := hid (idxReply_any P l w hl k0 hF)
  obtain ⟨ad, cp, rfl⟩ := k0.sl
  clear k0 hF
  go_enter Tryz.func138, Tryz.ntmps138
  go_wp2_with fail
  refine H.out.mono ?_
  rintro e w' ⟨r, rfl, hr, hb⟩
  have HR := hid hr
  have HB := hid hb
  clear hr hb
  go_wp2
  go_ret
  exact ⟨⟨_, rfl, by rw [← HR.out]; simp⟩, HB.out⟩
set_option maxHeartbeats 2000000 in
theorem idxLook_any (P : Sn → Prop) (l : List Sn) {v : Value} (w : World) (hl : l.length ≤ 1048576) (k0 : SSnA w v l)
    (hF : ∀ j, j < l.length → ∀ W, Calls Tryz.prog 139 #[.agg #[.int .i64 (l.getD j sn0).kind, .string (l.getD j sn0).name, .int .i64 (l.getD j sn0).reply.code, .string (l.getD j sn0).reply.text]] W fun e w' => Says e (P (l.getD j sn0)) ∧ Below W.heap.size W w') :
    Calls Tryz.prog 166 #[v, .func (.func 139) #[] #[]] w (IxEnd l.length (fun j => P (l.getD j sn0)) w) := by
  have K0 := hid k0
  have HF := hid hF
  obtain ⟨ad, cp, rfl⟩ := k0.sl
  clear k0 hF
  go_enter Tryz.func166, Tryz.ntmps166
  go_wp2_with fail
  go_loopw [8] (fun i wr => ∃ j : Nat, j ≤ l.length ∧ i = .int .i64 j ∧ Below w.heap.size w wr ∧ ∀ p, p < j → ¬ P (l.getD p sn0)) (fun i _ => l.length - (intOf i).toNat)
  case atStart => exact ⟨0, Nat.zero_le _, rfl, Below.refl _ _, fun p hp => absurd hp (Nat.not_lt_zero _)⟩
  case round =>
    obtain ⟨j, hj, rfl, hlo, hall⟩ := hrel
    have HLO := hid hlo
    have HALL := hid hall
    clear hlo hall
    by_cases hlt : j < l.length
    · have hlti : (j : Int) < (l.length : Int) := by omega
      obtain ⟨a, c, e9, hal, c0, c1, c2, c3⟩ := (K0.out.next HLO.out).at hlt
      injection e9 with ea en ec
      subst ea ec
      clear en
      have HX := hid (HF.out j hlt)
      have NO : Hid (¬ P (l.getD j sn0) → ∀ p, p < j + 1 → ¬ P (l.getD p sn0)) := hid fun h p hp => by
        by_cases e : p = j
        · subst e; exact h
        · exact HALL.out p (by omega)
      have YE : Hid (P (l.getD j sn0) → ∃ p, p < l.length ∧ P (l.getD p sn0)) := hid fun h => ⟨j, hlt, h⟩
      obtain ⟨x, hx⟩ : ∃ x, l.getD j sn0 = x := ⟨_, rfl⟩
      rw [hx] at c0 c1 c2 c3 HX NO YE
      clear hx
      go_wp2_with fail
      refine (HX.out _).mono ?_
      rintro e W2 ⟨hs, hb⟩
      have HB := hid (HLO.out.trans (hb.mono HLO.out.size))
      clear hb c0 c1 c2 c3
      by_cases hP : P x
      · have hq := hs.pos hP
        obtain rfl := hq
        have N2 := hid (YE.out hP)
        clear hs hP
        go_wp2
        go_ret
        exact ⟨j, rfl, ⟨fun _ => N2.out, fun _ => by omega⟩, HB.out⟩
      · have hq := hs.neg hP
        obtain rfl := hq
        have N2 := hid (NO.out hP)
        clear hs hP
        go_wp2
        go_roundw
        case rel => exact ⟨j + 1, by omega, by go_num, HB.out, N2.out⟩
        case measure => simp [intOf]; omega
    · obtain rfl : j = l.length := by omega
      have hge : ¬ ((l.length : Int) < (l.length : Int)) := by omega
      go_wp2_with fail
      go_ret
      exact ⟨-1, rfl, ⟨fun h => absurd h (by omega), fun ⟨j, h1, h2⟩ => absurd h2 (HALL.out j h1)⟩, HLO.out⟩
set_option maxHeartbeats 2000000 in
theorem hasLook_any (P : Sn → Prop) (l : List Sn) {v : Value} (w : World) (hl : l.length ≤ 1048576) (k0 : SSnA w v l)
    (hF : ∀ j, j < l.length → ∀ W, Calls Tryz.prog 139 #[.agg #[.int .i64 (l.getD j sn0).kind, .string (l.getD j sn0).name, .int .i64 (l.getD j sn0).reply.code, .string (l.getD j sn0).reply.text]] W fun e w' => Says e (P (l.getD j sn0)) ∧ Below W.heap.size W w') :
    Calls Tryz.prog 138 #[v, .func (.func 139) #[] #[]] w fun e w' => Says e (∃ j, j < l.length ∧ P (l.getD j sn0)) ∧ Below w.heap.size w w' := by
  have H := hid (idxLook_any P l w hl k0 hF)
  obtain ⟨ad, cp, rfl⟩ := k0.sl
  clear k0 hF
  go_enter Tryz.func138, Tryz.ntmps138
  go_wp2_with fail
  refine H.out.mono ?_
  rintro e w' ⟨r, rfl, hr, hb⟩
  have HR := hid hr
  have HB := hid hb
  clear hr hb
  go_wp2
  go_ret
  exact ⟨⟨_, rfl, by rw [← HR.out]; simp⟩, HB.out⟩
end Go.Proofs.YtlopcjhipajdcaaGreatDoor.Y
