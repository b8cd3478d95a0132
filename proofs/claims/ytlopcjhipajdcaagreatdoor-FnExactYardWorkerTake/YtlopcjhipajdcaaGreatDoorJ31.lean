import Derived.Deep.DeepCutAuto
import Derived.Test.YtlopcjhipajdcaaGreatDoorJ13
import Derived.Test.YtlopcjhipajdcaaGreatDoorJ03
/-! What could be one of orders, and looks of its run, by the model. Printed by gen_ytg.py. -/
namespace Go.Proofs.YtlopcjhipajdcaaGreatDoor.Y
open Go.RowKit R
open Go.Proofs.YtlopcjhipajdcaaGreatDoor.J (FileOk BegOk RepOk ltB Says says_t says_f l15Path_any l15Prefix_any specReply_any all_step)
set_option maxRecDepth 20000
set_option maxHeartbeats 8000000 in
theorem targetOk_any (t : Tg) {v0 v1 : Value} (w : World) (ht : SmTg t) (k0 : SStrA w v0 t.ins) (k1 : SStrA w v1 t.outs) :
    Calls Tryz.prog 45 #[.agg #[.string t.name, .string t.tool, .string t.arg, v0, v1]] w fun e w' => Says e (TgOk t) ∧ Below w.heap.size w w' := by
  have HT := hid ht
  obtain ⟨_, _, _, ⟨hi, _⟩, ho, _⟩ := ht
  have K0 := hid k0
  have K1 := hid k1
  obtain ⟨ad0, cp0, rfl⟩ := k0.sl
  obtain ⟨ad1, cp1, rfl⟩ := k1.sl
  clear k0 k1
  have HB0 := hid (B1.start w (.cells #[.string t.name, .string t.tool, .string t.arg, .slice ad0 t.ins.length cp0, .slice ad1 t.outs.length cp1] 35))
  obtain ⟨W0, hW0⟩ : ∃ W, w.alloc (.cells #[.string t.name, .string t.tool, .string t.arg, .slice ad0 t.ins.length cp0, .slice ad1 t.outs.length cp1] 35) = W := ⟨_, rfl⟩
  rw [hW0] at HB0
  have a0 : W0.cell? ⟨w.heap.size, 0, none⟩ = some (.string t.name) := row_cell HB0.out.e 0
  have a1 : W0.cell? ⟨w.heap.size, 1, none⟩ = some (.string t.tool) := row_cell HB0.out.e 1
  have a2 : W0.cell? ⟨w.heap.size, 2, none⟩ = some (.string t.arg) := row_cell HB0.out.e 2
  have a3 : W0.cell? ⟨w.heap.size, 3, none⟩ = some (.slice ad0 t.ins.length cp0) := row_cell HB0.out.e 3
  have a4 : W0.cell? ⟨w.heap.size, 4, none⟩ = some (.slice ad1 t.outs.length cp1) := row_cell HB0.out.e 4
  go_enter Tryz.func45, Tryz.ntmps45
  go_upto_region 1 with fail
  clear hW0
  go_wp2_with fail
  refine (l20Fits_any t _ HT.out (K0.out.next HB0.out.lo) (K1.out.next HB0.out.lo)).mono ?_
  rintro e W1 ⟨hs, hb⟩
  have HB1 := hid (HB0.out.next hb)
  clear hb a0 a1 a2 a3 a4
  have a3 : W1.cell? ⟨w.heap.size, 3, none⟩ = some (.slice ad0 t.ins.length cp0) := row_cell HB1.out.e 3
  have a4 : W1.cell? ⟨w.heap.size, 4, none⟩ = some (.slice ad1 t.outs.length cp1) := row_cell HB1.out.e 4
  by_cases cF : ¬ FitsOk t
  · have CF := hid cF
    have hq := hs.neg cF
    obtain rfl := hq
    clear hs cF
    go_wp2
    go_ret
    exact ⟨says_f fun h => CF.out ⟨⟨h.1, h.2.1, h.2.2.1, h.2.2.2.1⟩, h.2.2.2.2.1, h.2.2.2.2.2.1⟩, HB1.out.lo⟩
  have CF := hid (Classical.not_not.1 cF)
  have hq := hs.pos CF.out
  obtain rfl := hq
  clear hs cF
  by_cases c1 : ¬ t.ins.length ≤ 200
  · go_wp2
    go_ret
    exact ⟨says_f fun h => c1 h.2.2.2.2.2.2.1, HB1.out.lo⟩
  have c1 := Classical.not_not.1 c1
  by_cases c2 : t.outs.length = 0
  · have q2 : ((t.outs.length : Int) == 0) = true := by simp [c2]
    have C2 := hid c2
    clear c2
    go_wp2
    go_ret
    exact ⟨says_f fun h => h.2.2.2.2.2.2.2.1 C2.out, HB1.out.lo⟩
  have q2 : ((t.outs.length : Int) == 0) = false := by rw [beq_eq_false_iff_ne]; omega
  go_wp2
  clear a3 a4
  go_loopw [3] (fun i wr => ∃ j : Nat, 1 ≤ j ∧ (j ≤ t.ins.length ∨ j = 1) ∧ i = .int .i64 j ∧ (∀ i, i + 1 < j → ltB (t.ins.getD i ⟨#[]⟩) (t.ins.getD (i + 1) ⟨#[]⟩) = true) ∧ B1 w (.cells #[.string t.name, .string t.tool, .string t.arg, .slice ad0 t.ins.length cp0, .slice ad1 t.outs.length cp1] 35) wr) (fun i _ => t.ins.length - (intOf i).toNat)
  case atStart => exact ⟨1, Nat.le_refl _, .inr rfl, rfl, fun i h => absurd h (by omega), HB1.out⟩
  case round =>
    obtain ⟨j, h1, hj, rfl, hr, hbw⟩ := hrel
    have HBW := hid hbw
    have HR := hid hr
    clear hr hbw
    have a3 : wr.cell? ⟨w.heap.size, 3, none⟩ = some (.slice ad0 t.ins.length cp0) := row_cell HBW.out.e 3
    by_cases hlt : j < t.ins.length
    · obtain ⟨p, rfl⟩ : ∃ p, j = p + 1 := ⟨j - 1, by omega⟩
      obtain ⟨a, c, e9, hal, c0⟩ := (K0.out.next HBW.out.lo).at (show p < t.ins.length by omega)
      injection e9 with ea en ec
      subst ea ec
      obtain ⟨b, d, e8, hbl, d0⟩ := (K0.out.next HBW.out.lo).at hlt
      injection e8 with eb en2 ed
      injection eb with eb2
      subst eb2
      clear en en2 ed
      have NX : Hid (Go.Op.bytesLess (t.ins.getD p ⟨#[]⟩).toList (t.ins.getD (p + 1) ⟨#[]⟩).toList = true → ∀ i, i + 1 < p + 1 + 1 → ltB (t.ins.getD i ⟨#[]⟩) (t.ins.getD (i + 1) ⟨#[]⟩) = true) := fun h i hi => by
        by_cases hip : i = p
        · subst hip; exact h
        · exact HR.out i (by omega)
      have NO : Hid (Go.Op.bytesLess (t.ins.getD p ⟨#[]⟩).toList (t.ins.getD (p + 1) ⟨#[]⟩).toList = false → ¬ TgOk t) := fun h h2 => by
        have h3 := h2.2.2.2.2.2.2.2.2.1 p hlt
        unfold ltB at h3
        rw [h] at h3
        cases h3
      obtain ⟨x, hx⟩ : ∃ x, t.ins.getD p ⟨#[]⟩ = x := ⟨_, rfl⟩
      obtain ⟨y, hy⟩ : ∃ y, t.ins.getD (p + 1) ⟨#[]⟩ = y := ⟨_, rfl⟩
      rw [hx] at c0 NX NO
      rw [hy] at d0 NX NO
      clear hx hy
      unfold StrA at c0 d0
      have d1 : wr.cell? ⟨a.block, a.off + (p + 1), none⟩ = some (.string y) := by rw [← add_one a (p + 1) (by omega)]; exact d0
      have hp1 : p < t.ins.length := by omega
      have hw1 : IntKind.i64.wrap (p : Int) = (p : Int) := by rw [IntKind.wrap_i64]; omega
      have hb1 : (p : Int) + 1 < (t.ins.length : Int) := by omega
      have hb2 : (0 : Int) ≤ (p : Int) + 1 := by omega
      have hb3 : ((p : Int) + 1).toNat = p + 1 := by omega
      cases hL : Go.Op.bytesLess x.toList y.toList
      · have N2 := hid (NO.out hL)
        go_wp2_with fail
        go_quiet (fail)
        go_wp2
        go_ret
        exact ⟨says_f N2.out, below_drewN HBW.out.lo nq⟩
      · have N2 := hid (NX.out hL)
        go_wp2_with fail
        go_quiet (fail)
        go_wp2
        go_roundw
        case rel => exact ⟨p + 1 + 1, by omega, by omega, by go_num, N2.out, HBW.out.next (below_drewN (Below.refl _ _) nq)⟩
        case measure => simp [intOf]; omega
    · have HUins : Hid (UpT t.ins) := fun i hi => HR.out i (by omega)
      go_wp2
      go_loopw [4] (fun i wr => ∃ j : Nat, 1 ≤ j ∧ (j ≤ t.outs.length ∨ j = 1) ∧ i = .int .i64 j ∧ (∀ i, i + 1 < j → ltB (t.outs.getD i ⟨#[]⟩) (t.outs.getD (i + 1) ⟨#[]⟩) = true) ∧ B1 w (.cells #[.string t.name, .string t.tool, .string t.arg, .slice ad0 t.ins.length cp0, .slice ad1 t.outs.length cp1] 35) wr) (fun i _ => t.outs.length - (intOf i).toNat)
      case atStart => exact ⟨1, Nat.le_refl _, .inr rfl, rfl, fun i h => absurd h (by omega), HBW.out⟩
      case round =>
        obtain ⟨j, h1, hj, rfl, hr, hbw⟩ := hrel
        have HBW := hid hbw
        have HR := hid hr
        clear hr hbw
        have a4 : wr.cell? ⟨w.heap.size, 4, none⟩ = some (.slice ad1 t.outs.length cp1) := row_cell HBW.out.e 4
        by_cases hlt : j < t.outs.length
        · obtain ⟨p, rfl⟩ : ∃ p, j = p + 1 := ⟨j - 1, by omega⟩
          obtain ⟨a, c, e9, hal, c0⟩ := (K1.out.next HBW.out.lo).at (show p < t.outs.length by omega)
          injection e9 with ea en ec
          subst ea ec
          obtain ⟨b, d, e8, hbl, d0⟩ := (K1.out.next HBW.out.lo).at hlt
          injection e8 with eb en2 ed
          injection eb with eb2
          subst eb2
          clear en en2 ed
          have NX : Hid (Go.Op.bytesLess (t.outs.getD p ⟨#[]⟩).toList (t.outs.getD (p + 1) ⟨#[]⟩).toList = true → ∀ i, i + 1 < p + 1 + 1 → ltB (t.outs.getD i ⟨#[]⟩) (t.outs.getD (i + 1) ⟨#[]⟩) = true) := fun h i hi => by
            by_cases hip : i = p
            · subst hip; exact h
            · exact HR.out i (by omega)
          have NO : Hid (Go.Op.bytesLess (t.outs.getD p ⟨#[]⟩).toList (t.outs.getD (p + 1) ⟨#[]⟩).toList = false → ¬ TgOk t) := fun h h2 => by
            have h3 := h2.2.2.2.2.2.2.2.2.2 p hlt
            unfold ltB at h3
            rw [h] at h3
            cases h3
          obtain ⟨x, hx⟩ : ∃ x, t.outs.getD p ⟨#[]⟩ = x := ⟨_, rfl⟩
          obtain ⟨y, hy⟩ : ∃ y, t.outs.getD (p + 1) ⟨#[]⟩ = y := ⟨_, rfl⟩
          rw [hx] at c0 NX NO
          rw [hy] at d0 NX NO
          clear hx hy
          unfold StrA at c0 d0
          have d1 : wr.cell? ⟨a.block, a.off + (p + 1), none⟩ = some (.string y) := by rw [← add_one a (p + 1) (by omega)]; exact d0
          have hp1 : p < t.outs.length := by omega
          have hw1 : IntKind.i64.wrap (p : Int) = (p : Int) := by rw [IntKind.wrap_i64]; omega
          have hb1 : (p : Int) + 1 < (t.outs.length : Int) := by omega
          have hb2 : (0 : Int) ≤ (p : Int) + 1 := by omega
          have hb3 : ((p : Int) + 1).toNat = p + 1 := by omega
          cases hL : Go.Op.bytesLess x.toList y.toList
          · have N2 := hid (NO.out hL)
            go_wp2_with fail
            go_quiet (fail)
            go_wp2
            go_ret
            exact ⟨says_f N2.out, below_drewN HBW.out.lo nq⟩
          · have N2 := hid (NX.out hL)
            go_wp2_with fail
            go_quiet (fail)
            go_wp2
            go_roundw
            case rel => exact ⟨p + 1 + 1, by omega, by omega, by go_num, N2.out, HBW.out.next (below_drewN (Below.refl _ _) nq)⟩
            case measure => simp [intOf]; omega
        · have HUouts : Hid (UpT t.outs) := fun i hi => HR.out i (by omega)
          go_wp2
          go_ret
          exact ⟨says_t ⟨CF.out.1.1, CF.out.1.2.1, CF.out.1.2.2.1, CF.out.1.2.2.2, CF.out.2.1, CF.out.2.2, by omega, by omega, HUins.out, HUouts.out⟩, HBW.out.lo⟩
theorem sn_3 {x : Sn} (h : x.kind = 3) (hr : RepOk x.reply.code x.reply.text) : BegOk x.name ↔ SnOk x :=
  ⟨fun k => ⟨.inr ⟨h, k⟩, hr⟩, fun k => by
    rcases k.1 with ⟨h1, _⟩ | h1
    · omega
    · exact h1.2⟩
theorem sn_12 {x : Sn} (h : x.kind = 1 ∨ x.kind = 2) (hr : RepOk x.reply.code x.reply.text) : FileOk x.name ↔ SnOk x :=
  ⟨fun k => ⟨.inl ⟨h, k⟩, hr⟩, fun k => by
    rcases k.1 with h1 | ⟨h1, _⟩
    · exact h1.2
    · omega⟩
set_option maxHeartbeats 4000000 in
theorem seenOk_any (x : Sn) (w : World) (hn : x.name.size ≤ 1048576) (ht : x.reply.text.size ≤ 1048576) :
    Calls Tryz.prog 79 #[.agg #[.int .i64 x.kind, .string x.name, .int .i64 x.reply.code, .string x.reply.text]] w fun e w' => Says e (SnOk x) ∧ Below w.heap.size w w' := by
  have hn2 : x.name.size ≤ maxLen := by unfold maxLen; omega
  have HB0 := hid (B1.start w (.cells #[.int .i64 x.kind, .string x.name, .int .i64 x.reply.code, .string x.reply.text] 88))
  obtain ⟨W0, hW0⟩ : ∃ W, w.alloc (.cells #[.int .i64 x.kind, .string x.name, .int .i64 x.reply.code, .string x.reply.text] 88) = W := ⟨_, rfl⟩
  rw [hW0] at HB0
  have a2 : W0.cell? ⟨w.heap.size, 2, none⟩ = some (.int .i64 x.reply.code) := row_cell HB0.out.e 2
  have a3 : W0.cell? ⟨w.heap.size, 3, none⟩ = some (.string x.reply.text) := row_cell HB0.out.e 3
  go_enter Tryz.func79, Tryz.ntmps79
  go_upto_region 1 with fail
  clear hW0
  go_wp2_with fail
  refine (specReply_any x.reply.code x.reply.text _ ht).mono ?_
  rintro e W1 ⟨hs, hb⟩
  have HB1 := hid (HB0.out.next hb)
  clear hb a2 a3
  by_cases cR : ¬ RepOk x.reply.code x.reply.text
  · have CR := hid cR
    have hq := hs.neg cR
    obtain rfl := hq
    clear hs cR
    go_wp2
    go_ret
    exact ⟨says_f fun h => CR.out h.2, HB1.out.lo⟩
  have CR := hid (Classical.not_not.1 cR)
  have hq := hs.pos CR.out
  obtain rfl := hq
  clear hs cR
  have a0 : W1.cell? ⟨w.heap.size, 0, none⟩ = some (.int .i64 x.kind) := row_cell HB1.out.e 0
  have a1 : W1.cell? ⟨w.heap.size, 1, none⟩ = some (.string x.name) := row_cell HB1.out.e 1
  by_cases k3 : x.kind = 3
  · have q3 : (x.kind == 3) = true := by simp [k3]
    have C3 := hid k3
    clear k3
    go_wp2_with fail
    refine (l15Prefix_any x.name _ hn2).mono ?_
    rintro e W2 ⟨⟨b, rfl, hb⟩, rfl⟩
    have HS := hid hb
    clear hb
    go_wp2
    go_ret
    exact ⟨⟨b, rfl, HS.out.trans (sn_3 C3.out CR.out)⟩, HB1.out.lo⟩
  have q3 : (x.kind == 3) = false := by simp [k3]
  by_cases k1 : x.kind = 1
  · have q1 : (x.kind == 1) = true := by simp [k1]
    have C1 := hid k1
    clear k1 k3
    go_wp2_with fail
    refine (l15Path_any x.name _ hn2).mono ?_
    rintro e W2 ⟨⟨b, rfl, hb⟩, rfl⟩
    have HS := hid hb
    clear hb
    go_wp2
    go_ret
    exact ⟨⟨b, rfl, HS.out.trans (sn_12 (.inl C1.out) CR.out)⟩, HB1.out.lo⟩
  have q1 : (x.kind == 1) = false := by simp [k1]
  by_cases k2 : x.kind = 2
  · have q2 : (x.kind == 2) = true := by simp [k2]
    have C2 := hid k2
    clear k1 k2 k3
    go_wp2_with fail
    refine (l15Path_any x.name _ hn2).mono ?_
    rintro e W2 ⟨⟨b, rfl, hb⟩, rfl⟩
    have HS := hid hb
    clear hb
    go_wp2
    go_ret
    exact ⟨⟨b, rfl, HS.out.trans (sn_12 (.inr C2.out) CR.out)⟩, HB1.out.lo⟩
  have q2 : (x.kind == 2) = false := by simp [k2]
  have CN : Hid (¬ SnOk x) := fun h => by rcases h.1 with ⟨h1 | h1, _⟩ | ⟨h1, _⟩ <;> omega
  clear k1 k2 k3
  go_wp2
  go_ret
  exact ⟨says_f CN.out, HB1.out.lo⟩
set_option maxHeartbeats 4000000 in
theorem seens_any (t : Tg) (l : List Sn) {v0 v1 v2 : Value} (w : World) (ht : SmTg t) (hl : SmSn l) (k0 : SStrA w v0 t.ins) (k2 : SSnA w v2 l) :
    Calls Tryz.prog 46 #[.agg #[.string t.name, .string t.tool, .string t.arg, v0, v1], v2] w fun e w' => Says e (SnsOk t.ins.length l) ∧ Below w.heap.size w w' := by
  obtain ⟨_, _, _, ⟨hi, _⟩, _⟩ := ht
  obtain ⟨hl1, hl2⟩ := hl
  have HL := hid hl2
  have K2 := hid k2
  obtain ⟨ad0, cp0, rfl⟩ := k0.sl
  obtain ⟨ad2, cp2, rfl⟩ := k2.sl
  clear k0 k2 hl2
  have HB0 := hid (B1.start w (.cells #[.string t.name, .string t.tool, .string t.arg, .slice ad0 t.ins.length cp0, v1] 35))
  obtain ⟨W0, hW0⟩ : ∃ W, w.alloc (.cells #[.string t.name, .string t.tool, .string t.arg, .slice ad0 t.ins.length cp0, v1] 35) = W := ⟨_, rfl⟩
  rw [hW0] at HB0
  have a3 : W0.cell? ⟨w.heap.size, 3, none⟩ = some (.slice ad0 t.ins.length cp0) := row_cell HB0.out.e 3
  go_enter Tryz.func46, Tryz.ntmps46
  go_upto_region 1 with fail
  clear hW0
  by_cases c1 : ¬ l.length ≤ t.ins.length + 101
  · go_wp2
    go_ret
    exact ⟨says_f fun h => c1 h.1, HB0.out.lo⟩
  have c1 := Classical.not_not.1 c1
  go_wp2
  go_loopw [5] (fun i wr => ∃ j : Nat, j ≤ l.length ∧ i = .int .i64 j ∧ (∀ i, i < j → SnOk (l.getD i sn0)) ∧ Below w.heap.size w wr) (fun i _ => l.length - (intOf i).toNat)
  case atStart => exact ⟨0, Nat.zero_le _, rfl, fun i h => absurd h (Nat.not_lt_zero _), HB0.out.lo⟩
  case round =>
    obtain ⟨j, hj, rfl, hr, hbw⟩ := hrel
    have HBW := hid hbw
    have HR := hid hr
    clear hr hbw a3
    by_cases hlt : j < l.length
    · obtain ⟨a, c, e9, hal, c0, c1, c2, c3⟩ := (K2.out.next HBW.out).at hlt
      injection e9 with ea en ec
      subst ea ec
      clear en
      obtain ⟨hsz1, hsz2⟩ := HL.out j hlt
      have NX : Hid (SnOk (l.getD j sn0) → ∀ i, i < j + 1 → SnOk (l.getD i sn0)) := fun h => all_step HR.out h
      have NO : Hid (¬ SnOk (l.getD j sn0) → ¬ SnsOk t.ins.length l) := fun h h2 => h (h2.2 j hlt)
      obtain ⟨x, hx⟩ : ∃ x, l.getD j sn0 = x := ⟨_, rfl⟩
      rw [hx] at c0 c1 c2 c3 hsz1 hsz2 NX NO
      clear hx
      go_wp2_with fail
      refine (seenOk_any x _ hsz1 hsz2).mono ?_
      rintro e W3 ⟨hs, hb⟩
      have HB3 := hid (HBW.out.trans (hb.mono HBW.out.size))
      clear hb c0 c1 c2 c3
      by_cases hP : SnOk x
      · have hq := hs.pos hP
        obtain rfl := hq
        have N2 := hid (NX.out hP)
        clear hs hP
        go_wp2
        go_roundw
        case rel => exact ⟨j + 1, by omega, by go_num, N2.out, HB3.out⟩
        case measure => simp [intOf]; omega
      · have hq := hs.neg hP
        obtain rfl := hq
        have N2 := hid (NO.out hP)
        clear hs hP
        go_wp2
        go_ret
        exact ⟨says_f N2.out, HB3.out⟩
    · obtain rfl : j = l.length := by omega
      go_wp2
      go_ret
      exact ⟨says_t ⟨c1, HR.out⟩, HBW.out⟩
end Go.Proofs.YtlopcjhipajdcaaGreatDoor.Y
/-! Sameness by the program: targets, turns. Printed by gen_ysame.py. -/
namespace Go.Proofs.YtlopcjhipajdcaaGreatDoor.Y
open Go.RowKit R
open Go.Proofs.YtlopcjhipajdcaaGreatDoor.J (FileOk BegOk RepOk ltB Says says_t says_f)
set_option maxRecDepth 20000
theorem same_below {f : Nat} {a : Array Value} {w : World} {Q : Prop} (h : Calls Tryz.prog f a w fun e w' => Says e Q ∧ w' = w) : Calls Tryz.prog f a w fun e w' => Says e Q ∧ Below w.heap.size w w' :=
  h.mono fun e w' ⟨h1, h2⟩ => ⟨h1, by rw [h2]; exact Below.refl _ _⟩
theorem says_true {f : Nat} {a : Array Value} {w : World} {R : World → Prop} (h : Calls Tryz.prog f a w fun e w' => e = .returned (.bool true) ∧ R w') : Calls Tryz.prog f a w fun e w' => Says e True ∧ R w' :=
  h.mono fun e w' ⟨h1, h2⟩ => ⟨by rw [h1]; exact says_t trivial, h2⟩
set_option maxHeartbeats 4000000 in
theorem houseSame_none (t : Tg) {v0 v1 : Value} (w : World) (ht : SmTg t) (k0 : SStrA w v0 t.ins) (k1 : SStrA w v1 t.outs) :
    Calls Tryz.prog 54 #[.agg #[.string t.name, .string t.tool, .string t.arg, v0, v1], .agg #[.string ⟨#[]⟩, .string ⟨#[]⟩, .string ⟨#[]⟩, .slice none 0 0, .slice none 0 0]] w fun e w' => Says e (TgNone t) ∧ Below w.heap.size w w' := by
  obtain ⟨_, _, _, hi, ho⟩ := ht
  have K0 := hid k0
  obtain ⟨ad0, cp0, rfl⟩ := k0.sl
  have K1 := hid k1
  obtain ⟨ad1, cp1, rfl⟩ := k1.sl
  clear k0 k1
  have HB0 := hid (B2.start w (.cells #[.string t.name, .string t.tool, .string t.arg, .slice ad0 t.ins.length cp0, .slice ad1 t.outs.length cp1] 35) (.cells #[.string ⟨#[]⟩, .string ⟨#[]⟩, .string ⟨#[]⟩, .slice none 0 0, .slice none 0 0] 35))
  obtain ⟨W0, hW0⟩ : ∃ W, (w.alloc (.cells #[.string t.name, .string t.tool, .string t.arg, .slice ad0 t.ins.length cp0, .slice ad1 t.outs.length cp1] 35)).alloc (.cells #[.string ⟨#[]⟩, .string ⟨#[]⟩, .string ⟨#[]⟩, .slice none 0 0, .slice none 0 0] 35) = W := ⟨_, rfl⟩
  rw [hW0] at HB0
  by_cases c0 : t.name.size = 0
  · have q0 : t.name.toList.isEmpty = true := by rw [J.isEmpty_iff]; simp [c0]
    have r0 : (t.name.toList == ByteArray.toList ⟨#[]⟩) = true := by rw [size0 c0]; simp
    have C0 := hid c0
    clear c0
    by_cases c1 : t.tool.size = 0
    · have q1 : t.tool.toList.isEmpty = true := by rw [J.isEmpty_iff]; simp [c1]
      have r1 : (t.tool.toList == ByteArray.toList ⟨#[]⟩) = true := by rw [size0 c1]; simp
      have C1 := hid c1
      clear c1
      by_cases c2 : t.arg.size = 0
      · have q2 : t.arg.toList.isEmpty = true := by rw [J.isEmpty_iff]; simp [c2]
        have r2 : (t.arg.toList == ByteArray.toList ⟨#[]⟩) = true := by rw [size0 c2]; simp
        have C2 := hid c2
        clear c2
        by_cases c3 : t.ins = []
        · have C3 := hid c3
          clear c3
          by_cases c4 : t.outs = []
          · have C4 := hid c4
            clear c4
            go_enter Tryz.func54, Tryz.ntmps54
            go_upto_region 1 with fail
            clear hW0
            have x0_0_0 : W0.cell? ⟨w.heap.size, 0, none⟩ = some (.string t.name) := row_cell HB0.out.e 0
            have x0_1_0 : W0.cell? ⟨w.heap.size + 1, 0, none⟩ = some (.string ⟨#[]⟩) := row_cell HB0.out.f 0
            have x0_0_1 : W0.cell? ⟨w.heap.size, 1, none⟩ = some (.string t.tool) := row_cell HB0.out.e 1
            have x0_1_1 : W0.cell? ⟨w.heap.size + 1, 1, none⟩ = some (.string ⟨#[]⟩) := row_cell HB0.out.f 1
            have x0_0_2 : W0.cell? ⟨w.heap.size, 2, none⟩ = some (.string t.arg) := row_cell HB0.out.e 2
            have x0_1_2 : W0.cell? ⟨w.heap.size + 1, 2, none⟩ = some (.string ⟨#[]⟩) := row_cell HB0.out.f 2
            have x0_0_3 : W0.cell? ⟨w.heap.size, 3, none⟩ = some (.slice ad0 t.ins.length cp0) := row_cell HB0.out.e 3
            have x0_1_3 : W0.cell? ⟨w.heap.size + 1, 3, none⟩ = some (.slice none 0 0) := row_cell HB0.out.f 3
            have x0_0_4 : W0.cell? ⟨w.heap.size, 4, none⟩ = some (.slice ad1 t.outs.length cp1) := row_cell HB0.out.e 4
            have x0_1_4 : W0.cell? ⟨w.heap.size + 1, 4, none⟩ = some (.slice none 0 0) := row_cell HB0.out.f 4
            go_wp2_with fail
            refine (same_below (equalStr_r t.ins _ hi.1 (K0.out.next HB0.out.lo))).mono ?_
            rintro e W1 ⟨hs, hb⟩
            have hq := hs.pos C3.out
            obtain rfl := hq
            have HB1 := hid (HB0.out.next hb)
            clear hs hb x0_0_0 x0_1_0 x0_0_1 x0_1_1 x0_0_2 x0_1_2 x0_0_3 x0_1_3 x0_0_4 x0_1_4
            have x1_0_4 : W1.cell? ⟨w.heap.size, 4, none⟩ = some (.slice ad1 t.outs.length cp1) := row_cell HB1.out.e 4
            have x1_1_4 : W1.cell? ⟨w.heap.size + 1, 4, none⟩ = some (.slice none 0 0) := row_cell HB1.out.f 4
            go_wp2_with fail
            refine (same_below (equalStr_r t.outs _ ho.1 (K1.out.next HB1.out.lo))).mono ?_
            rintro e W2 ⟨hs, hb⟩
            have hq := hs.pos C4.out
            obtain rfl := hq
            have HB2 := hid (HB1.out.next hb)
            clear hs hb x1_0_4 x1_1_4
            go_wp2
            go_ret
            exact ⟨says_t ⟨C0.out, C1.out, C2.out, C3.out, C4.out⟩, HB2.out.lo⟩
          · have C4 := hid c4
            clear c4
            go_enter Tryz.func54, Tryz.ntmps54
            go_upto_region 1 with fail
            clear hW0
            have x0_0_0 : W0.cell? ⟨w.heap.size, 0, none⟩ = some (.string t.name) := row_cell HB0.out.e 0
            have x0_1_0 : W0.cell? ⟨w.heap.size + 1, 0, none⟩ = some (.string ⟨#[]⟩) := row_cell HB0.out.f 0
            have x0_0_1 : W0.cell? ⟨w.heap.size, 1, none⟩ = some (.string t.tool) := row_cell HB0.out.e 1
            have x0_1_1 : W0.cell? ⟨w.heap.size + 1, 1, none⟩ = some (.string ⟨#[]⟩) := row_cell HB0.out.f 1
            have x0_0_2 : W0.cell? ⟨w.heap.size, 2, none⟩ = some (.string t.arg) := row_cell HB0.out.e 2
            have x0_1_2 : W0.cell? ⟨w.heap.size + 1, 2, none⟩ = some (.string ⟨#[]⟩) := row_cell HB0.out.f 2
            have x0_0_3 : W0.cell? ⟨w.heap.size, 3, none⟩ = some (.slice ad0 t.ins.length cp0) := row_cell HB0.out.e 3
            have x0_1_3 : W0.cell? ⟨w.heap.size + 1, 3, none⟩ = some (.slice none 0 0) := row_cell HB0.out.f 3
            have x0_0_4 : W0.cell? ⟨w.heap.size, 4, none⟩ = some (.slice ad1 t.outs.length cp1) := row_cell HB0.out.e 4
            have x0_1_4 : W0.cell? ⟨w.heap.size + 1, 4, none⟩ = some (.slice none 0 0) := row_cell HB0.out.f 4
            go_wp2_with fail
            refine (same_below (equalStr_r t.ins _ hi.1 (K0.out.next HB0.out.lo))).mono ?_
            rintro e W1 ⟨hs, hb⟩
            have hq := hs.pos C3.out
            obtain rfl := hq
            have HB1 := hid (HB0.out.next hb)
            clear hs hb x0_0_0 x0_1_0 x0_0_1 x0_1_1 x0_0_2 x0_1_2 x0_0_3 x0_1_3 x0_0_4 x0_1_4
            have x1_0_4 : W1.cell? ⟨w.heap.size, 4, none⟩ = some (.slice ad1 t.outs.length cp1) := row_cell HB1.out.e 4
            have x1_1_4 : W1.cell? ⟨w.heap.size + 1, 4, none⟩ = some (.slice none 0 0) := row_cell HB1.out.f 4
            go_wp2_with fail
            refine (same_below (equalStr_r t.outs _ ho.1 (K1.out.next HB1.out.lo))).mono ?_
            rintro e W2 ⟨hs, hb⟩
            have hq := hs.neg C4.out
            obtain rfl := hq
            have HB2 := hid (HB1.out.next hb)
            clear hs hb x1_0_4 x1_1_4
            go_wp2
            go_ret
            exact ⟨says_f fun h => C4.out h.2.2.2.2, HB2.out.lo⟩
        · have C3 := hid c3
          clear c3
          go_enter Tryz.func54, Tryz.ntmps54
          go_upto_region 1 with fail
          clear hW0
          have x0_0_0 : W0.cell? ⟨w.heap.size, 0, none⟩ = some (.string t.name) := row_cell HB0.out.e 0
          have x0_1_0 : W0.cell? ⟨w.heap.size + 1, 0, none⟩ = some (.string ⟨#[]⟩) := row_cell HB0.out.f 0
          have x0_0_1 : W0.cell? ⟨w.heap.size, 1, none⟩ = some (.string t.tool) := row_cell HB0.out.e 1
          have x0_1_1 : W0.cell? ⟨w.heap.size + 1, 1, none⟩ = some (.string ⟨#[]⟩) := row_cell HB0.out.f 1
          have x0_0_2 : W0.cell? ⟨w.heap.size, 2, none⟩ = some (.string t.arg) := row_cell HB0.out.e 2
          have x0_1_2 : W0.cell? ⟨w.heap.size + 1, 2, none⟩ = some (.string ⟨#[]⟩) := row_cell HB0.out.f 2
          have x0_0_3 : W0.cell? ⟨w.heap.size, 3, none⟩ = some (.slice ad0 t.ins.length cp0) := row_cell HB0.out.e 3
          have x0_1_3 : W0.cell? ⟨w.heap.size + 1, 3, none⟩ = some (.slice none 0 0) := row_cell HB0.out.f 3
          have x0_0_4 : W0.cell? ⟨w.heap.size, 4, none⟩ = some (.slice ad1 t.outs.length cp1) := row_cell HB0.out.e 4
          have x0_1_4 : W0.cell? ⟨w.heap.size + 1, 4, none⟩ = some (.slice none 0 0) := row_cell HB0.out.f 4
          go_wp2_with fail
          refine (same_below (equalStr_r t.ins _ hi.1 (K0.out.next HB0.out.lo))).mono ?_
          rintro e W1 ⟨hs, hb⟩
          have hq := hs.neg C3.out
          obtain rfl := hq
          have HB1 := hid (HB0.out.next hb)
          clear hs hb x0_0_0 x0_1_0 x0_0_1 x0_1_1 x0_0_2 x0_1_2 x0_0_3 x0_1_3 x0_0_4 x0_1_4
          go_wp2
          go_ret
          exact ⟨says_f fun h => C3.out h.2.2.2.1, HB1.out.lo⟩
      · have q2 : t.arg.toList.isEmpty = false := by rw [J.isEmpty_iff]; simp [c2]
        have r2 : (t.arg.toList == ByteArray.toList ⟨#[]⟩) = false := by rw [texts_eq]; simp; intro h; rw [h] at c2; exact c2 rfl
        have C2 := hid c2
        clear c2
        go_enter Tryz.func54, Tryz.ntmps54
        go_upto_region 1 with fail
        clear hW0
        have x0_0_0 : W0.cell? ⟨w.heap.size, 0, none⟩ = some (.string t.name) := row_cell HB0.out.e 0
        have x0_1_0 : W0.cell? ⟨w.heap.size + 1, 0, none⟩ = some (.string ⟨#[]⟩) := row_cell HB0.out.f 0
        have x0_0_1 : W0.cell? ⟨w.heap.size, 1, none⟩ = some (.string t.tool) := row_cell HB0.out.e 1
        have x0_1_1 : W0.cell? ⟨w.heap.size + 1, 1, none⟩ = some (.string ⟨#[]⟩) := row_cell HB0.out.f 1
        have x0_0_2 : W0.cell? ⟨w.heap.size, 2, none⟩ = some (.string t.arg) := row_cell HB0.out.e 2
        have x0_1_2 : W0.cell? ⟨w.heap.size + 1, 2, none⟩ = some (.string ⟨#[]⟩) := row_cell HB0.out.f 2
        have x0_0_3 : W0.cell? ⟨w.heap.size, 3, none⟩ = some (.slice ad0 t.ins.length cp0) := row_cell HB0.out.e 3
        have x0_1_3 : W0.cell? ⟨w.heap.size + 1, 3, none⟩ = some (.slice none 0 0) := row_cell HB0.out.f 3
        have x0_0_4 : W0.cell? ⟨w.heap.size, 4, none⟩ = some (.slice ad1 t.outs.length cp1) := row_cell HB0.out.e 4
        have x0_1_4 : W0.cell? ⟨w.heap.size + 1, 4, none⟩ = some (.slice none 0 0) := row_cell HB0.out.f 4
        go_wp2
        go_ret
        exact ⟨says_f fun h => C2.out h.2.2.1, HB0.out.lo⟩
    · have q1 : t.tool.toList.isEmpty = false := by rw [J.isEmpty_iff]; simp [c1]
      have r1 : (t.tool.toList == ByteArray.toList ⟨#[]⟩) = false := by rw [texts_eq]; simp; intro h; rw [h] at c1; exact c1 rfl
      have C1 := hid c1
      clear c1
      go_enter Tryz.func54, Tryz.ntmps54
      go_upto_region 1 with fail
      clear hW0
      have x0_0_0 : W0.cell? ⟨w.heap.size, 0, none⟩ = some (.string t.name) := row_cell HB0.out.e 0
      have x0_1_0 : W0.cell? ⟨w.heap.size + 1, 0, none⟩ = some (.string ⟨#[]⟩) := row_cell HB0.out.f 0
      have x0_0_1 : W0.cell? ⟨w.heap.size, 1, none⟩ = some (.string t.tool) := row_cell HB0.out.e 1
      have x0_1_1 : W0.cell? ⟨w.heap.size + 1, 1, none⟩ = some (.string ⟨#[]⟩) := row_cell HB0.out.f 1
      have x0_0_2 : W0.cell? ⟨w.heap.size, 2, none⟩ = some (.string t.arg) := row_cell HB0.out.e 2
      have x0_1_2 : W0.cell? ⟨w.heap.size + 1, 2, none⟩ = some (.string ⟨#[]⟩) := row_cell HB0.out.f 2
      have x0_0_3 : W0.cell? ⟨w.heap.size, 3, none⟩ = some (.slice ad0 t.ins.length cp0) := row_cell HB0.out.e 3
      have x0_1_3 : W0.cell? ⟨w.heap.size + 1, 3, none⟩ = some (.slice none 0 0) := row_cell HB0.out.f 3
      have x0_0_4 : W0.cell? ⟨w.heap.size, 4, none⟩ = some (.slice ad1 t.outs.length cp1) := row_cell HB0.out.e 4
      have x0_1_4 : W0.cell? ⟨w.heap.size + 1, 4, none⟩ = some (.slice none 0 0) := row_cell HB0.out.f 4
      go_wp2
      go_ret
      exact ⟨says_f fun h => C1.out h.2.1, HB0.out.lo⟩
  · have q0 : t.name.toList.isEmpty = false := by rw [J.isEmpty_iff]; simp [c0]
    have r0 : (t.name.toList == ByteArray.toList ⟨#[]⟩) = false := by rw [texts_eq]; simp; intro h; rw [h] at c0; exact c0 rfl
    have C0 := hid c0
    clear c0
    go_enter Tryz.func54, Tryz.ntmps54
    go_upto_region 1 with fail
    clear hW0
    have x0_0_0 : W0.cell? ⟨w.heap.size, 0, none⟩ = some (.string t.name) := row_cell HB0.out.e 0
    have x0_1_0 : W0.cell? ⟨w.heap.size + 1, 0, none⟩ = some (.string ⟨#[]⟩) := row_cell HB0.out.f 0
    have x0_0_1 : W0.cell? ⟨w.heap.size, 1, none⟩ = some (.string t.tool) := row_cell HB0.out.e 1
    have x0_1_1 : W0.cell? ⟨w.heap.size + 1, 1, none⟩ = some (.string ⟨#[]⟩) := row_cell HB0.out.f 1
    have x0_0_2 : W0.cell? ⟨w.heap.size, 2, none⟩ = some (.string t.arg) := row_cell HB0.out.e 2
    have x0_1_2 : W0.cell? ⟨w.heap.size + 1, 2, none⟩ = some (.string ⟨#[]⟩) := row_cell HB0.out.f 2
    have x0_0_3 : W0.cell? ⟨w.heap.size, 3, none⟩ = some (.slice ad0 t.ins.length cp0) := row_cell HB0.out.e 3
    have x0_1_3 : W0.cell? ⟨w.heap.size + 1, 3, none⟩ = some (.slice none 0 0) := row_cell HB0.out.f 3
    have x0_0_4 : W0.cell? ⟨w.heap.size, 4, none⟩ = some (.slice ad1 t.outs.length cp1) := row_cell HB0.out.e 4
    have x0_1_4 : W0.cell? ⟨w.heap.size + 1, 4, none⟩ = some (.slice none 0 0) := row_cell HB0.out.f 4
    go_wp2
    go_ret
    exact ⟨says_f fun h => C0.out h.1, HB0.out.lo⟩
set_option maxHeartbeats 4000000 in
theorem houseSame_self (t : Tg) {v0 v1 : Value} (w : World) (ht : SmTg t) (k0 : SStrA w v0 t.ins) (k1 : SStrA w v1 t.outs) :
    Calls Tryz.prog 54 #[.agg #[.string t.name, .string t.tool, .string t.arg, v0, v1], .agg #[.string t.name, .string t.tool, .string t.arg, v0, v1]] w fun e w' => e = .returned (.bool true) ∧ Below w.heap.size w w' := by
  obtain ⟨_, _, _, hi, ho⟩ := ht
  have K0 := hid k0
  obtain ⟨ad0, cp0, rfl⟩ := k0.sl
  have K1 := hid k1
  obtain ⟨ad1, cp1, rfl⟩ := k1.sl
  clear k0 k1
  have HB0 := hid (B2.start w (.cells #[.string t.name, .string t.tool, .string t.arg, .slice ad0 t.ins.length cp0, .slice ad1 t.outs.length cp1] 35) (.cells #[.string t.name, .string t.tool, .string t.arg, .slice ad0 t.ins.length cp0, .slice ad1 t.outs.length cp1] 35))
  obtain ⟨W0, hW0⟩ : ∃ W, (w.alloc (.cells #[.string t.name, .string t.tool, .string t.arg, .slice ad0 t.ins.length cp0, .slice ad1 t.outs.length cp1] 35)).alloc (.cells #[.string t.name, .string t.tool, .string t.arg, .slice ad0 t.ins.length cp0, .slice ad1 t.outs.length cp1] 35) = W := ⟨_, rfl⟩
  rw [hW0] at HB0
  have e0 : (t.name.toList == t.name.toList) = true := by simp
  have e1 : (t.tool.toList == t.tool.toList) = true := by simp
  have e2 : (t.arg.toList == t.arg.toList) = true := by simp
  go_enter Tryz.func54, Tryz.ntmps54
  go_upto_region 1 with fail
  clear hW0
  have a0 : W0.cell? ⟨w.heap.size, 0, none⟩ = some (.string t.name) := row_cell HB0.out.e 0
  have b0 : W0.cell? ⟨w.heap.size + 1, 0, none⟩ = some (.string t.name) := row_cell HB0.out.f 0
  have a1 : W0.cell? ⟨w.heap.size, 1, none⟩ = some (.string t.tool) := row_cell HB0.out.e 1
  have b1 : W0.cell? ⟨w.heap.size + 1, 1, none⟩ = some (.string t.tool) := row_cell HB0.out.f 1
  have a2 : W0.cell? ⟨w.heap.size, 2, none⟩ = some (.string t.arg) := row_cell HB0.out.e 2
  have b2 : W0.cell? ⟨w.heap.size + 1, 2, none⟩ = some (.string t.arg) := row_cell HB0.out.f 2
  have a3 : W0.cell? ⟨w.heap.size, 3, none⟩ = some (.slice ad0 t.ins.length cp0) := row_cell HB0.out.e 3
  have b3 : W0.cell? ⟨w.heap.size + 1, 3, none⟩ = some (.slice ad0 t.ins.length cp0) := row_cell HB0.out.f 3
  go_wp2_with fail
  refine (equalT_same t.ins _ hi.1 (K0.out.next HB0.out.lo) (K0.out.next HB0.out.lo)).mono ?_
  rintro e W1 ⟨rfl, hb⟩
  have HB1 := hid (HB0.out.next hb)
  clear hb a0 a1 a2 a3 b0 b1 b2 b3
  have a4 : W1.cell? ⟨w.heap.size, 4, none⟩ = some (.slice ad1 t.outs.length cp1) := row_cell HB1.out.e 4
  have b4 : W1.cell? ⟨w.heap.size + 1, 4, none⟩ = some (.slice ad1 t.outs.length cp1) := row_cell HB1.out.f 4
  go_wp2_with fail
  refine (equalT_same t.outs _ ho.1 (K1.out.next HB1.out.lo) (K1.out.next HB1.out.lo)).mono ?_
  rintro e W2 ⟨rfl, hb⟩
  have HB2 := hid (HB1.out.next hb)
  clear hb
  go_wp2
  go_ret
  exact ⟨rfl, HB2.out.lo⟩
set_option maxHeartbeats 8000000 in
theorem sameTurn_r (u : Tu) {v0 v1 : Value} (w : World) (hu : SmTu u) (k0 : SFlA w v0 u.files) (k1 : SStrA w v1 u.said) :
    Calls Tryz.prog 56 #[.agg #[.bool u.over, .int .i64 u.code, .string u.text, .int .i64 u.kind, .string u.name, .int .i64 u.steps, v0, v1], .agg #[.bool false, .int .i64 0, .string ⟨#[]⟩, .int .i64 0, .string ⟨#[]⟩, .int .i64 0, .slice none 0 0, .slice none 0 0]] w fun e w' => Says e (TuNone u) ∧ Below w.heap.size w w' := by
  obtain ⟨_, _, hf, hsd⟩ := hu
  have K0 := hid k0
  obtain ⟨ad0, cp0, rfl⟩ := k0.sl
  have K1 := hid k1
  obtain ⟨ad1, cp1, rfl⟩ := k1.sl
  clear k0 k1
  have HB0 := hid (B2.start w (.cells #[.bool u.over, .int .i64 u.code, .string u.text, .int .i64 u.kind, .string u.name, .int .i64 u.steps, .slice ad0 u.files.length cp0, .slice ad1 u.said.length cp1] 39) (.cells #[.bool false, .int .i64 0, .string ⟨#[]⟩, .int .i64 0, .string ⟨#[]⟩, .int .i64 0, .slice none 0 0, .slice none 0 0] 39))
  obtain ⟨W0, hW0⟩ : ∃ W, (w.alloc (.cells #[.bool u.over, .int .i64 u.code, .string u.text, .int .i64 u.kind, .string u.name, .int .i64 u.steps, .slice ad0 u.files.length cp0, .slice ad1 u.said.length cp1] 39)).alloc (.cells #[.bool false, .int .i64 0, .string ⟨#[]⟩, .int .i64 0, .string ⟨#[]⟩, .int .i64 0, .slice none 0 0, .slice none 0 0] 39) = W := ⟨_, rfl⟩
  rw [hW0] at HB0
  by_cases c0 : u.over = false
  · have q0 : (!u.over) = true := by simp [c0]
    have p0 : (u.over == false) = true := by simp [c0]
    have o0 : (false == u.over) = true := by simp [c0]
    have C0 := hid c0
    clear c0
    by_cases c1 : u.code = 0
    · have q1 : (u.code == 0) = true := by simp [c1]
      have p1 : ((0 : Int) == u.code) = true := by simp [c1]
      have C1 := hid c1
      clear c1
      by_cases c2 : u.text.size = 0
      · have q2 : u.text.toList.isEmpty = true := by rw [J.isEmpty_iff]; simp [c2]
        have r2 : (u.text.toList == ByteArray.toList ⟨#[]⟩) = true := by rw [size0 c2]; simp
        have t2 : (ByteArray.toList ⟨#[]⟩ == u.text.toList) = true := by rw [size0 c2]; simp
        have u2 : (([] : List UInt8) == u.text.toList) = true := by rw [size0 c2, Lib.toList_data]; rfl
        have C2 := hid c2
        clear c2
        by_cases c3 : u.kind = 0
        · have q3 : (u.kind == 0) = true := by simp [c3]
          have p3 : ((0 : Int) == u.kind) = true := by simp [c3]
          have C3 := hid c3
          clear c3
          by_cases c4 : u.name.size = 0
          · have q4 : u.name.toList.isEmpty = true := by rw [J.isEmpty_iff]; simp [c4]
            have r4 : (u.name.toList == ByteArray.toList ⟨#[]⟩) = true := by rw [size0 c4]; simp
            have t4 : (ByteArray.toList ⟨#[]⟩ == u.name.toList) = true := by rw [size0 c4]; simp
            have u4 : (([] : List UInt8) == u.name.toList) = true := by rw [size0 c4, Lib.toList_data]; rfl
            have C4 := hid c4
            clear c4
            by_cases c5 : u.steps = 0
            · have q5 : (u.steps == 0) = true := by simp [c5]
              have p5 : ((0 : Int) == u.steps) = true := by simp [c5]
              have C5 := hid c5
              clear c5
              by_cases c6 : u.files = []
              · have C6 := hid c6
                clear c6
                by_cases c7 : u.said = []
                · have C7 := hid c7
                  clear c7
                  go_enter Tryz.func56, Tryz.ntmps56
                  go_upto_region 1 with fail
                  clear hW0
                  have x0_0_0 : W0.cell? ⟨w.heap.size, 0, none⟩ = some (.bool u.over) := row_cell HB0.out.e 0
                  have x0_1_0 : W0.cell? ⟨w.heap.size + 1, 0, none⟩ = some (.bool false) := row_cell HB0.out.f 0
                  have x0_0_1 : W0.cell? ⟨w.heap.size, 1, none⟩ = some (.int .i64 u.code) := row_cell HB0.out.e 1
                  have x0_1_1 : W0.cell? ⟨w.heap.size + 1, 1, none⟩ = some (.int .i64 0) := row_cell HB0.out.f 1
                  have x0_0_2 : W0.cell? ⟨w.heap.size, 2, none⟩ = some (.string u.text) := row_cell HB0.out.e 2
                  have x0_1_2 : W0.cell? ⟨w.heap.size + 1, 2, none⟩ = some (.string ⟨#[]⟩) := row_cell HB0.out.f 2
                  have x0_0_3 : W0.cell? ⟨w.heap.size, 3, none⟩ = some (.int .i64 u.kind) := row_cell HB0.out.e 3
                  have x0_1_3 : W0.cell? ⟨w.heap.size + 1, 3, none⟩ = some (.int .i64 0) := row_cell HB0.out.f 3
                  have x0_0_4 : W0.cell? ⟨w.heap.size, 4, none⟩ = some (.string u.name) := row_cell HB0.out.e 4
                  have x0_1_4 : W0.cell? ⟨w.heap.size + 1, 4, none⟩ = some (.string ⟨#[]⟩) := row_cell HB0.out.f 4
                  have x0_0_5 : W0.cell? ⟨w.heap.size, 5, none⟩ = some (.int .i64 u.steps) := row_cell HB0.out.e 5
                  have x0_1_5 : W0.cell? ⟨w.heap.size + 1, 5, none⟩ = some (.int .i64 0) := row_cell HB0.out.f 5
                  have x0_0_6 : W0.cell? ⟨w.heap.size, 6, none⟩ = some (.slice ad0 u.files.length cp0) := row_cell HB0.out.e 6
                  have x0_1_6 : W0.cell? ⟨w.heap.size + 1, 6, none⟩ = some (.slice none 0 0) := row_cell HB0.out.f 6
                  have x0_0_7 : W0.cell? ⟨w.heap.size, 7, none⟩ = some (.slice ad1 u.said.length cp1) := row_cell HB0.out.e 7
                  have x0_1_7 : W0.cell? ⟨w.heap.size + 1, 7, none⟩ = some (.slice none 0 0) := row_cell HB0.out.f 7
                  go_wp2_with fail
                  refine (same_below (equalFl_r u.files _ hf (K0.out.next HB0.out.lo))).mono ?_
                  rintro e W1 ⟨hs, hb⟩
                  have hq := hs.pos C6.out
                  obtain rfl := hq
                  have HB1 := hid (HB0.out.next hb)
                  clear hs hb x0_0_0 x0_1_0 x0_0_1 x0_1_1 x0_0_2 x0_1_2 x0_0_3 x0_1_3 x0_0_4 x0_1_4 x0_0_5 x0_1_5 x0_0_6 x0_1_6 x0_0_7 x0_1_7
                  have x1_0_7 : W1.cell? ⟨w.heap.size, 7, none⟩ = some (.slice ad1 u.said.length cp1) := row_cell HB1.out.e 7
                  have x1_1_7 : W1.cell? ⟨w.heap.size + 1, 7, none⟩ = some (.slice none 0 0) := row_cell HB1.out.f 7
                  go_wp2_with fail
                  refine (same_below (equalStr_r u.said _ hsd (K1.out.next HB1.out.lo))).mono ?_
                  rintro e W2 ⟨hs, hb⟩
                  have hq := hs.pos C7.out
                  obtain rfl := hq
                  have HB2 := hid (HB1.out.next hb)
                  clear hs hb x1_0_7 x1_1_7
                  go_wp2
                  go_ret
                  exact ⟨says_t ⟨C0.out, C1.out, C2.out, C3.out, C4.out, C5.out, C6.out, C7.out⟩, HB2.out.lo⟩
                · have C7 := hid c7
                  clear c7
                  go_enter Tryz.func56, Tryz.ntmps56
                  go_upto_region 1 with fail
                  clear hW0
                  have x0_0_0 : W0.cell? ⟨w.heap.size, 0, none⟩ = some (.bool u.over) := row_cell HB0.out.e 0
                  have x0_1_0 : W0.cell? ⟨w.heap.size + 1, 0, none⟩ = some (.bool false) := row_cell HB0.out.f 0
                  have x0_0_1 : W0.cell? ⟨w.heap.size, 1, none⟩ = some (.int .i64 u.code) := row_cell HB0.out.e 1
                  have x0_1_1 : W0.cell? ⟨w.heap.size + 1, 1, none⟩ = some (.int .i64 0) := row_cell HB0.out.f 1
                  have x0_0_2 : W0.cell? ⟨w.heap.size, 2, none⟩ = some (.string u.text) := row_cell HB0.out.e 2
                  have x0_1_2 : W0.cell? ⟨w.heap.size + 1, 2, none⟩ = some (.string ⟨#[]⟩) := row_cell HB0.out.f 2
                  have x0_0_3 : W0.cell? ⟨w.heap.size, 3, none⟩ = some (.int .i64 u.kind) := row_cell HB0.out.e 3
                  have x0_1_3 : W0.cell? ⟨w.heap.size + 1, 3, none⟩ = some (.int .i64 0) := row_cell HB0.out.f 3
                  have x0_0_4 : W0.cell? ⟨w.heap.size, 4, none⟩ = some (.string u.name) := row_cell HB0.out.e 4
                  have x0_1_4 : W0.cell? ⟨w.heap.size + 1, 4, none⟩ = some (.string ⟨#[]⟩) := row_cell HB0.out.f 4
                  have x0_0_5 : W0.cell? ⟨w.heap.size, 5, none⟩ = some (.int .i64 u.steps) := row_cell HB0.out.e 5
                  have x0_1_5 : W0.cell? ⟨w.heap.size + 1, 5, none⟩ = some (.int .i64 0) := row_cell HB0.out.f 5
                  have x0_0_6 : W0.cell? ⟨w.heap.size, 6, none⟩ = some (.slice ad0 u.files.length cp0) := row_cell HB0.out.e 6
                  have x0_1_6 : W0.cell? ⟨w.heap.size + 1, 6, none⟩ = some (.slice none 0 0) := row_cell HB0.out.f 6
                  have x0_0_7 : W0.cell? ⟨w.heap.size, 7, none⟩ = some (.slice ad1 u.said.length cp1) := row_cell HB0.out.e 7
                  have x0_1_7 : W0.cell? ⟨w.heap.size + 1, 7, none⟩ = some (.slice none 0 0) := row_cell HB0.out.f 7
                  go_wp2_with fail
                  refine (same_below (equalFl_r u.files _ hf (K0.out.next HB0.out.lo))).mono ?_
                  rintro e W1 ⟨hs, hb⟩
                  have hq := hs.pos C6.out
                  obtain rfl := hq
                  have HB1 := hid (HB0.out.next hb)
                  clear hs hb x0_0_0 x0_1_0 x0_0_1 x0_1_1 x0_0_2 x0_1_2 x0_0_3 x0_1_3 x0_0_4 x0_1_4 x0_0_5 x0_1_5 x0_0_6 x0_1_6 x0_0_7 x0_1_7
                  have x1_0_7 : W1.cell? ⟨w.heap.size, 7, none⟩ = some (.slice ad1 u.said.length cp1) := row_cell HB1.out.e 7
                  have x1_1_7 : W1.cell? ⟨w.heap.size + 1, 7, none⟩ = some (.slice none 0 0) := row_cell HB1.out.f 7
                  go_wp2_with fail
                  refine (same_below (equalStr_r u.said _ hsd (K1.out.next HB1.out.lo))).mono ?_
                  rintro e W2 ⟨hs, hb⟩
                  have hq := hs.neg C7.out
                  obtain rfl := hq
                  have HB2 := hid (HB1.out.next hb)
                  clear hs hb x1_0_7 x1_1_7
                  go_wp2
                  go_ret
                  exact ⟨says_f fun h => C7.out h.2.2.2.2.2.2.2, HB2.out.lo⟩
              · have C6 := hid c6
                clear c6
                go_enter Tryz.func56, Tryz.ntmps56
                go_upto_region 1 with fail
                clear hW0
                have x0_0_0 : W0.cell? ⟨w.heap.size, 0, none⟩ = some (.bool u.over) := row_cell HB0.out.e 0
                have x0_1_0 : W0.cell? ⟨w.heap.size + 1, 0, none⟩ = some (.bool false) := row_cell HB0.out.f 0
                have x0_0_1 : W0.cell? ⟨w.heap.size, 1, none⟩ = some (.int .i64 u.code) := row_cell HB0.out.e 1
                have x0_1_1 : W0.cell? ⟨w.heap.size + 1, 1, none⟩ = some (.int .i64 0) := row_cell HB0.out.f 1
                have x0_0_2 : W0.cell? ⟨w.heap.size, 2, none⟩ = some (.string u.text) := row_cell HB0.out.e 2
                have x0_1_2 : W0.cell? ⟨w.heap.size + 1, 2, none⟩ = some (.string ⟨#[]⟩) := row_cell HB0.out.f 2
                have x0_0_3 : W0.cell? ⟨w.heap.size, 3, none⟩ = some (.int .i64 u.kind) := row_cell HB0.out.e 3
                have x0_1_3 : W0.cell? ⟨w.heap.size + 1, 3, none⟩ = some (.int .i64 0) := row_cell HB0.out.f 3
                have x0_0_4 : W0.cell? ⟨w.heap.size, 4, none⟩ = some (.string u.name) := row_cell HB0.out.e 4
                have x0_1_4 : W0.cell? ⟨w.heap.size + 1, 4, none⟩ = some (.string ⟨#[]⟩) := row_cell HB0.out.f 4
                have x0_0_5 : W0.cell? ⟨w.heap.size, 5, none⟩ = some (.int .i64 u.steps) := row_cell HB0.out.e 5
                have x0_1_5 : W0.cell? ⟨w.heap.size + 1, 5, none⟩ = some (.int .i64 0) := row_cell HB0.out.f 5
                have x0_0_6 : W0.cell? ⟨w.heap.size, 6, none⟩ = some (.slice ad0 u.files.length cp0) := row_cell HB0.out.e 6
                have x0_1_6 : W0.cell? ⟨w.heap.size + 1, 6, none⟩ = some (.slice none 0 0) := row_cell HB0.out.f 6
                have x0_0_7 : W0.cell? ⟨w.heap.size, 7, none⟩ = some (.slice ad1 u.said.length cp1) := row_cell HB0.out.e 7
                have x0_1_7 : W0.cell? ⟨w.heap.size + 1, 7, none⟩ = some (.slice none 0 0) := row_cell HB0.out.f 7
                go_wp2_with fail
                refine (same_below (equalFl_r u.files _ hf (K0.out.next HB0.out.lo))).mono ?_
                rintro e W1 ⟨hs, hb⟩
                have hq := hs.neg C6.out
                obtain rfl := hq
                have HB1 := hid (HB0.out.next hb)
                clear hs hb x0_0_0 x0_1_0 x0_0_1 x0_1_1 x0_0_2 x0_1_2 x0_0_3 x0_1_3 x0_0_4 x0_1_4 x0_0_5 x0_1_5 x0_0_6 x0_1_6 x0_0_7 x0_1_7
                go_wp2
                go_ret
                exact ⟨says_f fun h => C6.out h.2.2.2.2.2.2.1, HB1.out.lo⟩
            · have q5 : (u.steps == 0) = false := by simp [c5]
              have p5 : ((0 : Int) == u.steps) = false := by rw [beq_eq_false_iff_ne]; intro h; exact c5 h.symm
              have C5 := hid c5
              clear c5
              go_enter Tryz.func56, Tryz.ntmps56
              go_upto_region 1 with fail
              clear hW0
              have x0_0_0 : W0.cell? ⟨w.heap.size, 0, none⟩ = some (.bool u.over) := row_cell HB0.out.e 0
              have x0_1_0 : W0.cell? ⟨w.heap.size + 1, 0, none⟩ = some (.bool false) := row_cell HB0.out.f 0
              have x0_0_1 : W0.cell? ⟨w.heap.size, 1, none⟩ = some (.int .i64 u.code) := row_cell HB0.out.e 1
              have x0_1_1 : W0.cell? ⟨w.heap.size + 1, 1, none⟩ = some (.int .i64 0) := row_cell HB0.out.f 1
              have x0_0_2 : W0.cell? ⟨w.heap.size, 2, none⟩ = some (.string u.text) := row_cell HB0.out.e 2
              have x0_1_2 : W0.cell? ⟨w.heap.size + 1, 2, none⟩ = some (.string ⟨#[]⟩) := row_cell HB0.out.f 2
              have x0_0_3 : W0.cell? ⟨w.heap.size, 3, none⟩ = some (.int .i64 u.kind) := row_cell HB0.out.e 3
              have x0_1_3 : W0.cell? ⟨w.heap.size + 1, 3, none⟩ = some (.int .i64 0) := row_cell HB0.out.f 3
              have x0_0_4 : W0.cell? ⟨w.heap.size, 4, none⟩ = some (.string u.name) := row_cell HB0.out.e 4
              have x0_1_4 : W0.cell? ⟨w.heap.size + 1, 4, none⟩ = some (.string ⟨#[]⟩) := row_cell HB0.out.f 4
              have x0_0_5 : W0.cell? ⟨w.heap.size, 5, none⟩ = some (.int .i64 u.steps) := row_cell HB0.out.e 5
              have x0_1_5 : W0.cell? ⟨w.heap.size + 1, 5, none⟩ = some (.int .i64 0) := row_cell HB0.out.f 5
              have x0_0_6 : W0.cell? ⟨w.heap.size, 6, none⟩ = some (.slice ad0 u.files.length cp0) := row_cell HB0.out.e 6
              have x0_1_6 : W0.cell? ⟨w.heap.size + 1, 6, none⟩ = some (.slice none 0 0) := row_cell HB0.out.f 6
              have x0_0_7 : W0.cell? ⟨w.heap.size, 7, none⟩ = some (.slice ad1 u.said.length cp1) := row_cell HB0.out.e 7
              have x0_1_7 : W0.cell? ⟨w.heap.size + 1, 7, none⟩ = some (.slice none 0 0) := row_cell HB0.out.f 7
              go_wp2
              go_ret
              exact ⟨says_f fun h => C5.out h.2.2.2.2.2.1, HB0.out.lo⟩
          · have q4 : u.name.toList.isEmpty = false := by rw [J.isEmpty_iff]; simp [c4]
            have r4 : (u.name.toList == ByteArray.toList ⟨#[]⟩) = false := by rw [texts_eq]; simp; intro h; rw [h] at c4; exact c4 rfl
            have t4 : (ByteArray.toList ⟨#[]⟩ == u.name.toList) = false := by rw [texts_eq]; simp; intro h; rw [← h] at c4; exact c4 rfl
            have u4 : (([] : List UInt8) == u.name.toList) = false := by rw [beq_eq_false_iff_ne]; intro h; have h2 := J.len_size u.name; rw [← Lib.toList_data, ← h] at h2; exact c4 h2.symm
            have C4 := hid c4
            clear c4
            go_enter Tryz.func56, Tryz.ntmps56
            go_upto_region 1 with fail
            clear hW0
            have x0_0_0 : W0.cell? ⟨w.heap.size, 0, none⟩ = some (.bool u.over) := row_cell HB0.out.e 0
            have x0_1_0 : W0.cell? ⟨w.heap.size + 1, 0, none⟩ = some (.bool false) := row_cell HB0.out.f 0
            have x0_0_1 : W0.cell? ⟨w.heap.size, 1, none⟩ = some (.int .i64 u.code) := row_cell HB0.out.e 1
            have x0_1_1 : W0.cell? ⟨w.heap.size + 1, 1, none⟩ = some (.int .i64 0) := row_cell HB0.out.f 1
            have x0_0_2 : W0.cell? ⟨w.heap.size, 2, none⟩ = some (.string u.text) := row_cell HB0.out.e 2
            have x0_1_2 : W0.cell? ⟨w.heap.size + 1, 2, none⟩ = some (.string ⟨#[]⟩) := row_cell HB0.out.f 2
            have x0_0_3 : W0.cell? ⟨w.heap.size, 3, none⟩ = some (.int .i64 u.kind) := row_cell HB0.out.e 3
            have x0_1_3 : W0.cell? ⟨w.heap.size + 1, 3, none⟩ = some (.int .i64 0) := row_cell HB0.out.f 3
            have x0_0_4 : W0.cell? ⟨w.heap.size, 4, none⟩ = some (.string u.name) := row_cell HB0.out.e 4
            have x0_1_4 : W0.cell? ⟨w.heap.size + 1, 4, none⟩ = some (.string ⟨#[]⟩) := row_cell HB0.out.f 4
            have x0_0_5 : W0.cell? ⟨w.heap.size, 5, none⟩ = some (.int .i64 u.steps) := row_cell HB0.out.e 5
            have x0_1_5 : W0.cell? ⟨w.heap.size + 1, 5, none⟩ = some (.int .i64 0) := row_cell HB0.out.f 5
            have x0_0_6 : W0.cell? ⟨w.heap.size, 6, none⟩ = some (.slice ad0 u.files.length cp0) := row_cell HB0.out.e 6
            have x0_1_6 : W0.cell? ⟨w.heap.size + 1, 6, none⟩ = some (.slice none 0 0) := row_cell HB0.out.f 6
            have x0_0_7 : W0.cell? ⟨w.heap.size, 7, none⟩ = some (.slice ad1 u.said.length cp1) := row_cell HB0.out.e 7
            have x0_1_7 : W0.cell? ⟨w.heap.size + 1, 7, none⟩ = some (.slice none 0 0) := row_cell HB0.out.f 7
            go_wp2
            go_ret
            exact ⟨says_f fun h => C4.out h.2.2.2.2.1, HB0.out.lo⟩
        · have q3 : (u.kind == 0) = false := by simp [c3]
          have p3 : ((0 : Int) == u.kind) = false := by rw [beq_eq_false_iff_ne]; intro h; exact c3 h.symm
          have C3 := hid c3
          clear c3
          go_enter Tryz.func56, Tryz.ntmps56
          go_upto_region 1 with fail
          clear hW0
          have x0_0_0 : W0.cell? ⟨w.heap.size, 0, none⟩ = some (.bool u.over) := row_cell HB0.out.e 0
          have x0_1_0 : W0.cell? ⟨w.heap.size + 1, 0, none⟩ = some (.bool false) := row_cell HB0.out.f 0
          have x0_0_1 : W0.cell? ⟨w.heap.size, 1, none⟩ = some (.int .i64 u.code) := row_cell HB0.out.e 1
          have x0_1_1 : W0.cell? ⟨w.heap.size + 1, 1, none⟩ = some (.int .i64 0) := row_cell HB0.out.f 1
          have x0_0_2 : W0.cell? ⟨w.heap.size, 2, none⟩ = some (.string u.text) := row_cell HB0.out.e 2
          have x0_1_2 : W0.cell? ⟨w.heap.size + 1, 2, none⟩ = some (.string ⟨#[]⟩) := row_cell HB0.out.f 2
          have x0_0_3 : W0.cell? ⟨w.heap.size, 3, none⟩ = some (.int .i64 u.kind) := row_cell HB0.out.e 3
          have x0_1_3 : W0.cell? ⟨w.heap.size + 1, 3, none⟩ = some (.int .i64 0) := row_cell HB0.out.f 3
          have x0_0_4 : W0.cell? ⟨w.heap.size, 4, none⟩ = some (.string u.name) := row_cell HB0.out.e 4
          have x0_1_4 : W0.cell? ⟨w.heap.size + 1, 4, none⟩ = some (.string ⟨#[]⟩) := row_cell HB0.out.f 4
          have x0_0_5 : W0.cell? ⟨w.heap.size, 5, none⟩ = some (.int .i64 u.steps) := row_cell HB0.out.e 5
          have x0_1_5 : W0.cell? ⟨w.heap.size + 1, 5, none⟩ = some (.int .i64 0) := row_cell HB0.out.f 5
          have x0_0_6 : W0.cell? ⟨w.heap.size, 6, none⟩ = some (.slice ad0 u.files.length cp0) := row_cell HB0.out.e 6
          have x0_1_6 : W0.cell? ⟨w.heap.size + 1, 6, none⟩ = some (.slice none 0 0) := row_cell HB0.out.f 6
          have x0_0_7 : W0.cell? ⟨w.heap.size, 7, none⟩ = some (.slice ad1 u.said.length cp1) := row_cell HB0.out.e 7
          have x0_1_7 : W0.cell? ⟨w.heap.size + 1, 7, none⟩ = some (.slice none 0 0) := row_cell HB0.out.f 7
          go_wp2
          go_ret
          exact ⟨says_f fun h => C3.out h.2.2.2.1, HB0.out.lo⟩
      · have q2 : u.text.toList.isEmpty = false := by rw [J.isEmpty_iff]; simp [c2]
        have r2 : (u.text.toList == ByteArray.toList ⟨#[]⟩) = false := by rw [texts_eq]; simp; intro h; rw [h] at c2; exact c2 rfl
        have t2 : (ByteArray.toList ⟨#[]⟩ == u.text.toList) = false := by rw [texts_eq]; simp; intro h; rw [← h] at c2; exact c2 rfl
        have u2 : (([] : List UInt8) == u.text.toList) = false := by rw [beq_eq_false_iff_ne]; intro h; have h2 := J.len_size u.text; rw [← Lib.toList_data, ← h] at h2; exact c2 h2.symm
        have C2 := hid c2
        clear c2
        go_enter Tryz.func56, Tryz.ntmps56
        go_upto_region 1 with fail
        clear hW0
        have x0_0_0 : W0.cell? ⟨w.heap.size, 0, none⟩ = some (.bool u.over) := row_cell HB0.out.e 0
        have x0_1_0 : W0.cell? ⟨w.heap.size + 1, 0, none⟩ = some (.bool false) := row_cell HB0.out.f 0
        have x0_0_1 : W0.cell? ⟨w.heap.size, 1, none⟩ = some (.int .i64 u.code) := row_cell HB0.out.e 1
        have x0_1_1 : W0.cell? ⟨w.heap.size + 1, 1, none⟩ = some (.int .i64 0) := row_cell HB0.out.f 1
        have x0_0_2 : W0.cell? ⟨w.heap.size, 2, none⟩ = some (.string u.text) := row_cell HB0.out.e 2
        have x0_1_2 : W0.cell? ⟨w.heap.size + 1, 2, none⟩ = some (.string ⟨#[]⟩) := row_cell HB0.out.f 2
        have x0_0_3 : W0.cell? ⟨w.heap.size, 3, none⟩ = some (.int .i64 u.kind) := row_cell HB0.out.e 3
        have x0_1_3 : W0.cell? ⟨w.heap.size + 1, 3, none⟩ = some (.int .i64 0) := row_cell HB0.out.f 3
        have x0_0_4 : W0.cell? ⟨w.heap.size, 4, none⟩ = some (.string u.name) := row_cell HB0.out.e 4
        have x0_1_4 : W0.cell? ⟨w.heap.size + 1, 4, none⟩ = some (.string ⟨#[]⟩) := row_cell HB0.out.f 4
        have x0_0_5 : W0.cell? ⟨w.heap.size, 5, none⟩ = some (.int .i64 u.steps) := row_cell HB0.out.e 5
        have x0_1_5 : W0.cell? ⟨w.heap.size + 1, 5, none⟩ = some (.int .i64 0) := row_cell HB0.out.f 5
        have x0_0_6 : W0.cell? ⟨w.heap.size, 6, none⟩ = some (.slice ad0 u.files.length cp0) := row_cell HB0.out.e 6
        have x0_1_6 : W0.cell? ⟨w.heap.size + 1, 6, none⟩ = some (.slice none 0 0) := row_cell HB0.out.f 6
        have x0_0_7 : W0.cell? ⟨w.heap.size, 7, none⟩ = some (.slice ad1 u.said.length cp1) := row_cell HB0.out.e 7
        have x0_1_7 : W0.cell? ⟨w.heap.size + 1, 7, none⟩ = some (.slice none 0 0) := row_cell HB0.out.f 7
        go_wp2
        go_ret
        exact ⟨says_f fun h => C2.out h.2.2.1, HB0.out.lo⟩
    · have q1 : (u.code == 0) = false := by simp [c1]
      have p1 : ((0 : Int) == u.code) = false := by rw [beq_eq_false_iff_ne]; intro h; exact c1 h.symm
      have C1 := hid c1
      clear c1
      go_enter Tryz.func56, Tryz.ntmps56
      go_upto_region 1 with fail
      clear hW0
      have x0_0_0 : W0.cell? ⟨w.heap.size, 0, none⟩ = some (.bool u.over) := row_cell HB0.out.e 0
      have x0_1_0 : W0.cell? ⟨w.heap.size + 1, 0, none⟩ = some (.bool false) := row_cell HB0.out.f 0
      have x0_0_1 : W0.cell? ⟨w.heap.size, 1, none⟩ = some (.int .i64 u.code) := row_cell HB0.out.e 1
      have x0_1_1 : W0.cell? ⟨w.heap.size + 1, 1, none⟩ = some (.int .i64 0) := row_cell HB0.out.f 1
      have x0_0_2 : W0.cell? ⟨w.heap.size, 2, none⟩ = some (.string u.text) := row_cell HB0.out.e 2
      have x0_1_2 : W0.cell? ⟨w.heap.size + 1, 2, none⟩ = some (.string ⟨#[]⟩) := row_cell HB0.out.f 2
      have x0_0_3 : W0.cell? ⟨w.heap.size, 3, none⟩ = some (.int .i64 u.kind) := row_cell HB0.out.e 3
      have x0_1_3 : W0.cell? ⟨w.heap.size + 1, 3, none⟩ = some (.int .i64 0) := row_cell HB0.out.f 3
      have x0_0_4 : W0.cell? ⟨w.heap.size, 4, none⟩ = some (.string u.name) := row_cell HB0.out.e 4
      have x0_1_4 : W0.cell? ⟨w.heap.size + 1, 4, none⟩ = some (.string ⟨#[]⟩) := row_cell HB0.out.f 4
      have x0_0_5 : W0.cell? ⟨w.heap.size, 5, none⟩ = some (.int .i64 u.steps) := row_cell HB0.out.e 5
      have x0_1_5 : W0.cell? ⟨w.heap.size + 1, 5, none⟩ = some (.int .i64 0) := row_cell HB0.out.f 5
      have x0_0_6 : W0.cell? ⟨w.heap.size, 6, none⟩ = some (.slice ad0 u.files.length cp0) := row_cell HB0.out.e 6
      have x0_1_6 : W0.cell? ⟨w.heap.size + 1, 6, none⟩ = some (.slice none 0 0) := row_cell HB0.out.f 6
      have x0_0_7 : W0.cell? ⟨w.heap.size, 7, none⟩ = some (.slice ad1 u.said.length cp1) := row_cell HB0.out.e 7
      have x0_1_7 : W0.cell? ⟨w.heap.size + 1, 7, none⟩ = some (.slice none 0 0) := row_cell HB0.out.f 7
      go_wp2
      go_ret
      exact ⟨says_f fun h => C1.out h.2.1, HB0.out.lo⟩
  · have q0 : (!u.over) = false := by simp at c0; simp [c0]
    have p0 : (u.over == false) = false := by simp at c0; simp [c0]
    have o0 : (false == u.over) = false := by simp at c0; simp [c0]
    have C0 := hid c0
    clear c0
    go_enter Tryz.func56, Tryz.ntmps56
    go_upto_region 1 with fail
    clear hW0
    have x0_0_0 : W0.cell? ⟨w.heap.size, 0, none⟩ = some (.bool u.over) := row_cell HB0.out.e 0
    have x0_1_0 : W0.cell? ⟨w.heap.size + 1, 0, none⟩ = some (.bool false) := row_cell HB0.out.f 0
    have x0_0_1 : W0.cell? ⟨w.heap.size, 1, none⟩ = some (.int .i64 u.code) := row_cell HB0.out.e 1
    have x0_1_1 : W0.cell? ⟨w.heap.size + 1, 1, none⟩ = some (.int .i64 0) := row_cell HB0.out.f 1
    have x0_0_2 : W0.cell? ⟨w.heap.size, 2, none⟩ = some (.string u.text) := row_cell HB0.out.e 2
    have x0_1_2 : W0.cell? ⟨w.heap.size + 1, 2, none⟩ = some (.string ⟨#[]⟩) := row_cell HB0.out.f 2
    have x0_0_3 : W0.cell? ⟨w.heap.size, 3, none⟩ = some (.int .i64 u.kind) := row_cell HB0.out.e 3
    have x0_1_3 : W0.cell? ⟨w.heap.size + 1, 3, none⟩ = some (.int .i64 0) := row_cell HB0.out.f 3
    have x0_0_4 : W0.cell? ⟨w.heap.size, 4, none⟩ = some (.string u.name) := row_cell HB0.out.e 4
    have x0_1_4 : W0.cell? ⟨w.heap.size + 1, 4, none⟩ = some (.string ⟨#[]⟩) := row_cell HB0.out.f 4
    have x0_0_5 : W0.cell? ⟨w.heap.size, 5, none⟩ = some (.int .i64 u.steps) := row_cell HB0.out.e 5
    have x0_1_5 : W0.cell? ⟨w.heap.size + 1, 5, none⟩ = some (.int .i64 0) := row_cell HB0.out.f 5
    have x0_0_6 : W0.cell? ⟨w.heap.size, 6, none⟩ = some (.slice ad0 u.files.length cp0) := row_cell HB0.out.e 6
    have x0_1_6 : W0.cell? ⟨w.heap.size + 1, 6, none⟩ = some (.slice none 0 0) := row_cell HB0.out.f 6
    have x0_0_7 : W0.cell? ⟨w.heap.size, 7, none⟩ = some (.slice ad1 u.said.length cp1) := row_cell HB0.out.e 7
    have x0_1_7 : W0.cell? ⟨w.heap.size + 1, 7, none⟩ = some (.slice none 0 0) := row_cell HB0.out.f 7
    go_wp2
    go_ret
    exact ⟨says_f fun h => C0.out h.1, HB0.out.lo⟩
set_option maxHeartbeats 8000000 in
theorem sameTurn_l (u : Tu) {v0 v1 : Value} (w : World) (hu : SmTu u) (k0 : SFlA w v0 u.files) (k1 : SStrA w v1 u.said) :
    Calls Tryz.prog 56 #[.agg #[.bool false, .int .i64 0, .string ⟨#[]⟩, .int .i64 0, .string ⟨#[]⟩, .int .i64 0, .slice none 0 0, .slice none 0 0], .agg #[.bool u.over, .int .i64 u.code, .string u.text, .int .i64 u.kind, .string u.name, .int .i64 u.steps, v0, v1]] w fun e w' => Says e (TuNone u) ∧ Below w.heap.size w w' := by
  obtain ⟨_, _, hf, hsd⟩ := hu
  have K0 := hid k0
  obtain ⟨ad0, cp0, rfl⟩ := k0.sl
  have K1 := hid k1
  obtain ⟨ad1, cp1, rfl⟩ := k1.sl
  clear k0 k1
  have HB0 := hid (B2.start w (.cells #[.bool false, .int .i64 0, .string ⟨#[]⟩, .int .i64 0, .string ⟨#[]⟩, .int .i64 0, .slice none 0 0, .slice none 0 0] 39) (.cells #[.bool u.over, .int .i64 u.code, .string u.text, .int .i64 u.kind, .string u.name, .int .i64 u.steps, .slice ad0 u.files.length cp0, .slice ad1 u.said.length cp1] 39))
  obtain ⟨W0, hW0⟩ : ∃ W, (w.alloc (.cells #[.bool false, .int .i64 0, .string ⟨#[]⟩, .int .i64 0, .string ⟨#[]⟩, .int .i64 0, .slice none 0 0, .slice none 0 0] 39)).alloc (.cells #[.bool u.over, .int .i64 u.code, .string u.text, .int .i64 u.kind, .string u.name, .int .i64 u.steps, .slice ad0 u.files.length cp0, .slice ad1 u.said.length cp1] 39) = W := ⟨_, rfl⟩
  rw [hW0] at HB0
  by_cases c0 : u.over = false
  · have q0 : (!u.over) = true := by simp [c0]
    have p0 : (u.over == false) = true := by simp [c0]
    have o0 : (false == u.over) = true := by simp [c0]
    have C0 := hid c0
    clear c0
    by_cases c1 : u.code = 0
    · have q1 : (u.code == 0) = true := by simp [c1]
      have p1 : ((0 : Int) == u.code) = true := by simp [c1]
      have C1 := hid c1
      clear c1
      by_cases c2 : u.text.size = 0
      · have q2 : u.text.toList.isEmpty = true := by rw [J.isEmpty_iff]; simp [c2]
        have r2 : (u.text.toList == ByteArray.toList ⟨#[]⟩) = true := by rw [size0 c2]; simp
        have t2 : (ByteArray.toList ⟨#[]⟩ == u.text.toList) = true := by rw [size0 c2]; simp
        have u2 : (([] : List UInt8) == u.text.toList) = true := by rw [size0 c2, Lib.toList_data]; rfl
        have C2 := hid c2
        clear c2
        by_cases c3 : u.kind = 0
        · have q3 : (u.kind == 0) = true := by simp [c3]
          have p3 : ((0 : Int) == u.kind) = true := by simp [c3]
          have C3 := hid c3
          clear c3
          by_cases c4 : u.name.size = 0
          · have q4 : u.name.toList.isEmpty = true := by rw [J.isEmpty_iff]; simp [c4]
            have r4 : (u.name.toList == ByteArray.toList ⟨#[]⟩) = true := by rw [size0 c4]; simp
            have t4 : (ByteArray.toList ⟨#[]⟩ == u.name.toList) = true := by rw [size0 c4]; simp
            have u4 : (([] : List UInt8) == u.name.toList) = true := by rw [size0 c4, Lib.toList_data]; rfl
            have C4 := hid c4
            clear c4
            by_cases c5 : u.steps = 0
            · have q5 : (u.steps == 0) = true := by simp [c5]
              have p5 : ((0 : Int) == u.steps) = true := by simp [c5]
              have C5 := hid c5
              clear c5
              by_cases c6 : u.files = []
              · have C6 := hid c6
                clear c6
                by_cases c7 : u.said = []
                · have C7 := hid c7
                  clear c7
                  go_enter Tryz.func56, Tryz.ntmps56
                  go_upto_region 1 with fail
                  clear hW0
                  have x0_0_0 : W0.cell? ⟨w.heap.size, 0, none⟩ = some (.bool false) := row_cell HB0.out.e 0
                  have x0_1_0 : W0.cell? ⟨w.heap.size + 1, 0, none⟩ = some (.bool u.over) := row_cell HB0.out.f 0
                  have x0_0_1 : W0.cell? ⟨w.heap.size, 1, none⟩ = some (.int .i64 0) := row_cell HB0.out.e 1
                  have x0_1_1 : W0.cell? ⟨w.heap.size + 1, 1, none⟩ = some (.int .i64 u.code) := row_cell HB0.out.f 1
                  have x0_0_2 : W0.cell? ⟨w.heap.size, 2, none⟩ = some (.string ⟨#[]⟩) := row_cell HB0.out.e 2
                  have x0_1_2 : W0.cell? ⟨w.heap.size + 1, 2, none⟩ = some (.string u.text) := row_cell HB0.out.f 2
                  have x0_0_3 : W0.cell? ⟨w.heap.size, 3, none⟩ = some (.int .i64 0) := row_cell HB0.out.e 3
                  have x0_1_3 : W0.cell? ⟨w.heap.size + 1, 3, none⟩ = some (.int .i64 u.kind) := row_cell HB0.out.f 3
                  have x0_0_4 : W0.cell? ⟨w.heap.size, 4, none⟩ = some (.string ⟨#[]⟩) := row_cell HB0.out.e 4
                  have x0_1_4 : W0.cell? ⟨w.heap.size + 1, 4, none⟩ = some (.string u.name) := row_cell HB0.out.f 4
                  have x0_0_5 : W0.cell? ⟨w.heap.size, 5, none⟩ = some (.int .i64 0) := row_cell HB0.out.e 5
                  have x0_1_5 : W0.cell? ⟨w.heap.size + 1, 5, none⟩ = some (.int .i64 u.steps) := row_cell HB0.out.f 5
                  have x0_0_6 : W0.cell? ⟨w.heap.size, 6, none⟩ = some (.slice none 0 0) := row_cell HB0.out.e 6
                  have x0_1_6 : W0.cell? ⟨w.heap.size + 1, 6, none⟩ = some (.slice ad0 u.files.length cp0) := row_cell HB0.out.f 6
                  have x0_0_7 : W0.cell? ⟨w.heap.size, 7, none⟩ = some (.slice none 0 0) := row_cell HB0.out.e 7
                  have x0_1_7 : W0.cell? ⟨w.heap.size + 1, 7, none⟩ = some (.slice ad1 u.said.length cp1) := row_cell HB0.out.f 7
                  go_wp2_with fail
                  refine (same_below (equalFl_l u.files _ hf (K0.out.next HB0.out.lo))).mono ?_
                  rintro e W1 ⟨hs, hb⟩
                  have hq := hs.pos C6.out
                  obtain rfl := hq
                  have HB1 := hid (HB0.out.next hb)
                  clear hs hb x0_0_0 x0_1_0 x0_0_1 x0_1_1 x0_0_2 x0_1_2 x0_0_3 x0_1_3 x0_0_4 x0_1_4 x0_0_5 x0_1_5 x0_0_6 x0_1_6 x0_0_7 x0_1_7
                  have x1_0_7 : W1.cell? ⟨w.heap.size, 7, none⟩ = some (.slice none 0 0) := row_cell HB1.out.e 7
                  have x1_1_7 : W1.cell? ⟨w.heap.size + 1, 7, none⟩ = some (.slice ad1 u.said.length cp1) := row_cell HB1.out.f 7
                  go_wp2_with fail
                  refine (same_below (equalStr_l u.said _ hsd (K1.out.next HB1.out.lo))).mono ?_
                  rintro e W2 ⟨hs, hb⟩
                  have hq := hs.pos C7.out
                  obtain rfl := hq
                  have HB2 := hid (HB1.out.next hb)
                  clear hs hb x1_0_7 x1_1_7
                  go_wp2
                  go_ret
                  exact ⟨says_t ⟨C0.out, C1.out, C2.out, C3.out, C4.out, C5.out, C6.out, C7.out⟩, HB2.out.lo⟩
                · have C7 := hid c7
                  clear c7
                  go_enter Tryz.func56, Tryz.ntmps56
                  go_upto_region 1 with fail
                  clear hW0
                  have x0_0_0 : W0.cell? ⟨w.heap.size, 0, none⟩ = some (.bool false) := row_cell HB0.out.e 0
                  have x0_1_0 : W0.cell? ⟨w.heap.size + 1, 0, none⟩ = some (.bool u.over) := row_cell HB0.out.f 0
                  have x0_0_1 : W0.cell? ⟨w.heap.size, 1, none⟩ = some (.int .i64 0) := row_cell HB0.out.e 1
                  have x0_1_1 : W0.cell? ⟨w.heap.size + 1, 1, none⟩ = some (.int .i64 u.code) := row_cell HB0.out.f 1
                  have x0_0_2 : W0.cell? ⟨w.heap.size, 2, none⟩ = some (.string ⟨#[]⟩) := row_cell HB0.out.e 2
                  have x0_1_2 : W0.cell? ⟨w.heap.size + 1, 2, none⟩ = some (.string u.text) := row_cell HB0.out.f 2
                  have x0_0_3 : W0.cell? ⟨w.heap.size, 3, none⟩ = some (.int .i64 0) := row_cell HB0.out.e 3
                  have x0_1_3 : W0.cell? ⟨w.heap.size + 1, 3, none⟩ = some (.int .i64 u.kind) := row_cell HB0.out.f 3
                  have x0_0_4 : W0.cell? ⟨w.heap.size, 4, none⟩ = some (.string ⟨#[]⟩) := row_cell HB0.out.e 4
                  have x0_1_4 : W0.cell? ⟨w.heap.size + 1, 4, none⟩ = some (.string u.name) := row_cell HB0.out.f 4
                  have x0_0_5 : W0.cell? ⟨w.heap.size, 5, none⟩ = some (.int .i64 0) := row_cell HB0.out.e 5
                  have x0_1_5 : W0.cell? ⟨w.heap.size + 1, 5, none⟩ = some (.int .i64 u.steps) := row_cell HB0.out.f 5
                  have x0_0_6 : W0.cell? ⟨w.heap.size, 6, none⟩ = some (.slice none 0 0) := row_cell HB0.out.e 6
                  have x0_1_6 : W0.cell? ⟨w.heap.size + 1, 6, none⟩ = some (.slice ad0 u.files.length cp0) := row_cell HB0.out.f 6
                  have x0_0_7 : W0.cell? ⟨w.heap.size, 7, none⟩ = some (.slice none 0 0) := row_cell HB0.out.e 7
                  have x0_1_7 : W0.cell? ⟨w.heap.size + 1, 7, none⟩ = some (.slice ad1 u.said.length cp1) := row_cell HB0.out.f 7
                  go_wp2_with fail
                  refine (same_below (equalFl_l u.files _ hf (K0.out.next HB0.out.lo))).mono ?_
                  rintro e W1 ⟨hs, hb⟩
                  have hq := hs.pos C6.out
                  obtain rfl := hq
                  have HB1 := hid (HB0.out.next hb)
                  clear hs hb x0_0_0 x0_1_0 x0_0_1 x0_1_1 x0_0_2 x0_1_2 x0_0_3 x0_1_3 x0_0_4 x0_1_4 x0_0_5 x0_1_5 x0_0_6 x0_1_6 x0_0_7 x0_1_7
                  have x1_0_7 : W1.cell? ⟨w.heap.size, 7, none⟩ = some (.slice none 0 0) := row_cell HB1.out.e 7
                  have x1_1_7 : W1.cell? ⟨w.heap.size + 1, 7, none⟩ = some (.slice ad1 u.said.length cp1) := row_cell HB1.out.f 7
                  go_wp2_with fail
                  refine (same_below (equalStr_l u.said _ hsd (K1.out.next HB1.out.lo))).mono ?_
                  rintro e W2 ⟨hs, hb⟩
                  have hq := hs.neg C7.out
                  obtain rfl := hq
                  have HB2 := hid (HB1.out.next hb)
                  clear hs hb x1_0_7 x1_1_7
                  go_wp2
                  go_ret
                  exact ⟨says_f fun h => C7.out h.2.2.2.2.2.2.2, HB2.out.lo⟩
              · have C6 := hid c6
                clear c6
                go_enter Tryz.func56, Tryz.ntmps56
                go_upto_region 1 with fail
                clear hW0
                have x0_0_0 : W0.cell? ⟨w.heap.size, 0, none⟩ = some (.bool false) := row_cell HB0.out.e 0
                have x0_1_0 : W0.cell? ⟨w.heap.size + 1, 0, none⟩ = some (.bool u.over) := row_cell HB0.out.f 0
                have x0_0_1 : W0.cell? ⟨w.heap.size, 1, none⟩ = some (.int .i64 0) := row_cell HB0.out.e 1
                have x0_1_1 : W0.cell? ⟨w.heap.size + 1, 1, none⟩ = some (.int .i64 u.code) := row_cell HB0.out.f 1
                have x0_0_2 : W0.cell? ⟨w.heap.size, 2, none⟩ = some (.string ⟨#[]⟩) := row_cell HB0.out.e 2
                have x0_1_2 : W0.cell? ⟨w.heap.size + 1, 2, none⟩ = some (.string u.text) := row_cell HB0.out.f 2
                have x0_0_3 : W0.cell? ⟨w.heap.size, 3, none⟩ = some (.int .i64 0) := row_cell HB0.out.e 3
                have x0_1_3 : W0.cell? ⟨w.heap.size + 1, 3, none⟩ = some (.int .i64 u.kind) := row_cell HB0.out.f 3
                have x0_0_4 : W0.cell? ⟨w.heap.size, 4, none⟩ = some (.string ⟨#[]⟩) := row_cell HB0.out.e 4
                have x0_1_4 : W0.cell? ⟨w.heap.size + 1, 4, none⟩ = some (.string u.name) := row_cell HB0.out.f 4
                have x0_0_5 : W0.cell? ⟨w.heap.size, 5, none⟩ = some (.int .i64 0) := row_cell HB0.out.e 5
                have x0_1_5 : W0.cell? ⟨w.heap.size + 1, 5, none⟩ = some (.int .i64 u.steps) := row_cell HB0.out.f 5
                have x0_0_6 : W0.cell? ⟨w.heap.size, 6, none⟩ = some (.slice none 0 0) := row_cell HB0.out.e 6
                have x0_1_6 : W0.cell? ⟨w.heap.size + 1, 6, none⟩ = some (.slice ad0 u.files.length cp0) := row_cell HB0.out.f 6
                have x0_0_7 : W0.cell? ⟨w.heap.size, 7, none⟩ = some (.slice none 0 0) := row_cell HB0.out.e 7
                have x0_1_7 : W0.cell? ⟨w.heap.size + 1, 7, none⟩ = some (.slice ad1 u.said.length cp1) := row_cell HB0.out.f 7
                go_wp2_with fail
                refine (same_below (equalFl_l u.files _ hf (K0.out.next HB0.out.lo))).mono ?_
                rintro e W1 ⟨hs, hb⟩
                have hq := hs.neg C6.out
                obtain rfl := hq
                have HB1 := hid (HB0.out.next hb)
                clear hs hb x0_0_0 x0_1_0 x0_0_1 x0_1_1 x0_0_2 x0_1_2 x0_0_3 x0_1_3 x0_0_4 x0_1_4 x0_0_5 x0_1_5 x0_0_6 x0_1_6 x0_0_7 x0_1_7
                go_wp2
                go_ret
                exact ⟨says_f fun h => C6.out h.2.2.2.2.2.2.1, HB1.out.lo⟩
            · have q5 : (u.steps == 0) = false := by simp [c5]
              have p5 : ((0 : Int) == u.steps) = false := by rw [beq_eq_false_iff_ne]; intro h; exact c5 h.symm
              have C5 := hid c5
              clear c5
              go_enter Tryz.func56, Tryz.ntmps56
              go_upto_region 1 with fail
              clear hW0
              have x0_0_0 : W0.cell? ⟨w.heap.size, 0, none⟩ = some (.bool false) := row_cell HB0.out.e 0
              have x0_1_0 : W0.cell? ⟨w.heap.size + 1, 0, none⟩ = some (.bool u.over) := row_cell HB0.out.f 0
              have x0_0_1 : W0.cell? ⟨w.heap.size, 1, none⟩ = some (.int .i64 0) := row_cell HB0.out.e 1
              have x0_1_1 : W0.cell? ⟨w.heap.size + 1, 1, none⟩ = some (.int .i64 u.code) := row_cell HB0.out.f 1
              have x0_0_2 : W0.cell? ⟨w.heap.size, 2, none⟩ = some (.string ⟨#[]⟩) := row_cell HB0.out.e 2
              have x0_1_2 : W0.cell? ⟨w.heap.size + 1, 2, none⟩ = some (.string u.text) := row_cell HB0.out.f 2
              have x0_0_3 : W0.cell? ⟨w.heap.size, 3, none⟩ = some (.int .i64 0) := row_cell HB0.out.e 3
              have x0_1_3 : W0.cell? ⟨w.heap.size + 1, 3, none⟩ = some (.int .i64 u.kind) := row_cell HB0.out.f 3
              have x0_0_4 : W0.cell? ⟨w.heap.size, 4, none⟩ = some (.string ⟨#[]⟩) := row_cell HB0.out.e 4
              have x0_1_4 : W0.cell? ⟨w.heap.size + 1, 4, none⟩ = some (.string u.name) := row_cell HB0.out.f 4
              have x0_0_5 : W0.cell? ⟨w.heap.size, 5, none⟩ = some (.int .i64 0) := row_cell HB0.out.e 5
              have x0_1_5 : W0.cell? ⟨w.heap.size + 1, 5, none⟩ = some (.int .i64 u.steps) := row_cell HB0.out.f 5
              have x0_0_6 : W0.cell? ⟨w.heap.size, 6, none⟩ = some (.slice none 0 0) := row_cell HB0.out.e 6
              have x0_1_6 : W0.cell? ⟨w.heap.size + 1, 6, none⟩ = some (.slice ad0 u.files.length cp0) := row_cell HB0.out.f 6
              have x0_0_7 : W0.cell? ⟨w.heap.size, 7, none⟩ = some (.slice none 0 0) := row_cell HB0.out.e 7
              have x0_1_7 : W0.cell? ⟨w.heap.size + 1, 7, none⟩ = some (.slice ad1 u.said.length cp1) := row_cell HB0.out.f 7
              go_wp2
              go_ret
              exact ⟨says_f fun h => C5.out h.2.2.2.2.2.1, HB0.out.lo⟩
          · have q4 : u.name.toList.isEmpty = false := by rw [J.isEmpty_iff]; simp [c4]
            have r4 : (u.name.toList == ByteArray.toList ⟨#[]⟩) = false := by rw [texts_eq]; simp; intro h; rw [h] at c4; exact c4 rfl
            have t4 : (ByteArray.toList ⟨#[]⟩ == u.name.toList) = false := by rw [texts_eq]; simp; intro h; rw [← h] at c4; exact c4 rfl
            have u4 : (([] : List UInt8) == u.name.toList) = false := by rw [beq_eq_false_iff_ne]; intro h; have h2 := J.len_size u.name; rw [← Lib.toList_data, ← h] at h2; exact c4 h2.symm
            have C4 := hid c4
            clear c4
            go_enter Tryz.func56, Tryz.ntmps56
            go_upto_region 1 with fail
            clear hW0
            have x0_0_0 : W0.cell? ⟨w.heap.size, 0, none⟩ = some (.bool false) := row_cell HB0.out.e 0
            have x0_1_0 : W0.cell? ⟨w.heap.size + 1, 0, none⟩ = some (.bool u.over) := row_cell HB0.out.f 0
            have x0_0_1 : W0.cell? ⟨w.heap.size, 1, none⟩ = some (.int .i64 0) := row_cell HB0.out.e 1
            have x0_1_1 : W0.cell? ⟨w.heap.size + 1, 1, none⟩ = some (.int .i64 u.code) := row_cell HB0.out.f 1
            have x0_0_2 : W0.cell? ⟨w.heap.size, 2, none⟩ = some (.string ⟨#[]⟩) := row_cell HB0.out.e 2
            have x0_1_2 : W0.cell? ⟨w.heap.size + 1, 2, none⟩ = some (.string u.text) := row_cell HB0.out.f 2
            have x0_0_3 : W0.cell? ⟨w.heap.size, 3, none⟩ = some (.int .i64 0) := row_cell HB0.out.e 3
            have x0_1_3 : W0.cell? ⟨w.heap.size + 1, 3, none⟩ = some (.int .i64 u.kind) := row_cell HB0.out.f 3
            have x0_0_4 : W0.cell? ⟨w.heap.size, 4, none⟩ = some (.string ⟨#[]⟩) := row_cell HB0.out.e 4
            have x0_1_4 : W0.cell? ⟨w.heap.size + 1, 4, none⟩ = some (.string u.name) := row_cell HB0.out.f 4
            have x0_0_5 : W0.cell? ⟨w.heap.size, 5, none⟩ = some (.int .i64 0) := row_cell HB0.out.e 5
            have x0_1_5 : W0.cell? ⟨w.heap.size + 1, 5, none⟩ = some (.int .i64 u.steps) := row_cell HB0.out.f 5
            have x0_0_6 : W0.cell? ⟨w.heap.size, 6, none⟩ = some (.slice none 0 0) := row_cell HB0.out.e 6
            have x0_1_6 : W0.cell? ⟨w.heap.size + 1, 6, none⟩ = some (.slice ad0 u.files.length cp0) := row_cell HB0.out.f 6
            have x0_0_7 : W0.cell? ⟨w.heap.size, 7, none⟩ = some (.slice none 0 0) := row_cell HB0.out.e 7
            have x0_1_7 : W0.cell? ⟨w.heap.size + 1, 7, none⟩ = some (.slice ad1 u.said.length cp1) := row_cell HB0.out.f 7
            go_wp2
            go_ret
            exact ⟨says_f fun h => C4.out h.2.2.2.2.1, HB0.out.lo⟩
        · have q3 : (u.kind == 0) = false := by simp [c3]
          have p3 : ((0 : Int) == u.kind) = false := by rw [beq_eq_false_iff_ne]; intro h; exact c3 h.symm
          have C3 := hid c3
          clear c3
          go_enter Tryz.func56, Tryz.ntmps56
          go_upto_region 1 with fail
          clear hW0
          have x0_0_0 : W0.cell? ⟨w.heap.size, 0, none⟩ = some (.bool false) := row_cell HB0.out.e 0
          have x0_1_0 : W0.cell? ⟨w.heap.size + 1, 0, none⟩ = some (.bool u.over) := row_cell HB0.out.f 0
          have x0_0_1 : W0.cell? ⟨w.heap.size, 1, none⟩ = some (.int .i64 0) := row_cell HB0.out.e 1
          have x0_1_1 : W0.cell? ⟨w.heap.size + 1, 1, none⟩ = some (.int .i64 u.code) := row_cell HB0.out.f 1
          have x0_0_2 : W0.cell? ⟨w.heap.size, 2, none⟩ = some (.string ⟨#[]⟩) := row_cell HB0.out.e 2
          have x0_1_2 : W0.cell? ⟨w.heap.size + 1, 2, none⟩ = some (.string u.text) := row_cell HB0.out.f 2
          have x0_0_3 : W0.cell? ⟨w.heap.size, 3, none⟩ = some (.int .i64 0) := row_cell HB0.out.e 3
          have x0_1_3 : W0.cell? ⟨w.heap.size + 1, 3, none⟩ = some (.int .i64 u.kind) := row_cell HB0.out.f 3
          have x0_0_4 : W0.cell? ⟨w.heap.size, 4, none⟩ = some (.string ⟨#[]⟩) := row_cell HB0.out.e 4
          have x0_1_4 : W0.cell? ⟨w.heap.size + 1, 4, none⟩ = some (.string u.name) := row_cell HB0.out.f 4
          have x0_0_5 : W0.cell? ⟨w.heap.size, 5, none⟩ = some (.int .i64 0) := row_cell HB0.out.e 5
          have x0_1_5 : W0.cell? ⟨w.heap.size + 1, 5, none⟩ = some (.int .i64 u.steps) := row_cell HB0.out.f 5
          have x0_0_6 : W0.cell? ⟨w.heap.size, 6, none⟩ = some (.slice none 0 0) := row_cell HB0.out.e 6
          have x0_1_6 : W0.cell? ⟨w.heap.size + 1, 6, none⟩ = some (.slice ad0 u.files.length cp0) := row_cell HB0.out.f 6
          have x0_0_7 : W0.cell? ⟨w.heap.size, 7, none⟩ = some (.slice none 0 0) := row_cell HB0.out.e 7
          have x0_1_7 : W0.cell? ⟨w.heap.size + 1, 7, none⟩ = some (.slice ad1 u.said.length cp1) := row_cell HB0.out.f 7
          go_wp2
          go_ret
          exact ⟨says_f fun h => C3.out h.2.2.2.1, HB0.out.lo⟩
      · have q2 : u.text.toList.isEmpty = false := by rw [J.isEmpty_iff]; simp [c2]
        have r2 : (u.text.toList == ByteArray.toList ⟨#[]⟩) = false := by rw [texts_eq]; simp; intro h; rw [h] at c2; exact c2 rfl
        have t2 : (ByteArray.toList ⟨#[]⟩ == u.text.toList) = false := by rw [texts_eq]; simp; intro h; rw [← h] at c2; exact c2 rfl
        have u2 : (([] : List UInt8) == u.text.toList) = false := by rw [beq_eq_false_iff_ne]; intro h; have h2 := J.len_size u.text; rw [← Lib.toList_data, ← h] at h2; exact c2 h2.symm
        have C2 := hid c2
        clear c2
        go_enter Tryz.func56, Tryz.ntmps56
        go_upto_region 1 with fail
        clear hW0
        have x0_0_0 : W0.cell? ⟨w.heap.size, 0, none⟩ = some (.bool false) := row_cell HB0.out.e 0
        have x0_1_0 : W0.cell? ⟨w.heap.size + 1, 0, none⟩ = some (.bool u.over) := row_cell HB0.out.f 0
        have x0_0_1 : W0.cell? ⟨w.heap.size, 1, none⟩ = some (.int .i64 0) := row_cell HB0.out.e 1
        have x0_1_1 : W0.cell? ⟨w.heap.size + 1, 1, none⟩ = some (.int .i64 u.code) := row_cell HB0.out.f 1
        have x0_0_2 : W0.cell? ⟨w.heap.size, 2, none⟩ = some (.string ⟨#[]⟩) := row_cell HB0.out.e 2
        have x0_1_2 : W0.cell? ⟨w.heap.size + 1, 2, none⟩ = some (.string u.text) := row_cell HB0.out.f 2
        have x0_0_3 : W0.cell? ⟨w.heap.size, 3, none⟩ = some (.int .i64 0) := row_cell HB0.out.e 3
        have x0_1_3 : W0.cell? ⟨w.heap.size + 1, 3, none⟩ = some (.int .i64 u.kind) := row_cell HB0.out.f 3
        have x0_0_4 : W0.cell? ⟨w.heap.size, 4, none⟩ = some (.string ⟨#[]⟩) := row_cell HB0.out.e 4
        have x0_1_4 : W0.cell? ⟨w.heap.size + 1, 4, none⟩ = some (.string u.name) := row_cell HB0.out.f 4
        have x0_0_5 : W0.cell? ⟨w.heap.size, 5, none⟩ = some (.int .i64 0) := row_cell HB0.out.e 5
        have x0_1_5 : W0.cell? ⟨w.heap.size + 1, 5, none⟩ = some (.int .i64 u.steps) := row_cell HB0.out.f 5
        have x0_0_6 : W0.cell? ⟨w.heap.size, 6, none⟩ = some (.slice none 0 0) := row_cell HB0.out.e 6
        have x0_1_6 : W0.cell? ⟨w.heap.size + 1, 6, none⟩ = some (.slice ad0 u.files.length cp0) := row_cell HB0.out.f 6
        have x0_0_7 : W0.cell? ⟨w.heap.size, 7, none⟩ = some (.slice none 0 0) := row_cell HB0.out.e 7
        have x0_1_7 : W0.cell? ⟨w.heap.size + 1, 7, none⟩ = some (.slice ad1 u.said.length cp1) := row_cell HB0.out.f 7
        go_wp2
        go_ret
        exact ⟨says_f fun h => C2.out h.2.2.1, HB0.out.lo⟩
    · have q1 : (u.code == 0) = false := by simp [c1]
      have p1 : ((0 : Int) == u.code) = false := by rw [beq_eq_false_iff_ne]; intro h; exact c1 h.symm
      have C1 := hid c1
      clear c1
      go_enter Tryz.func56, Tryz.ntmps56
      go_upto_region 1 with fail
      clear hW0
      have x0_0_0 : W0.cell? ⟨w.heap.size, 0, none⟩ = some (.bool false) := row_cell HB0.out.e 0
      have x0_1_0 : W0.cell? ⟨w.heap.size + 1, 0, none⟩ = some (.bool u.over) := row_cell HB0.out.f 0
      have x0_0_1 : W0.cell? ⟨w.heap.size, 1, none⟩ = some (.int .i64 0) := row_cell HB0.out.e 1
      have x0_1_1 : W0.cell? ⟨w.heap.size + 1, 1, none⟩ = some (.int .i64 u.code) := row_cell HB0.out.f 1
      have x0_0_2 : W0.cell? ⟨w.heap.size, 2, none⟩ = some (.string ⟨#[]⟩) := row_cell HB0.out.e 2
      have x0_1_2 : W0.cell? ⟨w.heap.size + 1, 2, none⟩ = some (.string u.text) := row_cell HB0.out.f 2
      have x0_0_3 : W0.cell? ⟨w.heap.size, 3, none⟩ = some (.int .i64 0) := row_cell HB0.out.e 3
      have x0_1_3 : W0.cell? ⟨w.heap.size + 1, 3, none⟩ = some (.int .i64 u.kind) := row_cell HB0.out.f 3
      have x0_0_4 : W0.cell? ⟨w.heap.size, 4, none⟩ = some (.string ⟨#[]⟩) := row_cell HB0.out.e 4
      have x0_1_4 : W0.cell? ⟨w.heap.size + 1, 4, none⟩ = some (.string u.name) := row_cell HB0.out.f 4
      have x0_0_5 : W0.cell? ⟨w.heap.size, 5, none⟩ = some (.int .i64 0) := row_cell HB0.out.e 5
      have x0_1_5 : W0.cell? ⟨w.heap.size + 1, 5, none⟩ = some (.int .i64 u.steps) := row_cell HB0.out.f 5
      have x0_0_6 : W0.cell? ⟨w.heap.size, 6, none⟩ = some (.slice none 0 0) := row_cell HB0.out.e 6
      have x0_1_6 : W0.cell? ⟨w.heap.size + 1, 6, none⟩ = some (.slice ad0 u.files.length cp0) := row_cell HB0.out.f 6
      have x0_0_7 : W0.cell? ⟨w.heap.size, 7, none⟩ = some (.slice none 0 0) := row_cell HB0.out.e 7
      have x0_1_7 : W0.cell? ⟨w.heap.size + 1, 7, none⟩ = some (.slice ad1 u.said.length cp1) := row_cell HB0.out.f 7
      go_wp2
      go_ret
      exact ⟨says_f fun h => C1.out h.2.1, HB0.out.lo⟩
  · have q0 : (!u.over) = false := by simp at c0; simp [c0]
    have p0 : (u.over == false) = false := by simp at c0; simp [c0]
    have o0 : (false == u.over) = false := by simp at c0; simp [c0]
    have C0 := hid c0
    clear c0
    go_enter Tryz.func56, Tryz.ntmps56
    go_upto_region 1 with fail
    clear hW0
    have x0_0_0 : W0.cell? ⟨w.heap.size, 0, none⟩ = some (.bool false) := row_cell HB0.out.e 0
    have x0_1_0 : W0.cell? ⟨w.heap.size + 1, 0, none⟩ = some (.bool u.over) := row_cell HB0.out.f 0
    have x0_0_1 : W0.cell? ⟨w.heap.size, 1, none⟩ = some (.int .i64 0) := row_cell HB0.out.e 1
    have x0_1_1 : W0.cell? ⟨w.heap.size + 1, 1, none⟩ = some (.int .i64 u.code) := row_cell HB0.out.f 1
    have x0_0_2 : W0.cell? ⟨w.heap.size, 2, none⟩ = some (.string ⟨#[]⟩) := row_cell HB0.out.e 2
    have x0_1_2 : W0.cell? ⟨w.heap.size + 1, 2, none⟩ = some (.string u.text) := row_cell HB0.out.f 2
    have x0_0_3 : W0.cell? ⟨w.heap.size, 3, none⟩ = some (.int .i64 0) := row_cell HB0.out.e 3
    have x0_1_3 : W0.cell? ⟨w.heap.size + 1, 3, none⟩ = some (.int .i64 u.kind) := row_cell HB0.out.f 3
    have x0_0_4 : W0.cell? ⟨w.heap.size, 4, none⟩ = some (.string ⟨#[]⟩) := row_cell HB0.out.e 4
    have x0_1_4 : W0.cell? ⟨w.heap.size + 1, 4, none⟩ = some (.string u.name) := row_cell HB0.out.f 4
    have x0_0_5 : W0.cell? ⟨w.heap.size, 5, none⟩ = some (.int .i64 0) := row_cell HB0.out.e 5
    have x0_1_5 : W0.cell? ⟨w.heap.size + 1, 5, none⟩ = some (.int .i64 u.steps) := row_cell HB0.out.f 5
    have x0_0_6 : W0.cell? ⟨w.heap.size, 6, none⟩ = some (.slice none 0 0) := row_cell HB0.out.e 6
    have x0_1_6 : W0.cell? ⟨w.heap.size + 1, 6, none⟩ = some (.slice ad0 u.files.length cp0) := row_cell HB0.out.f 6
    have x0_0_7 : W0.cell? ⟨w.heap.size, 7, none⟩ = some (.slice none 0 0) := row_cell HB0.out.e 7
    have x0_1_7 : W0.cell? ⟨w.heap.size + 1, 7, none⟩ = some (.slice ad1 u.said.length cp1) := row_cell HB0.out.f 7
    go_wp2
    go_ret
    exact ⟨says_f fun h => C0.out h.1, HB0.out.lo⟩
end Go.Proofs.YtlopcjhipajdcaaGreatDoor.Y
