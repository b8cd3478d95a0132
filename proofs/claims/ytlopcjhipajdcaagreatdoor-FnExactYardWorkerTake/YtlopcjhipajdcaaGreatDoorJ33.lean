import Derived.Test.YtlopcjhipajdcaaGreatDoorJ24
import Derived.Test.YtlopcjhipajdcaaGreatDoorJ04
/-! Sizes. -/
namespace Go.Proofs.YtlopcjhipajdcaaGreatDoor.R
open Go.RowKit
set_option maxRecDepth 20000
set_option maxHeartbeats 2000000 in
theorem szMs_any (x : Ms) {v0 v1 v2 v3 v4 : Value} (l : Int) (w : World) (hl : 0 ≤ l) (hl2 : l ≤ 1048576) (hx : OkMs x) (k0 : SStrA w v0 x.target.ins) (k1 : SStrA w v1 x.target.outs) (k2 : SSnA w v2 x.seen) (k3 : SFlA w v3 x.turn.files) (k4 : SStrA w v4 x.turn.said) :
    Calls Tryz.prog 10 #[.agg #[.int .i64 x.kind, .int .i64 x.to, .int .i64 x.sender, .int .i64 x.epoch, .int .i64 x.edit, .string x.target.name, .string x.target.tool, .string x.target.arg, v0, v1, v2, .int .i64 x.count, .bool x.turn.over, .int .i64 x.turn.code, .string x.turn.text, .int .i64 x.turn.kind, .string x.turn.name, .int .i64 x.turn.steps, v3, v4], .int .i64 l] w (SzEnd l (wMs x) w) := by
  have HX := hid hx
  obtain ⟨hx0, hx1, hx2, hx3, hx4, hx5, hx6, hx7, hx8⟩ := hx
  have HB0 := hid (B1.start w (.cells #[.int .i64 x.kind, .int .i64 x.to, .int .i64 x.sender, .int .i64 x.epoch, .int .i64 x.edit, .string x.target.name, .string x.target.tool, .string x.target.arg, v0, v1, v2, .int .i64 x.count, .bool x.turn.over, .int .i64 x.turn.code, .string x.turn.text, .int .i64 x.turn.kind, .string x.turn.name, .int .i64 x.turn.steps, v3, v4] 30))
  have K0 := hid (k0.next HB0.out.lo)
  have K1 := hid (k1.next HB0.out.lo)
  have K2 := hid (k2.next HB0.out.lo)
  have K3 := hid (k3.next HB0.out.lo)
  have K4 := hid (k4.next HB0.out.lo)
  obtain ⟨ad0, cp0, rfl⟩ := k0.sl
  obtain ⟨ad1, cp1, rfl⟩ := k1.sl
  obtain ⟨ad2, cp2, rfl⟩ := k2.sl
  obtain ⟨ad3, cp3, rfl⟩ := k3.sl
  obtain ⟨ad4, cp4, rfl⟩ := k4.sl
  clear k0 k1 k2 k3 k4
  go_enter Tryz.func10, Tryz.ntmps10
  go_wp2_with fail
  refine (szTg_any x.target _ _ (by omega) (by omega) hx5 (K0.out) (K1.out)).mono ?_
  rintro e w1 ⟨⟨r0, rfl, p0, q0, h0⟩, hb0⟩
  have HP0 := hid h0
  have HN0 := hid hb0
  have HB1 := hid (HB0.out.next hb0)
  clear h0 hb0
  have b0_10 : w1.cell? ⟨w.heap.size, 10, none⟩ = some (.slice ad2 x.seen.length cp2) := row_cell HB1.out.e 10
  have b0_12 : w1.cell? ⟨w.heap.size, 12, none⟩ = some (.bool x.turn.over) := row_cell HB1.out.e 12
  have b0_13 : w1.cell? ⟨w.heap.size, 13, none⟩ = some (.int .i64 x.turn.code) := row_cell HB1.out.e 13
  have b0_14 : w1.cell? ⟨w.heap.size, 14, none⟩ = some (.string x.turn.text) := row_cell HB1.out.e 14
  have b0_15 : w1.cell? ⟨w.heap.size, 15, none⟩ = some (.int .i64 x.turn.kind) := row_cell HB1.out.e 15
  have b0_16 : w1.cell? ⟨w.heap.size, 16, none⟩ = some (.string x.turn.name) := row_cell HB1.out.e 16
  have b0_17 : w1.cell? ⟨w.heap.size, 17, none⟩ = some (.int .i64 x.turn.steps) := row_cell HB1.out.e 17
  have b0_18 : w1.cell? ⟨w.heap.size, 18, none⟩ = some (.slice ad3 x.turn.files.length cp3) := row_cell HB1.out.e 18
  have b0_19 : w1.cell? ⟨w.heap.size, 19, none⟩ = some (.slice ad4 x.turn.said.length cp4) := row_cell HB1.out.e 19
  by_cases c5 : r0 < 0
  · go_wp2
    go_ret
    exact ⟨⟨_, rfl, by omega, by omega, fun h => by omega⟩, HB1.out.lo⟩
  · go_wp2_with fail
    refine (szSSn_any x.seen _ _ (by omega) (by omega) hx6 (K2.out.next HN0.out)).mono ?_
    rintro e w2 ⟨⟨r1, rfl, p1, q1, h1⟩, hb1⟩
    have HP1 := hid h1
    have HN1 := hid (HN0.out.trans (hb1.mono HN0.out.size))
    have HB2 := hid (HB1.out.next hb1)
    clear h1 hb1
    have b1_12 : w2.cell? ⟨w.heap.size, 12, none⟩ = some (.bool x.turn.over) := row_cell HB2.out.e 12
    have b1_13 : w2.cell? ⟨w.heap.size, 13, none⟩ = some (.int .i64 x.turn.code) := row_cell HB2.out.e 13
    have b1_14 : w2.cell? ⟨w.heap.size, 14, none⟩ = some (.string x.turn.text) := row_cell HB2.out.e 14
    have b1_15 : w2.cell? ⟨w.heap.size, 15, none⟩ = some (.int .i64 x.turn.kind) := row_cell HB2.out.e 15
    have b1_16 : w2.cell? ⟨w.heap.size, 16, none⟩ = some (.string x.turn.name) := row_cell HB2.out.e 16
    have b1_17 : w2.cell? ⟨w.heap.size, 17, none⟩ = some (.int .i64 x.turn.steps) := row_cell HB2.out.e 17
    have b1_18 : w2.cell? ⟨w.heap.size, 18, none⟩ = some (.slice ad3 x.turn.files.length cp3) := row_cell HB2.out.e 18
    have b1_19 : w2.cell? ⟨w.heap.size, 19, none⟩ = some (.slice ad4 x.turn.said.length cp4) := row_cell HB2.out.e 19
    by_cases c6 : r1 < 0
    · go_wp2
      go_ret
      exact ⟨⟨_, rfl, by omega, by omega, fun h => by omega⟩, HB2.out.lo⟩
    · go_wp2_with fail
      refine (szTu_any x.turn _ _ (by omega) (by omega) hx8 (K3.out.next HN1.out) (K4.out.next HN1.out)).mono ?_
      rintro e w3 ⟨⟨r2, rfl, p2, q2, h2⟩, hb2⟩
      have HP2 := hid h2
      have HN2 := hid (HN1.out.trans (hb2.mono HN1.out.size))
      have HB3 := hid (HB2.out.next hb2)
      clear h2 hb2
      by_cases c8 : r2 < 0
      · go_wp2
        go_ret
        exact ⟨⟨_, rfl, by omega, by omega, fun h => by omega⟩, HB3.out.lo⟩
      · go_wp2
        go_ret
        refine ⟨⟨_, rfl, by omega, by omega, fun h => ?_⟩, HB3.out.lo⟩
        have eHP0 := HP0.out (by omega)
        have eHP1 := HP1.out (by omega)
        have eHP2 := HP2.out (by omega)
        simp only [wMs]
        omega
end Go.Proofs.YtlopcjhipajdcaaGreatDoor.R
/-! Jobs of targets by the program. -/
namespace Go.Proofs.YtlopcjhipajdcaaGreatDoor.Y
open Go.RowKit R
open Go.Proofs.YtlopcjhipajdcaaGreatDoor.J (FileOk BegOk RepOk ltB Says says_t says_f implFile_any all_step JobOk OutOk)
set_option maxRecDepth 20000
set_option maxHeartbeats 2000000 in
theorem jobA_any (a : ByteArray) (l : List ByteArray) {v : Value} (w : World) (hl : l.length ≤ 1048576) (ht : ∀ i, i < l.length → (l.getD i ⟨#[]⟩).size ≤ 1048576) (k0 : SStrA w v l) :
    Calls Tryz.prog 159 #[.agg #[.string a, v]] w fun e w' => Says e (JobOk a l.length fun i => l.getD i ⟨#[]⟩) ∧ Below w.heap.size w w' := by
  have K0 := hid k0
  have HT := hid ht
  obtain ⟨ad, cp, rfl⟩ := k0.sl
  clear k0 ht
  have HB0 := hid (B1.start w (.cells #[.string a, .slice ad l.length cp] 199))
  obtain ⟨W0, hW0⟩ : ∃ W, w.alloc (.cells #[.string a, .slice ad l.length cp] 199) = W := ⟨_, rfl⟩
  rw [hW0] at HB0
  go_enter Tryz.func159, Tryz.ntmps159
  go_upto_region 1 with fail
  clear hW0
  have a0 : W0.cell? ⟨w.heap.size, 0, none⟩ = some (.string a) := row_cell HB0.out.e 0
  have a1 : W0.cell? ⟨w.heap.size, 1, none⟩ = some (.slice ad l.length cp) := row_cell HB0.out.e 1
  by_cases h1 : ¬ a.size ≤ 3000
  · go_wp2
    go_ret
    exact ⟨says_f fun h => h1 h.1, HB0.out.lo⟩
  have h1 := Classical.not_not.1 h1
  by_cases h2 : ¬ l.length ≤ 20
  · go_wp2
    go_ret
    exact ⟨says_f fun h => h2 h.2.1, HB0.out.lo⟩
  have h2 := Classical.not_not.1 h2
  go_wp2
  go_loopw [3, 4, 18] (fun _ _ i wr => ∃ k : Nat, k ≤ l.length ∧ i = .int .i64 k ∧ (∀ i, i < k → OutOk (fun i => l.getD i ⟨#[]⟩) i) ∧ B1 w (.cells #[.string a, .slice ad l.length cp] 199) wr) (fun _ _ i _ => l.length - (intOf i).toNat)
  case atStart => exact ⟨0, Nat.zero_le _, rfl, fun i h => absurd h (Nat.not_lt_zero _), HB0.out⟩
  case round =>
    obtain ⟨k, hk, rfl, hr, hbw⟩ := hrel
    have HR := hid hr
    have HBW := hid hbw
    clear hr hbw a0 a1
    by_cases hlt : k < l.length
    · obtain ⟨b, c, e9, hal, c0⟩ := (K0.out.next HBW.out.lo).at hlt
      injection e9 with ea en ec
      subst ea ec
      clear en
      unfold StrA at c0
      have hsz := HT.out k hlt
      have hfail : Hid (¬ OutOk (fun i => l.getD i ⟨#[]⟩) k → ¬ JobOk a l.length fun i => l.getD i ⟨#[]⟩) := fun h h' => h (h'.2.2 k hlt)
      have NX : Hid (OutOk (fun i => l.getD i ⟨#[]⟩) k → ∀ i, i < k + 1 → OutOk (fun i => l.getD i ⟨#[]⟩) i) := fun h => all_step HR.out h
      have HX : Hid ((FileOk (l.getD k ⟨#[]⟩) ∧ (0 < k → ltB (l.getD (k - 1) ⟨#[]⟩) (l.getD k ⟨#[]⟩) = true)) ↔ OutOk (fun i => l.getD i ⟨#[]⟩) k) := Iff.rfl
      obtain ⟨x, hx⟩ : ∃ x, l.getD k ⟨#[]⟩ = x := ⟨_, rfl⟩
      rw [hx] at c0 hsz HX
      clear hx
      go_wp2_with fail
      refine (implFile_any _ _ hsz).mono ?_
      rintro e w3 ⟨hs3, hb3⟩
      have HB3 := hid (HBW.out.next hb3)
      clear c0 hb3
      have b1 : w3.cell? ⟨w.heap.size, 1, none⟩ = some (.slice (some b) l.length cp) := row_cell HB3.out.e 1
      by_cases hP : FileOk x
      · have hq := hs3.pos hP
        obtain rfl := hq
        have HP := hid hP
        clear hs3 hP
        rcases Nat.eq_zero_or_pos k with h0 | h0
        · subst h0
          have HO := hid (NX.out (HX.out.1 ⟨HP.out, fun h => absurd h (Nat.lt_irrefl _)⟩))
          go_wp2
          go_roundw
          case rel => exact ⟨0 + 1, by omega, by go_num, HO.out, HB3.out⟩
          case measure => simp [intOf]; omega
        · obtain ⟨p, rfl⟩ : ∃ p, k = p + 1 := ⟨k - 1, by omega⟩
          obtain ⟨b', c', e9, _, c1⟩ := (K0.out.next HB3.out.lo).at (i := p) (by omega)
          injection e9 with ea en ec
          injection ea with ea
          subst ea ec
          clear en
          unfold StrA at c1
          rw [Nat.add_sub_cancel] at HX
          obtain ⟨y, hy⟩ : ∃ y, l.getD p ⟨#[]⟩ = y := ⟨_, rfl⟩
          rw [hy] at c1 HX
          clear hy
          cases hL : Go.Op.bytesLess y.toList x.toList
          · have HE := hid (hfail.out (fun h => by have := (HX.out.2 h).2 (by omega); unfold ltB at this; rw [hL] at this; cases this))
            go_wp2
            go_ret
            exact ⟨says_f HE.out, HB3.out.lo⟩
          · have HO := hid (NX.out (HX.out.1 ⟨HP.out, fun _ => hL⟩))
            go_wp2
            go_roundw
            case rel => exact ⟨p + 1 + 1, by omega, by go_num, HO.out, HB3.out⟩
            case measure => simp [intOf]; omega
      · have hq := hs3.neg hP
        obtain rfl := hq
        have HE := hid (hfail.out (fun h => hP (HX.out.2 h).1))
        clear hs3 hP
        go_wp2
        go_ret
        exact ⟨says_f HE.out, HB3.out.lo⟩
    · obtain rfl : k = l.length := by omega
      have HO := hid (show JobOk a l.length (fun i => l.getD i ⟨#[]⟩) from ⟨h1, h2, HR.out⟩)
      go_wp2
      go_ret
      exact ⟨says_t HO.out, HBW.out.lo⟩
set_option maxHeartbeats 1000000 in
theorem badName_any (s : ByteArray) (w : World) (hs : s.size ≤ 1048576) :
    Calls Tryz.prog 162 #[.string s] w fun e w' => Says e (¬ FileOk s) ∧ Below w.heap.size w w' := by
  have HF := hid (fun W => implFile_any s W hs)
  go_enter Tryz.func162, Tryz.ntmps162
  go_wp2_with fail
  refine (HF.out _).mono ?_
  rintro e W1 ⟨⟨b, rfl, hq⟩, hb⟩
  have HB1 := hid hb
  have HQ := hid hq
  clear hb hq
  go_wp2
  go_ret
  exact ⟨⟨!b, rfl, by rw [← HQ.out]; simp⟩, HB1.out⟩
def IyEnd (n : Nat) (P : Nat → Prop) (w : World) (e : Ending) (w' : World) : Prop := ∃ r : Int, e = .returned (.int .i64 r) ∧ (0 ≤ r ↔ ∃ j, j < n ∧ P j) ∧ Below w.heap.size w w'
set_option maxHeartbeats 2000000 in
theorem idxName_any (l : List ByteArray) {v : Value} (w : World) (hl : l.length ≤ 2000000) (k0 : SStrA w v l) (ht : ∀ i, i < l.length → (l.getD i ⟨#[]⟩).size ≤ 1048576) :
    Calls Tryz.prog 174 #[v, .func (.func 162) #[] #[]] w (IyEnd l.length (fun j => ¬ FileOk (l.getD j ⟨#[]⟩)) w) := by
  have K0 := hid k0
  have HT := hid ht
  obtain ⟨ad, cp, rfl⟩ := k0.sl
  clear k0 ht
  go_enter Tryz.func174, Tryz.ntmps174
  go_wp2_with fail
  go_loopw [8] (fun i wr => ∃ j : Nat, j ≤ l.length ∧ i = .int .i64 j ∧ Below w.heap.size w wr ∧ ∀ p, p < j → ¬ ¬ FileOk (l.getD p ⟨#[]⟩)) (fun i _ => l.length - (intOf i).toNat)
  case atStart => exact ⟨0, Nat.zero_le _, rfl, Below.refl _ _, fun p hp => absurd hp (Nat.not_lt_zero _)⟩
  case round =>
    obtain ⟨j, hj, rfl, hlo, hall⟩ := hrel
    have HLO := hid hlo
    have HALL := hid hall
    clear hlo hall
    by_cases hlt : j < l.length
    · have hlti : (j : Int) < (l.length : Int) := by omega
      obtain ⟨a, c, e9, hal, c0⟩ := (K0.out.next HLO.out).at hlt
      injection e9 with ea en ec
      subst ea ec
      clear en
      unfold StrA at c0
      have hsz := HT.out j hlt
      have NO : Hid (¬ ¬ FileOk (l.getD j ⟨#[]⟩) → ∀ p, p < j + 1 → ¬ ¬ FileOk (l.getD p ⟨#[]⟩)) := hid fun h p hp => by
        by_cases e : p = j
        · subst e; exact h
        · exact HALL.out p (by omega)
      have YE : Hid (¬ FileOk (l.getD j ⟨#[]⟩) → ∃ p, p < l.length ∧ ¬ FileOk (l.getD p ⟨#[]⟩)) := hid fun h => ⟨j, hlt, h⟩
      obtain ⟨x, hx⟩ : ∃ x, l.getD j ⟨#[]⟩ = x := ⟨_, rfl⟩
      rw [hx] at c0 hsz NO YE
      clear hx
      go_wp2_with fail
      refine (badName_any x _ hsz).mono ?_
      rintro e W2 ⟨hs, hb⟩
      have HB := hid (HLO.out.trans (hb.mono HLO.out.size))
      clear hb c0
      by_cases hP : ¬ FileOk x
      · have hq := hs.pos hP
        obtain rfl := hq
        have N2 := hid (YE.out hP)
        clear hs hP
        go_wp2
        go_ret
        exact ⟨j, rfl, ⟨fun _ => N2.out, fun _ => by omega⟩, HB.out⟩
      · have hq := hs.neg hP
        obtain rfl := hq
        have N2 := hid (NO.out hP)
        clear hs hP
        go_wp2
        go_roundw
        case rel => exact ⟨j + 1, by omega, by go_num, HB.out, N2.out⟩
        case measure => simp [intOf]; omega
    · obtain rfl : j = l.length := by omega
      have hge : ¬ ((l.length : Int) < (l.length : Int)) := by omega
      go_wp2_with fail
      go_ret
      exact ⟨-1, rfl, ⟨fun h => absurd h (by omega), fun ⟨j, h1, h2⟩ => absurd h2 (HALL.out j h1)⟩, HLO.out⟩
set_option maxHeartbeats 2000000 in
theorem hasName_any (l : List ByteArray) {v : Value} (w : World) (hl : l.length ≤ 2000000) (k0 : SStrA w v l) (ht : ∀ i, i < l.length → (l.getD i ⟨#[]⟩).size ≤ 1048576) :
    Calls Tryz.prog 161 #[v, .func (.func 162) #[] #[]] w fun e w' => Says e (∃ j, j < l.length ∧ ¬ FileOk (l.getD j ⟨#[]⟩)) ∧ Below w.heap.size w w' := by
  have H := hid (idxName_any l w hl k0 ht)
  obtain ⟨ad, cp, rfl⟩ := k0.sl
  clear k0 ht
  go_enter Tryz.func161, Tryz.ntmps161
  go_wp2_with fail
  refine H.out.mono ?_
  rintro e w' ⟨r, rfl, hr, hb⟩
  have HR := hid hr
  have HB := hid hb
  clear hr hb
  go_wp2
  go_ret
  exact ⟨⟨_, rfl, by rw [← HR.out]; simp⟩, HB.out⟩
end Go.Proofs.YtlopcjhipajdcaaGreatDoor.Y
