import Derived.Test.YtlopcjhipajdcaaGreatDoorJ42
/-! What a run could have seen, by the program. -/
namespace Go.Proofs.YtlopcjhipajdcaaGreatDoor.Y
open Go.RowKit R
open Go.Proofs.YtlopcjhipajdcaaGreatDoor.J (FileOk BegOk RepOk ltB Says says_t says_f)
set_option maxRecDepth 20000
set_option maxHeartbeats 1000000 in
theorem mostLooks_any (t : Tg) {v0 v1 : Value} (w : World) (hl : t.ins.length ≤ 1048576) (k0 : SStrA w v0 t.ins) :
    Calls Tryz.prog 163 #[.agg #[.string t.name, .string t.tool, .string t.arg, v0, v1]] w fun e w' => e = .returned (.int .i64 ((t.ins.length : Int) + 101)) ∧ Below w.heap.size w w' := by
  obtain ⟨ad, cp, rfl⟩ := k0.sl
  clear k0
  have HB0 := hid (B1.start w (.cells #[.string t.name, .string t.tool, .string t.arg, .slice ad t.ins.length cp, v1] 35))
  obtain ⟨W0, hW0⟩ : ∃ W, w.alloc (.cells #[.string t.name, .string t.tool, .string t.arg, .slice ad t.ins.length cp, v1] 35) = W := ⟨_, rfl⟩
  rw [hW0] at HB0
  go_enter Tryz.func163, Tryz.ntmps163
  go_upto_region 1 with fail
  clear hW0
  have a3 : W0.cell? ⟨w.heap.size, 3, none⟩ = some (.slice ad t.ins.length cp) := row_cell HB0.out.e 3
  go_wp2
  go_ret
  exact ⟨ret_int (by go_num), HB0.out.lo⟩
theorem all_of_not {l : List Sn} {P : Sn → Prop} (h : ¬ ∃ j, j < l.length ∧ ¬ P (l.getD j sn0)) : ∀ j, j < l.length → P (l.getD j sn0) := fun j hj => Classical.not_not.1 fun hn => h ⟨j, hj, hn⟩
set_option maxHeartbeats 2000000 in
theorem mayHaveSeen_any (t : Tg) (l : List Sn) {v0 v1 v2 : Value} (w : World) (ht : SmTg t) (hl : SmSn l) (k0 : SStrA w v0 t.ins) (k2 : SSnA w v2 l) :
    Calls Tryz.prog 137 #[.agg #[.string t.name, .string t.tool, .string t.arg, v0, v1], v2] w fun e w' => Says e (l.length ≤ t.ins.length + 101 ∧ ∀ j, j < l.length → RepOk (l.getD j sn0).reply.code (l.getD j sn0).reply.text) ∧ Below w.heap.size w w' := by
  obtain ⟨_, _, _, ⟨hi, _⟩, _⟩ := ht
  obtain ⟨hl1, hl2⟩ := hl
  have HM := hid (fun W (k : SStrA W v0 t.ins) => mostLooks_any t (v1 := v1) W hi k)
  have HS := hid (fun W (k : SSnA W v2 l) => hasReply_any (fun x => ¬ RepOk x.reply.code x.reply.text) l W hl1 k fun j hj V => badReply_any _ V (hl2 j hj).2)
  have K0 := hid k0
  have K2 := hid k2
  obtain ⟨ad0, cp0, rfl⟩ := k0.sl
  obtain ⟨ad2, cp2, rfl⟩ := k2.sl
  clear k0 k2 hl2
  have HB0 := hid (B1.start w (.cells #[.string t.name, .string t.tool, .string t.arg, .slice ad0 t.ins.length cp0, v1] 35))
  obtain ⟨W0, hW0⟩ : ∃ W, w.alloc (.cells #[.string t.name, .string t.tool, .string t.arg, .slice ad0 t.ins.length cp0, v1] 35) = W := ⟨_, rfl⟩
  rw [hW0] at HB0
  go_enter Tryz.func137, Tryz.ntmps137
  go_upto_region 1 with fail
  clear hW0
  have a0 : W0.cell? ⟨w.heap.size, 0, none⟩ = some (.string t.name) := row_cell HB0.out.e 0
  have a1 : W0.cell? ⟨w.heap.size, 1, none⟩ = some (.string t.tool) := row_cell HB0.out.e 1
  have a2 : W0.cell? ⟨w.heap.size, 2, none⟩ = some (.string t.arg) := row_cell HB0.out.e 2
  have a3 : W0.cell? ⟨w.heap.size, 3, none⟩ = some (.slice ad0 t.ins.length cp0) := row_cell HB0.out.e 3
  have a4 : W0.cell? ⟨w.heap.size, 4, none⟩ = some v1 := row_cell HB0.out.e 4
  go_wp2_with fail
  refine (HM.out _ (K0.out.next HB0.out.lo)).mono ?_
  rintro e W1 ⟨rfl, hb⟩
  have HB1 := hid (HB0.out.next hb)
  clear hb a0 a1 a2 a3 a4
  by_cases hle : l.length ≤ t.ins.length + 101
  · have HLE := hid hle
    have q : decide ((l.length : Int) ≤ (t.ins.length : Int) + 101) = true := by simp; omega
    have q2 : (l.length : Int) ≤ (t.ins.length : Int) + 101 := by omega
    clear hle
    go_wp2_with fail
    refine (HS.out _ (K2.out.next HB1.out.lo)).mono ?_
    rintro e W2 ⟨⟨b, rfl, hq⟩, hb⟩
    have HB2 := hid (HB1.out.next hb)
    have HQ := hid hq
    clear hb hq
    go_wp2
    go_ret
    refine ⟨⟨!b, rfl, ?_⟩, HB2.out.lo⟩
    constructor
    · intro h
      exact ⟨HLE.out, all_of_not (P := fun x => RepOk x.reply.code x.reply.text) fun h2 => by rw [HQ.out.2 h2] at h; cases h⟩
    · rintro ⟨_, h⟩
      cases b with
      | false => rfl
      | true => obtain ⟨j, hj, hn⟩ := HQ.out.1 rfl; exact absurd (h j hj) hn
  · have HLE := hid hle
    have q2 : ¬ (l.length : Int) ≤ (t.ins.length : Int) + 101 := by omega
    clear hle
    go_wp2
    go_ret
    exact ⟨says_f fun h => HLE.out h.1, HB1.out.lo⟩
set_option maxHeartbeats 2000000 in
theorem couldSee_any (t : Tg) (l : List Sn) {v0 v1 v2 : Value} (w : World) (ht : SmTg t) (hl : SmSn l) (k0 : SStrA w v0 t.ins) (k2 : SSnA w v2 l) :
    Calls Tryz.prog 122 #[.agg #[.string t.name, .string t.tool, .string t.arg, v0, v1], v2] w fun e w' => Says e (SnsOk t.ins.length l) ∧ Below w.heap.size w w' := by
  have HM := hid (fun W (k : SStrA W v0 t.ins) (k' : SSnA W v2 l) => mayHaveSeen_any t l (v1 := v1) W ht hl k k')
  obtain ⟨_, _, _, ⟨hi, _⟩, _⟩ := ht
  obtain ⟨hl1, hl2⟩ := hl
  have HS := hid (fun W (k : SSnA W v2 l) => hasLook_any (fun x => ¬ LookOk x.kind x.name) l W hl1 k fun j hj V => badLook_any _ V (hl2 j hj).1)
  have K0 := hid k0
  have K2 := hid k2
  obtain ⟨ad0, cp0, rfl⟩ := k0.sl
  obtain ⟨ad2, cp2, rfl⟩ := k2.sl
  clear k0 k2 hl2
  have HB0 := hid (B1.start w (.cells #[.string t.name, .string t.tool, .string t.arg, .slice ad0 t.ins.length cp0, v1] 35))
  obtain ⟨W0, hW0⟩ : ∃ W, w.alloc (.cells #[.string t.name, .string t.tool, .string t.arg, .slice ad0 t.ins.length cp0, v1] 35) = W := ⟨_, rfl⟩
  rw [hW0] at HB0
  go_enter Tryz.func122, Tryz.ntmps122
  go_upto_region 1 with fail
  clear hW0
  have a0 : W0.cell? ⟨w.heap.size, 0, none⟩ = some (.string t.name) := row_cell HB0.out.e 0
  have a1 : W0.cell? ⟨w.heap.size, 1, none⟩ = some (.string t.tool) := row_cell HB0.out.e 1
  have a2 : W0.cell? ⟨w.heap.size, 2, none⟩ = some (.string t.arg) := row_cell HB0.out.e 2
  have a3 : W0.cell? ⟨w.heap.size, 3, none⟩ = some (.slice ad0 t.ins.length cp0) := row_cell HB0.out.e 3
  have a4 : W0.cell? ⟨w.heap.size, 4, none⟩ = some v1 := row_cell HB0.out.e 4
  go_wp2_with fail
  refine (HM.out _ (K0.out.next HB0.out.lo) (K2.out.next HB0.out.lo)).mono ?_
  rintro e W1 ⟨hs, hb⟩
  have HB1 := hid (HB0.out.next hb)
  clear hb a0 a1 a2 a3 a4
  by_cases hP : l.length ≤ t.ins.length + 101 ∧ ∀ j, j < l.length → RepOk (l.getD j sn0).reply.code (l.getD j sn0).reply.text
  · have HP := hid hP
    have hq := hs.pos hP
    obtain rfl := hq
    clear hs hP
    go_wp2_with fail
    refine (HS.out _ (K2.out.next HB1.out.lo)).mono ?_
    rintro e W2 ⟨⟨b, rfl, hq⟩, hb⟩
    have HB2 := hid (HB1.out.next hb)
    have HQ := hid hq
    clear hb hq
    go_wp2
    go_ret
    refine ⟨⟨!b, rfl, ?_⟩, HB2.out.lo⟩
    constructor
    · intro h
      have hA := all_of_not (P := fun x => LookOk x.kind x.name) fun h2 => by rw [HQ.out.2 h2] at h; cases h
      exact ⟨HP.out.1, fun j hj => ⟨hA j hj, HP.out.2 j hj⟩⟩
    · rintro ⟨_, h⟩
      cases b with
      | false => rfl
      | true => obtain ⟨j, hj, hn⟩ := HQ.out.1 rfl; exact absurd (h j hj).1 hn
  · have HP := hid hP
    have hq := hs.neg hP
    obtain rfl := hq
    clear hs hP
    go_wp2
    go_ret
    exact ⟨says_f fun h => HP.out ⟨h.1, fun j hj => (h.2 j hj).2⟩, HB1.out.lo⟩
end Go.Proofs.YtlopcjhipajdcaaGreatDoor.Y
