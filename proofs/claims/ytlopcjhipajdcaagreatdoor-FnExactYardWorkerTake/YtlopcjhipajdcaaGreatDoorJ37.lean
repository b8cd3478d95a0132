import Derived.Test.YtlopcjhipajdcaaGreatDoorJ33
/-! Whether a target could be one of orders, by the program. -/
namespace Go.Proofs.YtlopcjhipajdcaaGreatDoor.Y
open Go.RowKit R
open Go.Proofs.YtlopcjhipajdcaaGreatDoor.J (FileOk BegOk RepOk ltB Says says_t says_f implFile_any all_step JobOk OutOk)
set_option maxRecDepth 20000
set_option maxHeartbeats 1000000 in
theorem houseJob_any (t : Tg) {v0 v1 : Value} (w : World) (k1 : SStrA w v1 t.outs) :
    Calls Tryz.prog 160 #[.agg #[.string t.name, .string t.tool, .string t.arg, v0, v1]] w fun e w' => e = .returned (.agg #[.string t.arg, v1]) ∧ Below w.heap.size w w' := by
  obtain ⟨ad1, cp1, rfl⟩ := k1.sl
  clear k1
  have HB0 := hid (B2.start w (.cells #[.string t.name, .string t.tool, .string t.arg, v0, .slice ad1 t.outs.length cp1] 35) (.cells #[.string ⟨#[]⟩, .slice none 0 0] 199))
  obtain ⟨W0, hW0⟩ : ∃ W, (w.alloc (.cells #[.string t.name, .string t.tool, .string t.arg, v0, .slice ad1 t.outs.length cp1] 35)).alloc (.cells #[.string ⟨#[]⟩, .slice none 0 0] 199) = W := ⟨_, rfl⟩
  rw [hW0] at HB0
  go_enter Tryz.func160, Tryz.ntmps160
  go_upto_region 1 with fail
  clear hW0
  have a2 : W0.cell? ⟨w.heap.size, 2, none⟩ = some (.string t.arg) := row_cell HB0.out.e 2
  have a4 : W0.cell? ⟨w.heap.size, 4, none⟩ = some (.slice ad1 t.outs.length cp1) := row_cell HB0.out.e 4
  have b0 : W0.cell? ⟨w.heap.size + 1, 0, none⟩ = some (.string ⟨#[]⟩) := row_cell HB0.out.f 0
  have b1 : W0.cell? ⟨w.heap.size + 1, 1, none⟩ = some (.slice none 0 0) := row_cell HB0.out.f 1
  obtain ⟨_, f0⟩ := row_room HB0.out.f (i := 0) (by simp)
  obtain ⟨_, f1⟩ := row_room HB0.out.f (i := 1) (by simp)
  go_wp2
  refine bodyPost_ret (v := .agg #[.string t.arg, .slice ad1 t.outs.length cp1]) (by simp [results, Tryz.results160, go_sem, b0, b1]) rfl ⟨rfl, ?_⟩
  exact (below_set (below_set HB0.out.lo _ _ (by omega) _) _ _ (by omega) _)
/-- What is asked of an order, but how many ins it has, that they go up, and that there are outs. -/
def OrdOk (t : Tg) : Prop := (JobOk t.arg t.outs.length fun i => t.outs.getD i ⟨#[]⟩) ∧ ∀ j, j < ([t.name, t.tool] ++ t.ins).length → FileOk (([t.name, t.tool] ++ t.ins).getD j ⟨#[]⟩)
set_option maxHeartbeats 4000000 in
theorem isOrder_any (t : Tg) {v0 v1 : Value} (w : World) (ht : SmTg t) (k0 : SStrA w v0 t.ins) (k1 : SStrA w v1 t.outs) :
    Calls Tryz.prog 136 #[.agg #[.string t.name, .string t.tool, .string t.arg, v0, v1]] w fun e w' => Says e (OrdOk t) ∧ Below w.heap.size w w' := by
  have HT := hid ht
  have K0 := hid k0
  have K1 := hid k1
  obtain ⟨ad0, cp0, rfl⟩ := k0.sl
  obtain ⟨ad1, cp1, rfl⟩ := k1.sl
  clear k0 k1 ht
  have HB0 := hid (B1.start w (.cells #[.string t.name, .string t.tool, .string t.arg, .slice ad0 t.ins.length cp0, .slice ad1 t.outs.length cp1] 35))
  obtain ⟨W0, hW0⟩ : ∃ W, w.alloc (.cells #[.string t.name, .string t.tool, .string t.arg, .slice ad0 t.ins.length cp0, .slice ad1 t.outs.length cp1] 35) = W := ⟨_, rfl⟩
  rw [hW0] at HB0
  go_enter Tryz.func136, Tryz.ntmps136
  go_upto_region 1 with fail
  clear hW0
  have a0 : W0.cell? ⟨w.heap.size, 0, none⟩ = some (.string t.name) := row_cell HB0.out.e 0
  have a1 : W0.cell? ⟨w.heap.size, 1, none⟩ = some (.string t.tool) := row_cell HB0.out.e 1
  have a3 : W0.cell? ⟨w.heap.size, 3, none⟩ = some (.slice ad0 t.ins.length cp0) := row_cell HB0.out.e 3
  have hlt : w.heap.size < W0.heap.size := lt_hp HB0.out.e
  go_wp2_with fail
  have HV := hid (B2.start W0 (.cells #[.string t.name, .string t.tool] 9) (.cells #[.slice (some ⟨W0.heap.size, 0, none⟩) 2 2, .slice ad0 t.ins.length cp0] 22))
  obtain ⟨V, hV⟩ : ∃ V, (W0.alloc (.cells #[.string t.name, .string t.tool] 9)).alloc (.cells #[.slice (some ⟨W0.heap.size, 0, none⟩) 2 2, .slice ad0 t.ins.length cp0] 22) = V := ⟨_, rfl⟩
  rw [hV] at HV ⊢
  clear hV a0 a1 a3
  have HBV := hid (HB0.out.next HV.out.lo)
  refine (concat2_any [t.name, t.tool] t.ins (W0.heap.size + 1) V (by simp) (by simp) HT.out.2.2.2.1.1 (lt_hp HV.out.f) (row_cell HV.out.f 0) (row_cell HV.out.f 1) ?_ (K0.out.next HBV.out.lo)).mono ?_
  · refine ⟨_, _, rfl, .inr ⟨⟨W0.heap.size, 0, none⟩, rfl, lt_hp HV.out.e, fun i hi => ?_⟩⟩
    unfold StrA
    rw [add_at, row_cell HV.out.e]
    rcases i with _ | _ | i
    · rfl
    · rfl
    · exact absurd hi (by simp [List.length])
  rintro e W1 ⟨v, rfl, kn, hb⟩
  have KN := hid kn
  obtain ⟨adn, cpn, rfl⟩ := kn.sl
  have HB1 := hid (HBV.out.next hb)
  clear kn hb
  have a0 : W1.cell? ⟨w.heap.size, 0, none⟩ = some (.string t.name) := row_cell HB1.out.e 0
  have a1 : W1.cell? ⟨w.heap.size, 1, none⟩ = some (.string t.tool) := row_cell HB1.out.e 1
  have a2 : W1.cell? ⟨w.heap.size, 2, none⟩ = some (.string t.arg) := row_cell HB1.out.e 2
  have a3 : W1.cell? ⟨w.heap.size, 3, none⟩ = some (.slice ad0 t.ins.length cp0) := row_cell HB1.out.e 3
  have a4 : W1.cell? ⟨w.heap.size, 4, none⟩ = some (.slice ad1 t.outs.length cp1) := row_cell HB1.out.e 4
  go_wp2_with fail
  refine (houseJob_any t _ (K1.out.next HB1.out.lo)).mono ?_
  rintro e W2 ⟨rfl, hb⟩
  have HB2 := hid (HB1.out.next hb)
  have KN2 := hid (KN.out.next hb)
  clear hb a0 a1 a2 a3 a4
  go_wp2_with fail
  refine (jobA_any t.arg t.outs _ HT.out.2.2.2.2.1 HT.out.2.2.2.2.2 (K1.out.next HB2.out.lo)).mono ?_
  rintro e W3 ⟨hs, hb⟩
  have HB3 := hid (HB2.out.next hb)
  have KN3 := hid (KN2.out.next hb)
  clear hb
  have hsz : ∀ i, i < ([t.name, t.tool] ++ t.ins).length → (([t.name, t.tool] ++ t.ins).getD i ⟨#[]⟩).size ≤ 1048576 := by
    intro i hi
    rcases i with _ | _ | i
    · exact HT.out.1
    · exact HT.out.2.1
    · exact HT.out.2.2.2.1.2 i (by simpa using hi)
  have hll : ([t.name, t.tool] ++ t.ins).length ≤ 2000000 := by have := HT.out.2.2.2.1.1; simp; omega
  have HSZ := hid hsz
  have HLL := hid hll
  clear hsz hll
  by_cases hP : JobOk t.arg t.outs.length fun i => t.outs.getD i ⟨#[]⟩
  · have HP := hid hP
    have hq := hs.pos hP
    obtain rfl := hq
    clear hs hP
    go_wp2_with fail
    refine (hasName_any _ _ HLL.out KN3.out HSZ.out).mono ?_
    rintro e W4 ⟨⟨b, rfl, hq⟩, hb⟩
    have HB4 := hid (HB3.out.next hb)
    have HQ := hid hq
    clear hb hq
    go_wp2
    go_ret
    refine ⟨⟨!b, rfl, ?_⟩, HB4.out.lo⟩
    constructor
    · intro h
      exact ⟨HP.out, fun j hj => Classical.not_not.1 fun hn => by rw [HQ.out.2 ⟨j, hj, hn⟩] at h; cases h⟩
    · rintro ⟨_, h⟩
      cases b with
      | false => rfl
      | true => obtain ⟨j, hj, hn⟩ := HQ.out.1 rfl; exact absurd (h j hj) hn
  · have HP := hid hP
    have hq := hs.neg hP
    obtain rfl := hq
    clear hs hP
    go_wp2
    go_ret
    exact ⟨says_f fun h => HP.out h.1, HB3.out.lo⟩
end Go.Proofs.YtlopcjhipajdcaaGreatDoor.Y
