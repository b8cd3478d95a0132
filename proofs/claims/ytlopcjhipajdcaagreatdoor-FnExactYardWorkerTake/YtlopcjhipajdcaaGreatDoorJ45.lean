import Derived.Test.YtlopcjhipajdcaaGreatDoorJ44
/-! The program's copies of targets, turns, messages. Printed by gen_yrow.py. -/
namespace Go.Proofs.YtlopcjhipajdcaaGreatDoor.Y
open Go.RowKit R
open Go.Proofs.YtlopcjhipajdcaaGreatDoor.J (FileOk BegOk RepOk ltB Says says_t says_f)
set_option maxRecDepth 20000
set_option maxHeartbeats 8000000 in
theorem tgCopied_any (t : Tg) {v0 v1 : Value} (w : World) (k0 : RdStr w v0 t.ins) (k1 : RdStr w v1 t.outs) (hs : SmTg t) :
    Calls Tryz.prog 89 #[.agg #[.string t.name, .string t.tool, .string t.arg, v0, v1]] w fun e w' => ∃ u0 u1, e = .returned (.agg #[.string t.name, .string t.tool, .string t.arg, u0, u1]) ∧ OwnStr w.heap.size w' u0 t.ins ∧ OwnStr w.heap.size w' u1 t.outs ∧ Ap u0 u1 ∧ Below w.heap.size w w' := by
  obtain ⟨s0, s1, s2, s3, s4⟩ := hs
  have K0 := hid k0
  have K1 := hid k1
  obtain ⟨a0, c0, rfl⟩ := k0.sl
  obtain ⟨a1, c1, rfl⟩ := k1.sl
  clear k0 k1
  have HX0 := hid (Q2.start w #[.string t.name, .string t.tool, .string t.arg, .slice a0 t.ins.length c0, .slice a1 t.outs.length c1] #[.string ⟨#[]⟩, .string ⟨#[]⟩, .string ⟨#[]⟩, .slice none 0 0, .slice none 0 0] 35)
  obtain ⟨W0, hW0⟩ : ∃ W, (w.alloc (.cells #[.string t.name, .string t.tool, .string t.arg, .slice a0 t.ins.length c0, .slice a1 t.outs.length c1] 35)).alloc (.cells #[.string ⟨#[]⟩, .string ⟨#[]⟩, .string ⟨#[]⟩, .slice none 0 0, .slice none 0 0] 35) = W := ⟨_, rfl⟩
  rw [hW0] at HX0
  have HE : Hid (∀ V, Below W0.heap.size W0 V → V.heap[w.heap.size]? = some (.cells #[.string t.name, .string t.tool, .string t.arg, .slice a0 t.ins.length c0, .slice a1 t.outs.length c1] 35 (0, 0))) := hid fun V h => (HX0.out.next h).e
  go_enter Tryz.func89, Tryz.ntmps89
  go_upto_region 1 with fail
  clear hW0
  have HRB0 := hid ((Below.refl W0.heap.size W0).drew)
  refine wp_region_until (fun V => V.heap[w.heap.size]? = some (.cells #[.string t.name, .string t.tool, .string t.arg, .slice a0 t.ins.length c0, .slice a1 t.outs.length c1] 35 (0, 0))) 16 (by kernel_rfl) ?_
  refine wpAnyU_take (i := 0) (v := .pointer (some ⟨w.heap.size, 0, none⟩)) rfl (by kernel_rfl) (by kernel_rfl) (by kernel_rfl) (fun _ _ _ h => h) (by kernel_rfl) (by kernel_rfl) (by kernel_rfl) (Or.inl ⟨by rfl, fun V _ => by kernel_rfl⟩) (HE.out _ HRB0.out) ?_
  simp only [Act.put, List.getElem_toArray, List.getElem_cons_zero, List.setIfInBounds_toArray, List.set_cons_zero, List.set_cons_succ]
  refine wpAnyU_take (i := 1) (v := .string t.name) rfl (by kernel_rfl) (by kernel_rfl) (by kernel_rfl) (fun _ _ _ h => h) (by kernel_rfl) (by kernel_rfl) (by kernel_rfl) (Or.inl ⟨by rfl, fun V hV => by have hc : V.cell? ⟨w.heap.size, 0, none⟩ = some (.string t.name) := row_cell hV 0; go_simp⟩) (HE.out _ HRB0.out) ?_
  simp only [Act.put, List.getElem_toArray, List.getElem_cons_zero, List.getElem_cons_succ, List.setIfInBounds_toArray, List.set_cons_zero, List.set_cons_succ]
  refine wpAnyU_take (i := 3) (v := .pointer (some ⟨w.heap.size, 1, none⟩)) rfl (by kernel_rfl) (by kernel_rfl) (by kernel_rfl) (fun _ _ _ h => h) (by kernel_rfl) (by kernel_rfl) (by kernel_rfl) (Or.inl ⟨by rfl, fun V _ => by kernel_rfl⟩) (HE.out _ HRB0.out) ?_
  simp only [Act.put, List.getElem_toArray, List.getElem_cons_zero, List.getElem_cons_succ, List.setIfInBounds_toArray, List.set_cons_zero, List.set_cons_succ]
  refine wpAnyU_take (i := 4) (v := .string t.tool) rfl (by kernel_rfl) (by kernel_rfl) (by kernel_rfl) (fun _ _ _ h => h) (by kernel_rfl) (by kernel_rfl) (by kernel_rfl) (Or.inl ⟨by rfl, fun V hV => by have hc : V.cell? ⟨w.heap.size, 1, none⟩ = some (.string t.tool) := row_cell hV 1; go_simp⟩) (HE.out _ HRB0.out) ?_
  simp only [Act.put, List.getElem_toArray, List.getElem_cons_zero, List.getElem_cons_succ, List.setIfInBounds_toArray, List.set_cons_zero, List.set_cons_succ]
  refine wpAnyU_take (i := 6) (v := .pointer (some ⟨w.heap.size, 2, none⟩)) rfl (by kernel_rfl) (by kernel_rfl) (by kernel_rfl) (fun _ _ _ h => h) (by kernel_rfl) (by kernel_rfl) (by kernel_rfl) (Or.inl ⟨by rfl, fun V _ => by kernel_rfl⟩) (HE.out _ HRB0.out) ?_
  simp only [Act.put, List.getElem_toArray, List.getElem_cons_zero, List.getElem_cons_succ, List.setIfInBounds_toArray, List.set_cons_zero, List.set_cons_succ]
  refine wpAnyU_take (i := 7) (v := .string t.arg) rfl (by kernel_rfl) (by kernel_rfl) (by kernel_rfl) (fun _ _ _ h => h) (by kernel_rfl) (by kernel_rfl) (by kernel_rfl) (Or.inl ⟨by rfl, fun V hV => by have hc : V.cell? ⟨w.heap.size, 2, none⟩ = some (.string t.arg) := row_cell hV 2; go_simp⟩) (HE.out _ HRB0.out) ?_
  simp only [Act.put, List.getElem_toArray, List.getElem_cons_zero, List.getElem_cons_succ, List.setIfInBounds_toArray, List.set_cons_zero, List.set_cons_succ]
  refine wpAnyU_take (i := 9) (v := .pointer (some ⟨w.heap.size, 3, none⟩)) rfl (by kernel_rfl) (by kernel_rfl) (by kernel_rfl) (fun _ _ _ h => h) (by kernel_rfl) (by kernel_rfl) (by kernel_rfl) (Or.inl ⟨by rfl, fun V _ => by kernel_rfl⟩) (HE.out _ HRB0.out) ?_
  simp only [Act.put, List.getElem_toArray, List.getElem_cons_zero, List.getElem_cons_succ, List.setIfInBounds_toArray, List.set_cons_zero, List.set_cons_succ]
  refine wpAnyU_take (i := 10) (v := .slice a0 t.ins.length c0) rfl (by kernel_rfl) (by kernel_rfl) (by kernel_rfl) (fun _ _ _ h => h) (by kernel_rfl) (by kernel_rfl) (by kernel_rfl) (Or.inl ⟨by rfl, fun V hV => by have hc : V.cell? ⟨w.heap.size, 3, none⟩ = some (.slice a0 t.ins.length c0) := row_cell hV 3; go_simp⟩) (HE.out _ HRB0.out) ?_
  simp only [Act.put, List.getElem_toArray, List.getElem_cons_zero, List.getElem_cons_succ, List.setIfInBounds_toArray, List.set_cons_zero, List.set_cons_succ]
  refine wpAnyU_take (i := 12) (v := .pointer (some ⟨w.heap.size, 4, none⟩)) rfl (by kernel_rfl) (by kernel_rfl) (by kernel_rfl) (fun _ _ _ h => h) (by kernel_rfl) (by kernel_rfl) (by kernel_rfl) (Or.inl ⟨by rfl, fun V _ => by kernel_rfl⟩) (HE.out _ HRB0.out) ?_
  simp only [Act.put, List.getElem_toArray, List.getElem_cons_zero, List.getElem_cons_succ, List.setIfInBounds_toArray, List.set_cons_zero, List.set_cons_succ]
  refine wpAnyU_take (i := 13) (v := .slice a1 t.outs.length c1) rfl (by kernel_rfl) (by kernel_rfl) (by kernel_rfl) (fun _ _ _ h => h) (by kernel_rfl) (by kernel_rfl) (by kernel_rfl) (Or.inl ⟨by rfl, fun V hV => by have hc : V.cell? ⟨w.heap.size, 4, none⟩ = some (.slice a1 t.outs.length c1) := row_cell hV 4; go_simp⟩) (HE.out _ HRB0.out) ?_
  simp only [Act.put, List.getElem_toArray, List.getElem_cons_zero, List.getElem_cons_succ, List.setIfInBounds_toArray, List.set_cons_zero, List.set_cons_succ]
  refine until_call (i := 2) (by kernel_rfl) rfl rfl (by kernel_rfl) (clone_any t.name _ s0) ?_
  rintro e y1 ⟨rfl, hb⟩
  have HRB1 := hid (show Below W0.heap.size W0 y1 from (HRB0.out).trans (hb.mono (HRB0.out).size))
  clear hb
  refine ⟨_, rfl, HE.out _ HRB1.out, ?_⟩
  simp only [Act.put, List.getElem_toArray, List.getElem_cons_zero, List.getElem_cons_succ, List.setIfInBounds_toArray, List.set_cons_zero, List.set_cons_succ]
  refine until_call (i := 5) (by kernel_rfl) rfl rfl (by kernel_rfl) (clone_any t.tool _ s1) ?_
  rintro e y2 ⟨rfl, hb⟩
  have HRB2 := hid (show Below W0.heap.size W0 y2 from (HRB1.out).trans (hb.mono (HRB1.out).size))
  clear hb
  refine ⟨_, rfl, HE.out _ HRB2.out, ?_⟩
  simp only [Act.put, List.getElem_toArray, List.getElem_cons_zero, List.getElem_cons_succ, List.setIfInBounds_toArray, List.set_cons_zero, List.set_cons_succ]
  refine until_call (i := 8) (by kernel_rfl) rfl rfl (by kernel_rfl) (clone_any t.arg _ s2) ?_
  rintro e y3 ⟨rfl, hb⟩
  have HRB3 := hid (show Below W0.heap.size W0 y3 from (HRB2.out).trans (hb.mono (HRB2.out).size))
  clear hb
  refine ⟨_, rfl, HE.out _ HRB3.out, ?_⟩
  simp only [Act.put, List.getElem_toArray, List.getElem_cons_zero, List.getElem_cons_succ, List.setIfInBounds_toArray, List.set_cons_zero, List.set_cons_succ]
  refine until_call (i := 11) (by kernel_rfl) rfl rfl (by kernel_rfl) (copiedStr_any t.ins _ s3.1 (K0.out.next (HX0.out.next HRB3.out).lo) s3.2) ?_
  rintro e y4 ⟨u, rfl, ho, hb⟩
  have HRB4 := hid (show Below W0.heap.size W0 y4 from (HRB3.out).trans (hb.mono (HRB3.out).size))
  obtain ⟨b0, d0, rfl⟩ := own_formK ho
  have HO0 := hid ho
  clear ho
  clear hb
  refine ⟨_, rfl, HE.out _ HRB4.out, ?_⟩
  simp only [Act.put, List.getElem_toArray, List.getElem_cons_zero, List.getElem_cons_succ, List.setIfInBounds_toArray, List.set_cons_zero, List.set_cons_succ]
  refine until_call (i := 14) (by kernel_rfl) rfl rfl (by kernel_rfl) (copiedStr_any t.outs _ s4.1 (K1.out.next (HX0.out.next HRB4.out).lo) s4.2) ?_
  rintro e y5 ⟨u, rfl, ho, hb⟩
  have HRB5 := hid (show Below W0.heap.size W0 y5 from (HRB4.out).trans (hb.mono (HRB4.out).size))
  obtain ⟨b1, d1, rfl⟩ := own_formK ho
  have HO1 := hid ho
  clear ho
  have HP0 := hid (own_next HO0.out hb)
  clear hb
  refine ⟨_, rfl, HE.out _ HRB5.out, ?_⟩
  simp only [Act.put, List.getElem_toArray, List.getElem_cons_zero, List.getElem_cons_succ, List.setIfInBounds_toArray, List.set_cons_zero, List.set_cons_succ]
  refine until_value (i := 15) (by kernel_rfl) rfl rfl (.agg #[.string t.name, .string t.tool, .string t.arg, .slice b0 t.ins.length d0, .slice b1 t.outs.length d1]) (by kernel_rfl) (fun _ => HE.out _ HRB5.out) ?_
  simp only [Act.put, List.getElem_toArray, List.getElem_cons_zero, List.getElem_cons_succ, List.setIfInBounds_toArray, List.set_cons_zero, List.set_cons_succ]
  have HXe := hid (HX0.out.next HRB5.out)
  have HSR := hid (setRow_heap y5 (w.heap.size + 1) _ #[.string t.name, .string t.tool, .string t.arg, .slice b0 t.ins.length d0, .slice b1 t.outs.length d1] _ _ HXe.out.r)
  refine until_store_row (i := 16) (by kernel_rfl) rfl rfl 35 _ _ rfl (w.heap.size + 1) #[.string t.name, .string t.tool, .string t.arg, .slice b0 t.ins.length d0, .slice b1 t.outs.length d1] rfl rfl 35 _ (HXe.out.r) (by kernel_rfl) rfl (by simp [Value.oneCell']) (by kernel_rfl) ?_
  simp only [Act.put, List.getElem_toArray, List.getElem_cons_zero, List.getElem_cons_succ]
  refine until_done (by kernel_rfl) ?_ _
  go_wp2
  refine bodyPost_ret (v := .agg #[.string t.name, .string t.tool, .string t.arg, .slice b0 t.ins.length d0, .slice b1 t.outs.length d1]) ?_ rfl ⟨_, _, rfl, ?_, ?_, ?_, below_setRow HXe.out.lo (by omega) _⟩
  · exact results_cell_row Tryz.results89 _ _ (w.heap.size + 1) 35 #[.string t.name, .string t.tool, .string t.arg, .slice b0 t.ins.length d0, .slice b1 t.outs.length d1] (0, 0) _ rfl HSR.out Tryz.underlying35 rfl (by kernel_rfl)
  · exact own_monoK (setRow_own HP0.out (by have := (HX0.out.next HRB3.out).sz; omega) _) (HX0.out.next HRB3.out).lo.size
  · exact own_monoK (setRow_own HO1.out (by have := (HX0.out.next HRB4.out).sz; omega) _) (HX0.out.next HRB4.out).lo.size
  · exact ap_of HO0.out HO1.out (Nat.le_refl _)
set_option maxHeartbeats 8000000 in
theorem tuCopied_any (u : Tu) {v0 v1 : Value} (w : World) (k0 : RdFl w v0 u.files) (k1 : RdStr w v1 u.said) (h0 : u.text.size ≤ 1048576) (h1 : u.name.size ≤ 1048576) (n0 : u.files.length ≤ 1048576) (n1 : u.said.length ≤ 1048576) (s0 : ∀ i, i < u.files.length → (u.files.getD i fl0).name.size ≤ 1048576 ∧ (u.files.getD i fl0).text.size ≤ 1048576) (s1 : ∀ i, i < u.said.length → (u.said.getD i ⟨#[]⟩).size ≤ 1048576) :
    Calls Tryz.prog 92 #[.agg #[.bool u.over, .int .i64 u.code, .string u.text, .int .i64 u.kind, .string u.name, .int .i64 u.steps, v0, v1]] w fun e w' => ∃ u0 u1, e = .returned (.agg #[.bool u.over, .int .i64 u.code, .string u.text, .int .i64 u.kind, .string u.name, .int .i64 u.steps, u0, u1]) ∧ OwnFl w.heap.size w' u0 u.files ∧ OwnStr w.heap.size w' u1 u.said ∧ Below w.heap.size w w' := by
  have K0 := hid k0
  have K1 := hid k1
  obtain ⟨a0, c0, rfl⟩ := k0.sl
  obtain ⟨a1, c1, rfl⟩ := k1.sl
  clear k0 k1
  have HX0 := hid (Q2.start w #[.bool u.over, .int .i64 u.code, .string u.text, .int .i64 u.kind, .string u.name, .int .i64 u.steps, .slice a0 u.files.length c0, .slice a1 u.said.length c1] #[.bool false, .int .i64 0, .string ⟨#[]⟩, .int .i64 0, .string ⟨#[]⟩, .int .i64 0, .slice none 0 0, .slice none 0 0] 39)
  obtain ⟨W0, hW0⟩ : ∃ W, (w.alloc (.cells #[.bool u.over, .int .i64 u.code, .string u.text, .int .i64 u.kind, .string u.name, .int .i64 u.steps, .slice a0 u.files.length c0, .slice a1 u.said.length c1] 39)).alloc (.cells #[.bool false, .int .i64 0, .string ⟨#[]⟩, .int .i64 0, .string ⟨#[]⟩, .int .i64 0, .slice none 0 0, .slice none 0 0] 39) = W := ⟨_, rfl⟩
  rw [hW0] at HX0
  have HE : Hid (∀ V, Below W0.heap.size W0 V → V.heap[w.heap.size]? = some (.cells #[.bool u.over, .int .i64 u.code, .string u.text, .int .i64 u.kind, .string u.name, .int .i64 u.steps, .slice a0 u.files.length c0, .slice a1 u.said.length c1] 39 (0, 0))) := hid fun V h => (HX0.out.next h).e
  go_enter Tryz.func92, Tryz.ntmps92
  go_upto_region 1 with fail
  clear hW0
  have HRB0 := hid ((Below.refl W0.heap.size W0).drew)
  refine wp_region_until (fun V => V.heap[w.heap.size]? = some (.cells #[.bool u.over, .int .i64 u.code, .string u.text, .int .i64 u.kind, .string u.name, .int .i64 u.steps, .slice a0 u.files.length c0, .slice a1 u.said.length c1] 39 (0, 0))) 7 (by kernel_rfl) ?_
  refine wpAnyU_take (i := 0) (v := .pointer (some ⟨w.heap.size, 2, none⟩)) rfl (by kernel_rfl) (by kernel_rfl) (by kernel_rfl) (fun _ _ _ h => h) (by kernel_rfl) (by kernel_rfl) (by kernel_rfl) (Or.inl ⟨by rfl, fun V _ => by kernel_rfl⟩) (HE.out _ HRB0.out) ?_
  simp only [Act.put, List.getElem_toArray, List.getElem_cons_zero, List.setIfInBounds_toArray, List.set_cons_zero, List.set_cons_succ]
  refine wpAnyU_take (i := 1) (v := .string u.text) rfl (by kernel_rfl) (by kernel_rfl) (by kernel_rfl) (fun _ _ _ h => h) (by kernel_rfl) (by kernel_rfl) (by kernel_rfl) (Or.inl ⟨by rfl, fun V hV => by have hc : V.cell? ⟨w.heap.size, 2, none⟩ = some (.string u.text) := row_cell hV 2; go_simp⟩) (HE.out _ HRB0.out) ?_
  simp only [Act.put, List.getElem_toArray, List.getElem_cons_zero, List.getElem_cons_succ, List.setIfInBounds_toArray, List.set_cons_zero, List.set_cons_succ]
  refine wpAnyU_take (i := 3) (v := .pointer (some ⟨w.heap.size, 4, none⟩)) rfl (by kernel_rfl) (by kernel_rfl) (by kernel_rfl) (fun _ _ _ h => h) (by kernel_rfl) (by kernel_rfl) (by kernel_rfl) (Or.inl ⟨by rfl, fun V _ => by kernel_rfl⟩) (HE.out _ HRB0.out) ?_
  simp only [Act.put, List.getElem_toArray, List.getElem_cons_zero, List.getElem_cons_succ, List.setIfInBounds_toArray, List.set_cons_zero, List.set_cons_succ]
  refine wpAnyU_take (i := 4) (v := .string u.name) rfl (by kernel_rfl) (by kernel_rfl) (by kernel_rfl) (fun _ _ _ h => h) (by kernel_rfl) (by kernel_rfl) (by kernel_rfl) (Or.inl ⟨by rfl, fun V hV => by have hc : V.cell? ⟨w.heap.size, 4, none⟩ = some (.string u.name) := row_cell hV 4; go_simp⟩) (HE.out _ HRB0.out) ?_
  simp only [Act.put, List.getElem_toArray, List.getElem_cons_zero, List.getElem_cons_succ, List.setIfInBounds_toArray, List.set_cons_zero, List.set_cons_succ]
  refine until_call (i := 2) (by kernel_rfl) rfl rfl (by kernel_rfl) (clone_any u.text _ h0) ?_
  rintro e y1 ⟨rfl, hb⟩
  have HRB1 := hid (show Below W0.heap.size W0 y1 from (HRB0.out).trans (hb.mono (HRB0.out).size))
  clear hb
  refine ⟨_, rfl, HE.out _ HRB1.out, ?_⟩
  simp only [Act.put, List.getElem_toArray, List.getElem_cons_zero, List.getElem_cons_succ, List.setIfInBounds_toArray, List.set_cons_zero, List.set_cons_succ]
  refine wpAnyU_take (i := 6) (v := .pointer (some ⟨w.heap.size, 2, none⟩)) rfl (by kernel_rfl) (by kernel_rfl) (by kernel_rfl) (fun _ _ _ h => h) (by kernel_rfl) (by kernel_rfl) (by kernel_rfl) (Or.inl ⟨by rfl, fun V _ => by kernel_rfl⟩) (HE.out _ HRB1.out) ?_
  simp only [Act.put, List.getElem_toArray, List.getElem_cons_zero, List.getElem_cons_succ, List.setIfInBounds_toArray, List.set_cons_zero, List.set_cons_succ]
  refine until_call (i := 5) (by kernel_rfl) rfl rfl (by kernel_rfl) (clone_any u.name _ h1) ?_
  rintro e y2 ⟨rfl, hb⟩
  have HRB2 := hid (show Below W0.heap.size W0 y2 from (HRB1.out).trans (hb.mono (HRB1.out).size))
  clear hb
  refine ⟨_, rfl, HE.out _ HRB2.out, ?_⟩
  simp only [Act.put, List.getElem_toArray, List.getElem_cons_zero, List.getElem_cons_succ, List.setIfInBounds_toArray, List.set_cons_zero, List.set_cons_succ]
  have HXe := hid (HX0.out.next HRB2.out)
  have cSA : y2.cell? ⟨w.heap.size, 2, none⟩ = some (.string u.text) := row_cell HXe.out.e 2
  have fSA : y2.frozen? ⟨w.heap.size, 2, none⟩ = false := (row_room (i := 2) HXe.out.e (by simp)).2
  refine until_store (i := 7) (w' := y2.setCell ⟨w.heap.size, 2, none⟩ (.string u.text)) (by kernel_rfl) rfl rfl (by go_simp) (by kernel_rfl) ?_
  simp only [Act.put, List.getElem_toArray, List.getElem_cons_zero, List.getElem_cons_succ]
  have HXA := hid ((HXe.out.set 2 (.string u.text)).cast (C' := #[.bool u.over, .int .i64 u.code, .string u.text, .int .i64 u.kind, .string u.name, .int .i64 u.steps, .slice a0 u.files.length c0, .slice a1 u.said.length c1]) rfl)
  obtain ⟨ZA, hZA⟩ : ∃ Z, y2.setCell ⟨w.heap.size, 2, none⟩ (.string u.text) = Z := ⟨_, rfl⟩
  rw [hZA] at HXA ⊢
  clear hZA cSA fSA
  refine until_value (i := 8) (by kernel_rfl) rfl rfl (.pointer (some ⟨w.heap.size, 4, none⟩)) (by kernel_rfl) (fun h => by cases h) ?_
  simp only [Act.put, List.getElem_toArray, List.getElem_cons_zero, List.getElem_cons_succ, List.setIfInBounds_toArray, List.set_cons_zero, List.set_cons_succ]
  have cSB : ZA.cell? ⟨w.heap.size, 4, none⟩ = some (.string u.name) := row_cell HXA.out.e 4
  have fSB : ZA.frozen? ⟨w.heap.size, 4, none⟩ = false := (row_room (i := 4) HXA.out.e (by simp)).2
  refine until_store (i := 9) (w' := ZA.setCell ⟨w.heap.size, 4, none⟩ (.string u.name)) (by kernel_rfl) rfl rfl (by go_simp) (by kernel_rfl) ?_
  simp only [Act.put, List.getElem_toArray, List.getElem_cons_zero, List.getElem_cons_succ]
  have HXB := hid ((HXA.out.set 4 (.string u.name)).cast (C' := #[.bool u.over, .int .i64 u.code, .string u.text, .int .i64 u.kind, .string u.name, .int .i64 u.steps, .slice a0 u.files.length c0, .slice a1 u.said.length c1]) rfl)
  obtain ⟨ZB, hZB⟩ : ∃ Z, ZA.setCell ⟨w.heap.size, 4, none⟩ (.string u.name) = Z := ⟨_, rfl⟩
  rw [hZB] at HXB ⊢
  clear hZB cSB fSB
  refine until_done (by kernel_rfl) ?_ _
  go_upto_region 2 with fail
  have HE2 : Hid (∀ V, Below ZB.heap.size ZB V → V.heap[w.heap.size]? = some (.cells #[.bool u.over, .int .i64 u.code, .string u.text, .int .i64 u.kind, .string u.name, .int .i64 u.steps, .slice a0 u.files.length c0, .slice a1 u.said.length c1] 39 (0, 0))) := hid fun V h => (HXB.out.next h).e
  have HRB0 := hid ((Below.refl ZB.heap.size ZB).drew)
  refine wp_region_until (fun V => V.heap[w.heap.size]? = some (.cells #[.bool u.over, .int .i64 u.code, .string u.text, .int .i64 u.kind, .string u.name, .int .i64 u.steps, .slice a0 u.files.length c0, .slice a1 u.said.length c1] 39 (0, 0))) 7 (by kernel_rfl) ?_
  clear HRB1 HRB2
  refine wpAnyU_take (i := 0) (v := .pointer (some ⟨w.heap.size, 6, none⟩)) rfl (by kernel_rfl) (by kernel_rfl) (by kernel_rfl) (fun _ _ _ h => h) (by kernel_rfl) (by kernel_rfl) (by kernel_rfl) (Or.inl ⟨by rfl, fun V _ => by kernel_rfl⟩) (HE2.out _ HRB0.out) ?_
  simp only [Act.put, List.getElem_toArray, List.getElem_cons_zero, List.setIfInBounds_toArray, List.set_cons_zero, List.set_cons_succ]
  refine wpAnyU_take (i := 1) (v := .slice a0 u.files.length c0) rfl (by kernel_rfl) (by kernel_rfl) (by kernel_rfl) (fun _ _ _ h => h) (by kernel_rfl) (by kernel_rfl) (by kernel_rfl) (Or.inl ⟨by rfl, fun V hV => by have hc : V.cell? ⟨w.heap.size, 6, none⟩ = some (.slice a0 u.files.length c0) := row_cell hV 6; go_simp⟩) (HE2.out _ HRB0.out) ?_
  simp only [Act.put, List.getElem_toArray, List.getElem_cons_zero, List.getElem_cons_succ, List.setIfInBounds_toArray, List.set_cons_zero, List.set_cons_succ]
  refine wpAnyU_take (i := 3) (v := .pointer (some ⟨w.heap.size, 7, none⟩)) rfl (by kernel_rfl) (by kernel_rfl) (by kernel_rfl) (fun _ _ _ h => h) (by kernel_rfl) (by kernel_rfl) (by kernel_rfl) (Or.inl ⟨by rfl, fun V _ => by kernel_rfl⟩) (HE2.out _ HRB0.out) ?_
  simp only [Act.put, List.getElem_toArray, List.getElem_cons_zero, List.getElem_cons_succ, List.setIfInBounds_toArray, List.set_cons_zero, List.set_cons_succ]
  refine wpAnyU_take (i := 4) (v := .slice a1 u.said.length c1) rfl (by kernel_rfl) (by kernel_rfl) (by kernel_rfl) (fun _ _ _ h => h) (by kernel_rfl) (by kernel_rfl) (by kernel_rfl) (Or.inl ⟨by rfl, fun V hV => by have hc : V.cell? ⟨w.heap.size, 7, none⟩ = some (.slice a1 u.said.length c1) := row_cell hV 7; go_simp⟩) (HE2.out _ HRB0.out) ?_
  simp only [Act.put, List.getElem_toArray, List.getElem_cons_zero, List.getElem_cons_succ, List.setIfInBounds_toArray, List.set_cons_zero, List.set_cons_succ]
  refine until_call (i := 2) (by kernel_rfl) rfl rfl (by kernel_rfl) (copiedFl_any u.files _ n0 (K0.out.next (HXB.out.next HRB0.out).lo) s0) ?_
  rintro e x1 ⟨u0, rfl, ho, hb⟩
  have HRB1 := hid (show Below ZB.heap.size ZB x1 from (HRB0.out).trans (hb.mono (HRB0.out).size))
  obtain ⟨b0, d0, rfl⟩ := own_formK ho
  have HO0 := hid ho
  clear ho
  clear hb
  refine ⟨_, rfl, HE2.out _ HRB1.out, ?_⟩
  simp only [Act.put, List.getElem_toArray, List.getElem_cons_zero, List.getElem_cons_succ, List.setIfInBounds_toArray, List.set_cons_zero, List.set_cons_succ]
  refine wpAnyU_take (i := 6) (v := .pointer (some ⟨w.heap.size, 6, none⟩)) rfl (by kernel_rfl) (by kernel_rfl) (by kernel_rfl) (fun _ _ _ h => h) (by kernel_rfl) (by kernel_rfl) (by kernel_rfl) (Or.inl ⟨by rfl, fun V _ => by kernel_rfl⟩) (HE2.out _ HRB1.out) ?_
  simp only [Act.put, List.getElem_toArray, List.getElem_cons_zero, List.getElem_cons_succ, List.setIfInBounds_toArray, List.set_cons_zero, List.set_cons_succ]
  refine until_call (i := 5) (by kernel_rfl) rfl rfl (by kernel_rfl) (copiedStr_any u.said _ n1 (K1.out.next (HXB.out.next HRB1.out).lo) s1) ?_
  rintro e x2 ⟨u1, rfl, ho, hb⟩
  have HRB2 := hid (show Below ZB.heap.size ZB x2 from (HRB1.out).trans (hb.mono (HRB1.out).size))
  obtain ⟨b1, d1, rfl⟩ := own_formK ho
  have HO1 := hid ho
  clear ho
  have HP0 := hid (own_next HO0.out hb)
  clear hb
  refine ⟨_, rfl, HE2.out _ HRB2.out, ?_⟩
  simp only [Act.put, List.getElem_toArray, List.getElem_cons_zero, List.getElem_cons_succ, List.setIfInBounds_toArray, List.set_cons_zero, List.set_cons_succ]
  have HXf := hid (HXB.out.next HRB2.out)
  have HP := hid (own_monoK HP0.out (Nat.le_trans HXB.out.sz HRB0.out.size))
  have HR := hid (own_monoK HO1.out (Nat.le_trans HXB.out.sz HRB1.out.size))
  have cSC : x2.cell? ⟨w.heap.size, 6, none⟩ = some (.slice a0 u.files.length c0) := row_cell HXf.out.e 6
  have fSC : x2.frozen? ⟨w.heap.size, 6, none⟩ = false := (row_room (i := 6) HXf.out.e (by simp)).2
  refine until_store (i := 7) (w' := x2.setCell ⟨w.heap.size, 6, none⟩ (.slice b0 u.files.length d0)) (by kernel_rfl) rfl rfl (by go_simp) (by kernel_rfl) ?_
  simp only [Act.put, List.getElem_toArray, List.getElem_cons_zero, List.getElem_cons_succ]
  have HXC := hid ((HXf.out.set 6 (.slice b0 u.files.length d0)).cast (C' := #[.bool u.over, .int .i64 u.code, .string u.text, .int .i64 u.kind, .string u.name, .int .i64 u.steps, .slice b0 u.files.length d0, .slice a1 u.said.length c1]) rfl)
  have HPC := hid (own_set (b := w.heap.size) HP.out (by omega) 6 (.slice b0 u.files.length d0))
  have HRC := hid (own_set (b := w.heap.size) HR.out (by omega) 6 (.slice b0 u.files.length d0))
  obtain ⟨ZC, hZC⟩ : ∃ Z, x2.setCell ⟨w.heap.size, 6, none⟩ (.slice b0 u.files.length d0) = Z := ⟨_, rfl⟩
  rw [hZC] at HXC HPC HRC ⊢
  clear hZC cSC fSC
  refine until_value (i := 8) (by kernel_rfl) rfl rfl (.pointer (some ⟨w.heap.size, 7, none⟩)) (by kernel_rfl) (fun h => by cases h) ?_
  simp only [Act.put, List.getElem_toArray, List.getElem_cons_zero, List.getElem_cons_succ, List.setIfInBounds_toArray, List.set_cons_zero, List.set_cons_succ]
  have cSD : ZC.cell? ⟨w.heap.size, 7, none⟩ = some (.slice a1 u.said.length c1) := row_cell HXC.out.e 7
  have fSD : ZC.frozen? ⟨w.heap.size, 7, none⟩ = false := (row_room (i := 7) HXC.out.e (by simp)).2
  refine until_store (i := 9) (w' := ZC.setCell ⟨w.heap.size, 7, none⟩ (.slice b1 u.said.length d1)) (by kernel_rfl) rfl rfl (by go_simp) (by kernel_rfl) ?_
  simp only [Act.put, List.getElem_toArray, List.getElem_cons_zero, List.getElem_cons_succ]
  have HXD := hid ((HXC.out.set 7 (.slice b1 u.said.length d1)).cast (C' := #[.bool u.over, .int .i64 u.code, .string u.text, .int .i64 u.kind, .string u.name, .int .i64 u.steps, .slice b0 u.files.length d0, .slice b1 u.said.length d1]) rfl)
  have HPD := hid (own_set (b := w.heap.size) HPC.out (by omega) 7 (.slice b1 u.said.length d1))
  have HRD := hid (own_set (b := w.heap.size) HRC.out (by omega) 7 (.slice b1 u.said.length d1))
  obtain ⟨ZD, hZD⟩ : ∃ Z, ZC.setCell ⟨w.heap.size, 7, none⟩ (.slice b1 u.said.length d1) = Z := ⟨_, rfl⟩
  rw [hZD] at HXD HPD HRD ⊢
  clear hZD cSD fSD
  refine until_done (by kernel_rfl) ?_ _
  go_upto_region 3 with fail
  have HSR := hid (setRow_heap ZD (w.heap.size + 1) _ #[.bool u.over, .int .i64 u.code, .string u.text, .int .i64 u.kind, .string u.name, .int .i64 u.steps, .slice b0 u.files.length d0, .slice b1 u.said.length d1] _ _ HXD.out.r)
  go_wp2_with (first | (refine wpList_load_row rfl 39 _ rfl (w.heap.size) rfl 39 #[.bool u.over, .int .i64 u.code, .string u.text, .int .i64 u.kind, .string u.name, .int .i64 u.steps, .slice b0 u.files.length d0, .slice b1 u.said.length d1] (0, 0) _ HXD.out.e Tryz.underlying39 rfl (by kernel_rfl) ?_) | (refine wpList_store_row rfl 39 _ _ rfl (w.heap.size + 1) #[.bool u.over, .int .i64 u.code, .string u.text, .int .i64 u.kind, .string u.name, .int .i64 u.steps, .slice b0 u.files.length d0, .slice b1 u.said.length d1] rfl rfl 39 _ HXD.out.r (by kernel_rfl) rfl (by simp [Value.oneCell']) ?_))
  refine bodyPost_ret (v := .agg #[.bool u.over, .int .i64 u.code, .string u.text, .int .i64 u.kind, .string u.name, .int .i64 u.steps, .slice b0 u.files.length d0, .slice b1 u.said.length d1]) ?_ rfl ⟨_, _, rfl, own_monoK (setRow_own HPD.out (by omega) _) (by omega), own_monoK (setRow_own HRD.out (by omega) _) (by omega), below_setRow HXD.out.lo (by omega) _⟩
  exact results_cell_row Tryz.results92 _ _ (w.heap.size + 1) 39 #[.bool u.over, .int .i64 u.code, .string u.text, .int .i64 u.kind, .string u.name, .int .i64 u.steps, .slice b0 u.files.length d0, .slice b1 u.said.length d1] (0, 0) _ rfl HSR.out Tryz.underlying39 rfl (by kernel_rfl)
/-- The texts of a message are small enough. -/
structure SzMs (m : Ms) : Prop where
  tg : SmTg m.target
  sn : m.seen.length ≤ 1048576 ∧ ∀ i, i < m.seen.length → (m.seen.getD i sn0).name.size ≤ 1048576 ∧ (m.seen.getD i sn0).reply.text.size ≤ 1048576
  fl : m.turn.files.length ≤ 1048576 ∧ ∀ i, i < m.turn.files.length → (m.turn.files.getD i fl0).name.size ≤ 1048576 ∧ (m.turn.files.getD i fl0).text.size ≤ 1048576
  sd : m.turn.said.length ≤ 1048576 ∧ ∀ i, i < m.turn.said.length → (m.turn.said.getD i ⟨#[]⟩).size ≤ 1048576
  tx : m.turn.text.size ≤ 1048576
  nm : m.turn.name.size ≤ 1048576
set_option maxHeartbeats 16000000 in
theorem msCopied_any (m : Ms) {v0 v1 v2 v3 v4 : Value} (w : World) (hk : RdMs w m v0 v1 v2 v3 v4) (hs : SzMs m) :
    Calls Tryz.prog 65 #[.agg #[.int .i64 m.kind, .int .i64 m.to, .int .i64 m.sender, .int .i64 m.epoch, .int .i64 m.edit, .string m.target.name, .string m.target.tool, .string m.target.arg, v0, v1, v2, .int .i64 m.count, .bool m.turn.over, .int .i64 m.turn.code, .string m.turn.text, .int .i64 m.turn.kind, .string m.turn.name, .int .i64 m.turn.steps, v3, v4]] w fun e w' => ∃ u0 u1 u2 u3 u4, e = .returned (.agg #[.int .i64 m.kind, .int .i64 m.to, .int .i64 m.sender, .int .i64 m.epoch, .int .i64 m.edit, .string m.target.name, .string m.target.tool, .string m.target.arg, u0, u1, u2, .int .i64 m.count, .bool m.turn.over, .int .i64 m.turn.code, .string m.turn.text, .int .i64 m.turn.kind, .string m.turn.name, .int .i64 m.turn.steps, u3, u4]) ∧ OwnMs w.heap.size w' m u0 u1 u2 u3 u4 ∧ Below w.heap.size w w' := by
  have HK := hid hk
  have HS := hid hs
  obtain ⟨a0, c0, rfl⟩ := hk.r0.sl
  obtain ⟨a1, c1, rfl⟩ := hk.r1.sl
  obtain ⟨a2, c2, rfl⟩ := hk.r2.sl
  obtain ⟨a3, c3, rfl⟩ := hk.r3.sl
  obtain ⟨a4, c4, rfl⟩ := hk.r4.sl
  clear hk hs
  have HX0 := hid (Q2.start w #[.int .i64 m.kind, .int .i64 m.to, .int .i64 m.sender, .int .i64 m.epoch, .int .i64 m.edit, .string m.target.name, .string m.target.tool, .string m.target.arg, .slice a0 m.target.ins.length c0, .slice a1 m.target.outs.length c1, .slice a2 m.seen.length c2, .int .i64 m.count, .bool m.turn.over, .int .i64 m.turn.code, .string m.turn.text, .int .i64 m.turn.kind, .string m.turn.name, .int .i64 m.turn.steps, .slice a3 m.turn.files.length c3, .slice a4 m.turn.said.length c4] #[.int .i64 0, .int .i64 0, .int .i64 0, .int .i64 0, .int .i64 0, .string ⟨#[]⟩, .string ⟨#[]⟩, .string ⟨#[]⟩, .slice none 0 0, .slice none 0 0, .slice none 0 0, .int .i64 0, .bool false, .int .i64 0, .string ⟨#[]⟩, .int .i64 0, .string ⟨#[]⟩, .int .i64 0, .slice none 0 0, .slice none 0 0] 41)
  obtain ⟨W0, hW0⟩ : ∃ W, (w.alloc (.cells #[.int .i64 m.kind, .int .i64 m.to, .int .i64 m.sender, .int .i64 m.epoch, .int .i64 m.edit, .string m.target.name, .string m.target.tool, .string m.target.arg, .slice a0 m.target.ins.length c0, .slice a1 m.target.outs.length c1, .slice a2 m.seen.length c2, .int .i64 m.count, .bool m.turn.over, .int .i64 m.turn.code, .string m.turn.text, .int .i64 m.turn.kind, .string m.turn.name, .int .i64 m.turn.steps, .slice a3 m.turn.files.length c3, .slice a4 m.turn.said.length c4] 41)).alloc (.cells #[.int .i64 0, .int .i64 0, .int .i64 0, .int .i64 0, .int .i64 0, .string ⟨#[]⟩, .string ⟨#[]⟩, .string ⟨#[]⟩, .slice none 0 0, .slice none 0 0, .slice none 0 0, .int .i64 0, .bool false, .int .i64 0, .string ⟨#[]⟩, .int .i64 0, .string ⟨#[]⟩, .int .i64 0, .slice none 0 0, .slice none 0 0] 41) = W := ⟨_, rfl⟩
  rw [hW0] at HX0
  have HE : Hid (∀ V, Below W0.heap.size W0 V → V.heap[w.heap.size]? = some (.cells #[.int .i64 m.kind, .int .i64 m.to, .int .i64 m.sender, .int .i64 m.epoch, .int .i64 m.edit, .string m.target.name, .string m.target.tool, .string m.target.arg, .slice a0 m.target.ins.length c0, .slice a1 m.target.outs.length c1, .slice a2 m.seen.length c2, .int .i64 m.count, .bool m.turn.over, .int .i64 m.turn.code, .string m.turn.text, .int .i64 m.turn.kind, .string m.turn.name, .int .i64 m.turn.steps, .slice a3 m.turn.files.length c3, .slice a4 m.turn.said.length c4] 41 (0, 0))) := hid fun V h => (HX0.out.next h).e
  go_enter Tryz.func65, Tryz.ntmps65
  go_upto_region 1 with fail
  clear hW0
  have HRB0 := hid ((Below.refl W0.heap.size W0).drew)
  refine wp_region_until (fun V => V.heap[w.heap.size]? = some (.cells #[.int .i64 m.kind, .int .i64 m.to, .int .i64 m.sender, .int .i64 m.epoch, .int .i64 m.edit, .string m.target.name, .string m.target.tool, .string m.target.arg, .slice a0 m.target.ins.length c0, .slice a1 m.target.outs.length c1, .slice a2 m.seen.length c2, .int .i64 m.count, .bool m.turn.over, .int .i64 m.turn.code, .string m.turn.text, .int .i64 m.turn.kind, .string m.turn.name, .int .i64 m.turn.steps, .slice a3 m.turn.files.length c3, .slice a4 m.turn.said.length c4] 41 (0, 0))) 10 (by kernel_rfl) ?_
  refine wpAnyU_take (i := 0) (v := .pointer (some ⟨w.heap.size, 5, none⟩)) rfl (by kernel_rfl) (by kernel_rfl) (by kernel_rfl) (fun _ _ _ h => h) (by kernel_rfl) (by kernel_rfl) (by kernel_rfl) (Or.inl ⟨by rfl, fun V _ => by kernel_rfl⟩) (HE.out _ HRB0.out) ?_
  simp only [Act.put, List.getElem_toArray, List.getElem_cons_zero, List.setIfInBounds_toArray, List.set_cons_zero, List.set_cons_succ]
  refine wpAnyU_take (i := 1) (v := .agg #[.string m.target.name, .string m.target.tool, .string m.target.arg, .slice a0 m.target.ins.length c0, .slice a1 m.target.outs.length c1]) rfl (by kernel_rfl) (by kernel_rfl) (by kernel_rfl) (fun _ _ _ h => h) (by kernel_rfl) (by kernel_rfl) (by kernel_rfl) (yieldsIf_load_mid (by rfl) 35 _ rfl (w.heap.size) 5 rfl [.string m.target.name, .string m.target.tool, .string m.target.arg, .slice a0 m.target.ins.length c0, .slice a1 m.target.outs.length c1] _ (fun V hV => range_mid [.int .i64 m.kind, .int .i64 m.to, .int .i64 m.sender, .int .i64 m.epoch, .int .i64 m.edit] _ [.slice a2 m.seen.length c2, .int .i64 m.count, .bool m.turn.over, .int .i64 m.turn.code, .string m.turn.text, .int .i64 m.turn.kind, .string m.turn.name, .int .i64 m.turn.steps, .slice a3 m.turn.files.length c3, .slice a4 m.turn.said.length c4] hV rfl) Tryz.underlying35 rfl (by kernel_rfl)) (HE.out _ HRB0.out) ?_
  simp only [Act.put, List.getElem_toArray, List.getElem_cons_zero, List.getElem_cons_succ, List.setIfInBounds_toArray, List.set_cons_zero, List.set_cons_succ]
  refine wpAnyU_take (i := 3) (v := .pointer (some ⟨w.heap.size, 10, none⟩)) rfl (by kernel_rfl) (by kernel_rfl) (by kernel_rfl) (fun _ _ _ h => h) (by kernel_rfl) (by kernel_rfl) (by kernel_rfl) (Or.inl ⟨by rfl, fun V _ => by kernel_rfl⟩) (HE.out _ HRB0.out) ?_
  simp only [Act.put, List.getElem_toArray, List.getElem_cons_zero, List.getElem_cons_succ, List.setIfInBounds_toArray, List.set_cons_zero, List.set_cons_succ]
  refine wpAnyU_take (i := 4) (v := .slice a2 m.seen.length c2) rfl (by kernel_rfl) (by kernel_rfl) (by kernel_rfl) (fun _ _ _ h => h) (by kernel_rfl) (by kernel_rfl) (by kernel_rfl) (Or.inl ⟨by rfl, fun V hV => by have hc : V.cell? ⟨w.heap.size, 10, none⟩ = some (.slice a2 m.seen.length c2) := row_cell hV 10; go_simp⟩) (HE.out _ HRB0.out) ?_
  simp only [Act.put, List.getElem_toArray, List.getElem_cons_zero, List.getElem_cons_succ, List.setIfInBounds_toArray, List.set_cons_zero, List.set_cons_succ]
  refine wpAnyU_take (i := 6) (v := .pointer (some ⟨w.heap.size, 12, none⟩)) rfl (by kernel_rfl) (by kernel_rfl) (by kernel_rfl) (fun _ _ _ h => h) (by kernel_rfl) (by kernel_rfl) (by kernel_rfl) (Or.inl ⟨by rfl, fun V _ => by kernel_rfl⟩) (HE.out _ HRB0.out) ?_
  simp only [Act.put, List.getElem_toArray, List.getElem_cons_zero, List.getElem_cons_succ, List.setIfInBounds_toArray, List.set_cons_zero, List.set_cons_succ]
  refine wpAnyU_take (i := 7) (v := .agg #[.bool m.turn.over, .int .i64 m.turn.code, .string m.turn.text, .int .i64 m.turn.kind, .string m.turn.name, .int .i64 m.turn.steps, .slice a3 m.turn.files.length c3, .slice a4 m.turn.said.length c4]) rfl (by kernel_rfl) (by kernel_rfl) (by kernel_rfl) (fun _ _ _ h => h) (by kernel_rfl) (by kernel_rfl) (by kernel_rfl) (yieldsIf_load_mid (by rfl) 39 _ rfl (w.heap.size) 12 rfl [.bool m.turn.over, .int .i64 m.turn.code, .string m.turn.text, .int .i64 m.turn.kind, .string m.turn.name, .int .i64 m.turn.steps, .slice a3 m.turn.files.length c3, .slice a4 m.turn.said.length c4] _ (fun V hV => range_mid [.int .i64 m.kind, .int .i64 m.to, .int .i64 m.sender, .int .i64 m.epoch, .int .i64 m.edit, .string m.target.name, .string m.target.tool, .string m.target.arg, .slice a0 m.target.ins.length c0, .slice a1 m.target.outs.length c1, .slice a2 m.seen.length c2, .int .i64 m.count] _ [] hV rfl) Tryz.underlying39 rfl (by kernel_rfl)) (HE.out _ HRB0.out) ?_
  simp only [Act.put, List.getElem_toArray, List.getElem_cons_zero, List.getElem_cons_succ, List.setIfInBounds_toArray, List.set_cons_zero, List.set_cons_succ]
  refine until_call (i := 2) (by kernel_rfl) rfl rfl (by kernel_rfl) (tgCopied_any m.target _ (HK.out.r0.next (HX0.out.next HRB0.out).lo) (HK.out.r1.next (HX0.out.next HRB0.out).lo) HS.out.tg) ?_
  rintro e y1 ⟨u0, u1, rfl, ho0, ho1, ha, hb⟩
  have HRB1 := hid (show Below W0.heap.size W0 y1 from (HRB0.out).trans (hb.mono (HRB0.out).size))
  obtain ⟨b0, d0, rfl⟩ := own_formK ho0
  obtain ⟨b1, d1, rfl⟩ := own_formK ho1
  have HO0 := hid ho0
  have HO1 := hid ho1
  have HA := hid ha
  clear ho0 ho1 ha
  clear hb
  refine ⟨_, rfl, HE.out _ HRB1.out, ?_⟩
  simp only [Act.put, List.getElem_toArray, List.getElem_cons_zero, List.getElem_cons_succ, List.setIfInBounds_toArray, List.set_cons_zero, List.set_cons_succ]
  refine wpAnyU_take (i := 9) (v := .pointer (some ⟨w.heap.size, 5, none⟩)) rfl (by kernel_rfl) (by kernel_rfl) (by kernel_rfl) (fun _ _ _ h => h) (by kernel_rfl) (by kernel_rfl) (by kernel_rfl) (Or.inl ⟨by rfl, fun V _ => by kernel_rfl⟩) (HE.out _ HRB1.out) ?_
  simp only [Act.put, List.getElem_toArray, List.getElem_cons_zero, List.getElem_cons_succ, List.setIfInBounds_toArray, List.set_cons_zero, List.set_cons_succ]
  refine until_call (i := 5) (by kernel_rfl) rfl rfl (by kernel_rfl) (copiedSn_any m.seen _ HS.out.sn.1 (HK.out.r2.next (HX0.out.next HRB1.out).lo) HS.out.sn.2) ?_
  rintro e y2 ⟨u2, rfl, ho, hb⟩
  have HRB2 := hid (show Below W0.heap.size W0 y2 from (HRB1.out).trans (hb.mono (HRB1.out).size))
  obtain ⟨b2, d2, rfl⟩ := own_formK ho
  have HO2 := hid ho
  clear ho
  have HN2 := hid hb
  clear hb
  refine ⟨_, rfl, HE.out _ HRB2.out, ?_⟩
  simp only [Act.put, List.getElem_toArray, List.getElem_cons_zero, List.getElem_cons_succ, List.setIfInBounds_toArray, List.set_cons_zero, List.set_cons_succ]
  refine until_call (i := 8) (by kernel_rfl) rfl rfl (by kernel_rfl) (tuCopied_any m.turn _ (HK.out.r3.next (HX0.out.next HRB2.out).lo) (HK.out.r4.next (HX0.out.next HRB2.out).lo) HS.out.tx HS.out.nm HS.out.fl.1 HS.out.sd.1 HS.out.fl.2 HS.out.sd.2) ?_
  rintro e y3 ⟨u3, u4, rfl, ho3, ho4, hb⟩
  have HRB3 := hid (show Below W0.heap.size W0 y3 from (HRB2.out).trans (hb.mono (HRB2.out).size))
  obtain ⟨b3, d3, rfl⟩ := own_formK ho3
  obtain ⟨b4, d4, rfl⟩ := own_formK ho4
  have HO3 := hid ho3
  have HO4 := hid ho4
  clear ho3 ho4
  have HN3 := hid hb
  clear hb
  refine ⟨_, rfl, HE.out _ HRB3.out, ?_⟩
  simp only [Act.put, List.getElem_toArray, List.getElem_cons_zero, List.getElem_cons_succ, List.setIfInBounds_toArray, List.set_cons_zero, List.set_cons_succ]
  have HXe := hid (HX0.out.next HRB3.out)
  have h12 : y1.heap.size ≤ y2.heap.size := HN2.out.size
  have HOM : Hid (OwnMs (w.heap.size + 2) y3 m (.slice b0 m.target.ins.length d0) (.slice b1 m.target.outs.length d1) (.slice b2 m.seen.length d2) (.slice b3 m.turn.files.length d3) (.slice b4 m.turn.said.length d4)) := hid ⟨own_monoK (own_next (own_next HO0.out HN2.out) HN3.out) (Nat.le_trans HX0.out.sz HRB0.out.size), own_monoK (own_next (own_next HO1.out HN2.out) HN3.out) (Nat.le_trans HX0.out.sz HRB0.out.size), own_monoK (own_next HO2.out HN3.out) (Nat.le_trans HX0.out.sz HRB1.out.size), own_monoK HO3.out (Nat.le_trans HX0.out.sz HRB2.out.size), own_monoK HO4.out (Nat.le_trans HX0.out.sz HRB2.out.size), HA.out, ap_of HO0.out HO4.out h12, ap_of HO1.out HO4.out h12⟩
  clear h12 HO0 HO1 HO2 HO3 HO4 HA
  have HTHA := hid (show y3.there w.heap.size 5 5 from there_block HXe.out.e (by simp))
  have HXA0 := hid (HXe.out.mid (pre := [.int .i64 m.kind, .int .i64 m.to, .int .i64 m.sender, .int .i64 m.epoch, .int .i64 m.edit]) (old := [.string m.target.name, .string m.target.tool, .string m.target.arg, .slice a0 m.target.ins.length c0, .slice a1 m.target.outs.length c1]) (new := [.string m.target.name, .string m.target.tool, .string m.target.arg, .slice b0 m.target.ins.length d0, .slice b1 m.target.outs.length d1]) (post := [.slice a2 m.seen.length c2, .int .i64 m.count, .bool m.turn.over, .int .i64 m.turn.code, .string m.turn.text, .int .i64 m.turn.kind, .string m.turn.name, .int .i64 m.turn.steps, .slice a3 m.turn.files.length c3, .slice a4 m.turn.said.length c4]) rfl)
  refine until_store_mid (i := 10) (by kernel_rfl) rfl rfl 35 _ _ rfl (w.heap.size) 5 #[.string m.target.name, .string m.target.tool, .string m.target.arg, .slice b0 m.target.ins.length d0, .slice b1 m.target.outs.length d1] rfl rfl (HTHA.out) (by kernel_rfl) (by simp [Value.oneCell']) (by kernel_rfl) ?_
  simp only [Act.put, List.getElem_toArray, List.getElem_cons_zero, List.getElem_cons_succ]
  obtain ⟨ZA, hZA⟩ : ∃ V, y3.setCells w.heap.size 5 [.string m.target.name, .string m.target.tool, .string m.target.arg, .slice b0 m.target.ins.length d0, .slice b1 m.target.outs.length d1] = V := ⟨_, rfl⟩
  have HXA : Hid (Q2 w #[.int .i64 m.kind, .int .i64 m.to, .int .i64 m.sender, .int .i64 m.epoch, .int .i64 m.edit, .string m.target.name, .string m.target.tool, .string m.target.arg, .slice b0 m.target.ins.length d0, .slice b1 m.target.outs.length d1, .slice a2 m.seen.length c2, .int .i64 m.count, .bool m.turn.over, .int .i64 m.turn.code, .string m.turn.text, .int .i64 m.turn.kind, .string m.turn.name, .int .i64 m.turn.steps, .slice a3 m.turn.files.length c3, .slice a4 m.turn.said.length c4] #[.int .i64 0, .int .i64 0, .int .i64 0, .int .i64 0, .int .i64 0, .string ⟨#[]⟩, .string ⟨#[]⟩, .string ⟨#[]⟩, .slice none 0 0, .slice none 0 0, .slice none 0 0, .int .i64 0, .bool false, .int .i64 0, .string ⟨#[]⟩, .int .i64 0, .string ⟨#[]⟩, .int .i64 0, .slice none 0 0, .slice none 0 0] 41 ZA) := hid (by rw [← hZA]; exact HXA0.out)
  have HOMA := hid (HOM.out.hp (V := ZA) fun i hi _ => by rw [← hZA]; exact setCells_other _ i (by omega) _ _ _)
  have hVA : y3.setCells w.heap.size 5 (#[.string m.target.name, .string m.target.tool, .string m.target.arg, .slice b0 m.target.ins.length d0, .slice b1 m.target.outs.length d1] : Array Value).toList = ZA := hZA
  try rw [hZA]
  try rw [hVA]
  clear hZA hVA HTHA HXA0
  refine until_value (i := 11) (by kernel_rfl) rfl rfl (.pointer (some ⟨w.heap.size, 10, none⟩)) (by kernel_rfl) (fun h => by cases h) ?_
  simp only [Act.put, List.getElem_toArray, List.getElem_cons_zero, List.getElem_cons_succ, List.setIfInBounds_toArray, List.set_cons_zero, List.set_cons_succ]
  have cSB : ZA.cell? ⟨w.heap.size, 10, none⟩ = some (.slice a2 m.seen.length c2) := row_cell HXA.out.e 10
  have fSB : ZA.frozen? ⟨w.heap.size, 10, none⟩ = false := (row_room (i := 10) HXA.out.e (by simp)).2
  refine until_store (i := 12) (w' := ZA.setCell ⟨w.heap.size, 10, none⟩ (.slice b2 m.seen.length d2)) (by kernel_rfl) rfl rfl (by go_simp) (by kernel_rfl) ?_
  simp only [Act.put, List.getElem_toArray, List.getElem_cons_zero, List.getElem_cons_succ]
  have HXB := hid ((HXA.out.set 10 (.slice b2 m.seen.length d2)).cast (C' := #[.int .i64 m.kind, .int .i64 m.to, .int .i64 m.sender, .int .i64 m.epoch, .int .i64 m.edit, .string m.target.name, .string m.target.tool, .string m.target.arg, .slice b0 m.target.ins.length d0, .slice b1 m.target.outs.length d1, .slice b2 m.seen.length d2, .int .i64 m.count, .bool m.turn.over, .int .i64 m.turn.code, .string m.turn.text, .int .i64 m.turn.kind, .string m.turn.name, .int .i64 m.turn.steps, .slice a3 m.turn.files.length c3, .slice a4 m.turn.said.length c4]) rfl)
  have HOMB := hid (HOMA.out.hp (V := ZA.setCell ⟨w.heap.size, 10, none⟩ (.slice b2 m.seen.length d2)) fun i hi _ => set_other _ _ _ _ _ (by omega))
  obtain ⟨ZB, hZB⟩ : ∃ Z, ZA.setCell ⟨w.heap.size, 10, none⟩ (.slice b2 m.seen.length d2) = Z := ⟨_, rfl⟩
  rw [hZB] at HXB HOMB ⊢
  clear hZB cSB fSB
  refine until_value (i := 13) (by kernel_rfl) rfl rfl (.pointer (some ⟨w.heap.size, 12, none⟩)) (by kernel_rfl) (fun h => by cases h) ?_
  simp only [Act.put, List.getElem_toArray, List.getElem_cons_zero, List.getElem_cons_succ, List.setIfInBounds_toArray, List.set_cons_zero, List.set_cons_succ]
  have HTHC := hid (show ZB.there w.heap.size 12 8 from there_block HXB.out.e (by simp))
  have HXC0 := hid (HXB.out.mid (pre := [.int .i64 m.kind, .int .i64 m.to, .int .i64 m.sender, .int .i64 m.epoch, .int .i64 m.edit, .string m.target.name, .string m.target.tool, .string m.target.arg, .slice b0 m.target.ins.length d0, .slice b1 m.target.outs.length d1, .slice b2 m.seen.length d2, .int .i64 m.count]) (old := [.bool m.turn.over, .int .i64 m.turn.code, .string m.turn.text, .int .i64 m.turn.kind, .string m.turn.name, .int .i64 m.turn.steps, .slice a3 m.turn.files.length c3, .slice a4 m.turn.said.length c4]) (new := [.bool m.turn.over, .int .i64 m.turn.code, .string m.turn.text, .int .i64 m.turn.kind, .string m.turn.name, .int .i64 m.turn.steps, .slice b3 m.turn.files.length d3, .slice b4 m.turn.said.length d4]) (post := []) rfl)
  refine until_store_mid (i := 14) (by kernel_rfl) rfl rfl 39 _ _ rfl (w.heap.size) 12 #[.bool m.turn.over, .int .i64 m.turn.code, .string m.turn.text, .int .i64 m.turn.kind, .string m.turn.name, .int .i64 m.turn.steps, .slice b3 m.turn.files.length d3, .slice b4 m.turn.said.length d4] rfl rfl (HTHC.out) (by kernel_rfl) (by simp [Value.oneCell']) (by kernel_rfl) ?_
  simp only [Act.put, List.getElem_toArray, List.getElem_cons_zero, List.getElem_cons_succ]
  obtain ⟨ZC, hZC⟩ : ∃ V, ZB.setCells w.heap.size 12 [.bool m.turn.over, .int .i64 m.turn.code, .string m.turn.text, .int .i64 m.turn.kind, .string m.turn.name, .int .i64 m.turn.steps, .slice b3 m.turn.files.length d3, .slice b4 m.turn.said.length d4] = V := ⟨_, rfl⟩
  have HXC : Hid (Q2 w #[.int .i64 m.kind, .int .i64 m.to, .int .i64 m.sender, .int .i64 m.epoch, .int .i64 m.edit, .string m.target.name, .string m.target.tool, .string m.target.arg, .slice b0 m.target.ins.length d0, .slice b1 m.target.outs.length d1, .slice b2 m.seen.length d2, .int .i64 m.count, .bool m.turn.over, .int .i64 m.turn.code, .string m.turn.text, .int .i64 m.turn.kind, .string m.turn.name, .int .i64 m.turn.steps, .slice b3 m.turn.files.length d3, .slice b4 m.turn.said.length d4] #[.int .i64 0, .int .i64 0, .int .i64 0, .int .i64 0, .int .i64 0, .string ⟨#[]⟩, .string ⟨#[]⟩, .string ⟨#[]⟩, .slice none 0 0, .slice none 0 0, .slice none 0 0, .int .i64 0, .bool false, .int .i64 0, .string ⟨#[]⟩, .int .i64 0, .string ⟨#[]⟩, .int .i64 0, .slice none 0 0, .slice none 0 0] 41 ZC) := hid (by rw [← hZC]; exact HXC0.out)
  have HOMC := hid (HOMB.out.hp (V := ZC) fun i hi _ => by rw [← hZC]; exact setCells_other _ i (by omega) _ _ _)
  have hVC : ZB.setCells w.heap.size 12 (#[.bool m.turn.over, .int .i64 m.turn.code, .string m.turn.text, .int .i64 m.turn.kind, .string m.turn.name, .int .i64 m.turn.steps, .slice b3 m.turn.files.length d3, .slice b4 m.turn.said.length d4] : Array Value).toList = ZC := hZC
  try rw [hZC]
  try rw [hVC]
  clear hZC hVC HTHC HXC0
  refine until_done (by kernel_rfl) ?_ _
  go_upto_region 2 with fail
  have HSR := hid (setRow_heap ZC (w.heap.size + 1) _ #[.int .i64 m.kind, .int .i64 m.to, .int .i64 m.sender, .int .i64 m.epoch, .int .i64 m.edit, .string m.target.name, .string m.target.tool, .string m.target.arg, .slice b0 m.target.ins.length d0, .slice b1 m.target.outs.length d1, .slice b2 m.seen.length d2, .int .i64 m.count, .bool m.turn.over, .int .i64 m.turn.code, .string m.turn.text, .int .i64 m.turn.kind, .string m.turn.name, .int .i64 m.turn.steps, .slice b3 m.turn.files.length d3, .slice b4 m.turn.said.length d4] _ _ HXC.out.r)
  go_wp2_with (first | (refine wpList_load_row rfl 41 _ rfl (w.heap.size) rfl 41 #[.int .i64 m.kind, .int .i64 m.to, .int .i64 m.sender, .int .i64 m.epoch, .int .i64 m.edit, .string m.target.name, .string m.target.tool, .string m.target.arg, .slice b0 m.target.ins.length d0, .slice b1 m.target.outs.length d1, .slice b2 m.seen.length d2, .int .i64 m.count, .bool m.turn.over, .int .i64 m.turn.code, .string m.turn.text, .int .i64 m.turn.kind, .string m.turn.name, .int .i64 m.turn.steps, .slice b3 m.turn.files.length d3, .slice b4 m.turn.said.length d4] (0, 0) _ HXC.out.e Tryz.underlying41 rfl (by kernel_rfl) ?_) | (refine wpList_store_row rfl 41 _ _ rfl (w.heap.size + 1) #[.int .i64 m.kind, .int .i64 m.to, .int .i64 m.sender, .int .i64 m.epoch, .int .i64 m.edit, .string m.target.name, .string m.target.tool, .string m.target.arg, .slice b0 m.target.ins.length d0, .slice b1 m.target.outs.length d1, .slice b2 m.seen.length d2, .int .i64 m.count, .bool m.turn.over, .int .i64 m.turn.code, .string m.turn.text, .int .i64 m.turn.kind, .string m.turn.name, .int .i64 m.turn.steps, .slice b3 m.turn.files.length d3, .slice b4 m.turn.said.length d4] rfl rfl 41 _ HXC.out.r (by kernel_rfl) rfl (by simp [Value.oneCell']) ?_))
  refine bodyPost_ret (v := .agg #[.int .i64 m.kind, .int .i64 m.to, .int .i64 m.sender, .int .i64 m.epoch, .int .i64 m.edit, .string m.target.name, .string m.target.tool, .string m.target.arg, .slice b0 m.target.ins.length d0, .slice b1 m.target.outs.length d1, .slice b2 m.seen.length d2, .int .i64 m.count, .bool m.turn.over, .int .i64 m.turn.code, .string m.turn.text, .int .i64 m.turn.kind, .string m.turn.name, .int .i64 m.turn.steps, .slice b3 m.turn.files.length d3, .slice b4 m.turn.said.length d4]) ?_ rfl ⟨_, _, _, _, _, rfl, (HOMC.out.hp (V := ZC.setRow (w.heap.size + 1) _) fun i hi _ => setRow_other _ _ i _ (by omega)).mono (by omega), below_setRow HXC.out.lo (by omega) _⟩
  exact results_cell_row Tryz.results65 _ _ (w.heap.size + 1) 41 #[.int .i64 m.kind, .int .i64 m.to, .int .i64 m.sender, .int .i64 m.epoch, .int .i64 m.edit, .string m.target.name, .string m.target.tool, .string m.target.arg, .slice b0 m.target.ins.length d0, .slice b1 m.target.outs.length d1, .slice b2 m.seen.length d2, .int .i64 m.count, .bool m.turn.over, .int .i64 m.turn.code, .string m.turn.text, .int .i64 m.turn.kind, .string m.turn.name, .int .i64 m.turn.steps, .slice b3 m.turn.files.length d3, .slice b4 m.turn.said.length d4] (0, 0) _ rfl HSR.out Tryz.underlying41 rfl (by kernel_rfl)
end Go.Proofs.YtlopcjhipajdcaaGreatDoor.Y
