import Derived.Laws.EntriesVeiled
import Derived.Test.YtlopcjhipajdcaaGreatDoorJ50
import Derived.Test.YtlopcjhipajdcaaGreatDoorJ51
import Derived.Test.YtlopcjhipajdcaaGreatDoorJ34
/-! The law of YardWorkerTake. Printed by gen_yrow.py. -/
namespace Go.Proofs.YtlopcjhipajdcaaGreatDoor.Y
open Go.RowKit R
open Go.Proofs.YtlopcjhipajdcaaGreatDoor.J (FileOk BegOk RepOk ltB Says says_t says_f)
set_option maxRecDepth 20000
theorem take_same {x : Wk} {m : Ms} {R S : Wk} (h : TakeIs x m R) (h2 : TakeIs x m S) : S = R := (h.uniq h2).symm
set_option maxHeartbeats 40000000 in
theorem law_take (x : Wk) (m : Ms) {v0 v1 v2 v3 v4 p0 p1 p2 p3 p4 : Value} (w : World) (hO : OkWk x) (hO2 : OkMs m) (k0 : SStrA w v0 x.offer.target.ins) (k1 : SStrA w v1 x.offer.target.outs) (k2 : SSnA w v2 x.offer.seen) (k3 : SFlA w v3 x.offer.turn.files) (k4 : SStrA w v4 x.offer.turn.said) (l0 : SStrA w p0 m.target.ins) (l1 : SStrA w p1 m.target.outs) (l2 : SSnA w p2 m.seen) (l3 : SFlA w p3 m.turn.files) (l4 : SStrA w p4 m.turn.said) :
    Calls Tryz.prog 4 #[.agg #[.int .i64 x.number, .bool x.up, .bool x.has, .int .i64 x.offer.kind, .int .i64 x.offer.to, .int .i64 x.offer.sender, .int .i64 x.offer.epoch, .int .i64 x.offer.edit, .string x.offer.target.name, .string x.offer.target.tool, .string x.offer.target.arg, v0, v1, v2, .int .i64 x.offer.count, .bool x.offer.turn.over, .int .i64 x.offer.turn.code, .string x.offer.turn.text, .int .i64 x.offer.turn.kind, .string x.offer.turn.name, .int .i64 x.offer.turn.steps, v3, v4], .agg #[.int .i64 m.kind, .int .i64 m.to, .int .i64 m.sender, .int .i64 m.epoch, .int .i64 m.edit, .string m.target.name, .string m.target.tool, .string m.target.arg, p0, p1, p2, .int .i64 m.count, .bool m.turn.over, .int .i64 m.turn.code, .string m.turn.text, .int .i64 m.turn.kind, .string m.turn.name, .int .i64 m.turn.steps, p3, p4]] w fun e w' => e = .returned (.bool true) ∧ Below w.heap.size w w' := by
  have HO := hid hO
  have HOM := hid hO2
  clear hO hO2
  have K0 := hid k0
  obtain ⟨a0, c0, rfl⟩ := k0.sl
  have N0 := hid l0
  obtain ⟨e0, f0, rfl⟩ := l0.sl
  have K1 := hid k1
  obtain ⟨a1, c1, rfl⟩ := k1.sl
  have N1 := hid l1
  obtain ⟨e1, f1, rfl⟩ := l1.sl
  have K2 := hid k2
  obtain ⟨a2, c2, rfl⟩ := k2.sl
  have N2 := hid l2
  obtain ⟨e2, f2, rfl⟩ := l2.sl
  have K3 := hid k3
  obtain ⟨a3, c3, rfl⟩ := k3.sl
  have N3 := hid l3
  obtain ⟨e3, f3, rfl⟩ := l3.sl
  have K4 := hid k4
  obtain ⟨a4, c4, rfl⟩ := k4.sl
  have N4 := hid l4
  obtain ⟨e4, f4, rfl⟩ := l4.sl
  clear k0 k1 k2 k3 k4 l0 l1 l2 l3 l4
  have HX0 := hid (L2.start w #[.int .i64 x.number, .bool x.up, .bool x.has, .int .i64 x.offer.kind, .int .i64 x.offer.to, .int .i64 x.offer.sender, .int .i64 x.offer.epoch, .int .i64 x.offer.edit, .string x.offer.target.name, .string x.offer.target.tool, .string x.offer.target.arg, .slice a0 x.offer.target.ins.length c0, .slice a1 x.offer.target.outs.length c1, .slice a2 x.offer.seen.length c2, .int .i64 x.offer.count, .bool x.offer.turn.over, .int .i64 x.offer.turn.code, .string x.offer.turn.text, .int .i64 x.offer.turn.kind, .string x.offer.turn.name, .int .i64 x.offer.turn.steps, .slice a3 x.offer.turn.files.length c3, .slice a4 x.offer.turn.said.length c4] #[.int .i64 m.kind, .int .i64 m.to, .int .i64 m.sender, .int .i64 m.epoch, .int .i64 m.edit, .string m.target.name, .string m.target.tool, .string m.target.arg, .slice e0 m.target.ins.length f0, .slice e1 m.target.outs.length f1, .slice e2 m.seen.length f2, .int .i64 m.count, .bool m.turn.over, .int .i64 m.turn.code, .string m.turn.text, .int .i64 m.turn.kind, .string m.turn.name, .int .i64 m.turn.steps, .slice e3 m.turn.files.length f3, .slice e4 m.turn.said.length f4])
  obtain ⟨w0, hw0⟩ : ∃ W, (w.alloc (.cells #[.int .i64 x.number, .bool x.up, .bool x.has, .int .i64 x.offer.kind, .int .i64 x.offer.to, .int .i64 x.offer.sender, .int .i64 x.offer.epoch, .int .i64 x.offer.edit, .string x.offer.target.name, .string x.offer.target.tool, .string x.offer.target.arg, .slice a0 x.offer.target.ins.length c0, .slice a1 x.offer.target.outs.length c1, .slice a2 x.offer.seen.length c2, .int .i64 x.offer.count, .bool x.offer.turn.over, .int .i64 x.offer.turn.code, .string x.offer.turn.text, .int .i64 x.offer.turn.kind, .string x.offer.turn.name, .int .i64 x.offer.turn.steps, .slice a3 x.offer.turn.files.length c3, .slice a4 x.offer.turn.said.length c4] 32)).alloc (.cells #[.int .i64 m.kind, .int .i64 m.to, .int .i64 m.sender, .int .i64 m.epoch, .int .i64 m.edit, .string m.target.name, .string m.target.tool, .string m.target.arg, .slice e0 m.target.ins.length f0, .slice e1 m.target.outs.length f1, .slice e2 m.seen.length f2, .int .i64 m.count, .bool m.turn.over, .int .i64 m.turn.code, .string m.turn.text, .int .i64 m.turn.kind, .string m.turn.name, .int .i64 m.turn.steps, .slice e3 m.turn.files.length f3, .slice e4 m.turn.said.length f4] 30) = W := ⟨_, rfl⟩
  rw [hw0] at HX0
  go_enter Tryz.func4, Tryz.ntmps4
  go_upto_region 2 with fail
  clear hw0
  go_wp2_with (first | (refine wpList_load_row rfl 32 _ rfl (w.heap.size) rfl 32 #[.int .i64 x.number, .bool x.up, .bool x.has, .int .i64 x.offer.kind, .int .i64 x.offer.to, .int .i64 x.offer.sender, .int .i64 x.offer.epoch, .int .i64 x.offer.edit, .string x.offer.target.name, .string x.offer.target.tool, .string x.offer.target.arg, .slice a0 x.offer.target.ins.length c0, .slice a1 x.offer.target.outs.length c1, .slice a2 x.offer.seen.length c2, .int .i64 x.offer.count, .bool x.offer.turn.over, .int .i64 x.offer.turn.code, .string x.offer.turn.text, .int .i64 x.offer.turn.kind, .string x.offer.turn.name, .int .i64 x.offer.turn.steps, .slice a3 x.offer.turn.files.length c3, .slice a4 x.offer.turn.said.length c4] (0, 0) _ HX0.out.e Tryz.underlying32 rfl (by kernel_rfl) ?_))
  refine (szWk_any x 1048576 w0 (by omega) (by omega) HO.out (K0.out.next HX0.out.lo) (K1.out.next HX0.out.lo) (K2.out.next HX0.out.lo) (K3.out.next HX0.out.lo) (K4.out.next HX0.out.lo)).mono ?_
  rintro e w1 ⟨⟨r, rfl, _, hr1, h3⟩, hb⟩
  have HX1 := hid (HX0.out.next hb)
  have H3 := hid h3
  clear hb h3
  by_cases hr : r < 0
  · go_wp2
    go_ret
    exact ⟨rfl, HX1.out.lo⟩
  have HW1 : Hid (r + (wWk x : Int) = 1048576) := H3.out (by omega)
  clear H3
  go_wp2_with (first | (refine wpList_load_row rfl 30 _ rfl (w.heap.size + 1) rfl 30 #[.int .i64 m.kind, .int .i64 m.to, .int .i64 m.sender, .int .i64 m.epoch, .int .i64 m.edit, .string m.target.name, .string m.target.tool, .string m.target.arg, .slice e0 m.target.ins.length f0, .slice e1 m.target.outs.length f1, .slice e2 m.seen.length f2, .int .i64 m.count, .bool m.turn.over, .int .i64 m.turn.code, .string m.turn.text, .int .i64 m.turn.kind, .string m.turn.name, .int .i64 m.turn.steps, .slice e3 m.turn.files.length f3, .slice e4 m.turn.said.length f4] (0, 0) _ HX1.out.m Tryz.underlying30 rfl (by kernel_rfl) ?_))
  refine (szMs_any m r w1 (by omega) hr1 HOM.out (N0.out.next HX1.out.lo) (N1.out.next HX1.out.lo) (N2.out.next HX1.out.lo) (N3.out.next HX1.out.lo) (N4.out.next HX1.out.lo)).mono ?_
  rintro e w2 ⟨⟨r2, rfl, _, hr2, h3⟩, hb⟩
  have HX2 := hid (HX1.out.next hb)
  have H3 := hid h3
  clear hb h3
  by_cases hr3 : r2 < 0
  · go_wp2
    go_ret
    exact ⟨rfl, HX2.out.lo⟩
  have HW2 : Hid (wMs x.offer ≤ 1048576 ∧ wMs m ≤ 1048576 ∧ wMs x.offer + wMs m ≤ 1048576) := hid (by
    have h1 := HW1.out
    have h2 := H3.out (by omega)
    have e1 : wWk x = wMs x.offer := rfl
    rw [e1] at h1
    omega)
  have HKX := hid (lkMs_of HW2.out.1)
  have HKM := hid (lkMs_of HW2.out.2.1)
  have HCT : Hid (cntMs x.offer + cntMs m ≤ 4194304) := hid (by have h1 := cnt_le x.offer; have h2 := cnt_le m; have := HW2.out.2.2; omega)
  clear H3 HW1 HO HOM hr hr1 hr2
  go_upto_region 8 with fail
  clear hr3
  go_cut [6] (fun v W' => ∃ g R, v = .pointer (some ⟨g, 0, none⟩) ∧ w2.heap.size ≤ g ∧ TakeIs x m R ∧ (∃ b0 d0 b1 d1 b2 d2 b3 d3 b4 d4, W'.heap[g]? = some (.cells #[.int .i64 R.number, .bool R.up, .bool R.has, .int .i64 R.offer.kind, .int .i64 R.offer.to, .int .i64 R.offer.sender, .int .i64 R.offer.epoch, .int .i64 R.offer.edit, .string R.offer.target.name, .string R.offer.target.tool, .string R.offer.target.arg, .slice b0 R.offer.target.ins.length d0, .slice b1 R.offer.target.outs.length d1, .slice b2 R.offer.seen.length d2, .int .i64 R.offer.count, .bool R.offer.turn.over, .int .i64 R.offer.turn.code, .string R.offer.turn.text, .int .i64 R.offer.turn.kind, .string R.offer.turn.name, .int .i64 R.offer.turn.steps, .slice b3 R.offer.turn.files.length d3, .slice b4 R.offer.turn.said.length d4] 43 (0, 0)) ∧ OwnMs w2.heap.size W' R.offer (.slice b0 R.offer.target.ins.length d0) (.slice b1 R.offer.target.outs.length d1) (.slice b2 R.offer.seen.length d2) (.slice b3 R.offer.turn.files.length d3) (.slice b4 R.offer.turn.said.length d4)) ∧ Below w2.heap.size w2 W')
  case first =>
    have HS := hid (show ∀ V, Below w2.heap.size w2 V → (V.heap[w.heap.size]? = some (.cells #[.int .i64 x.number, .bool x.up, .bool x.has, .int .i64 x.offer.kind, .int .i64 x.offer.to, .int .i64 x.offer.sender, .int .i64 x.offer.epoch, .int .i64 x.offer.edit, .string x.offer.target.name, .string x.offer.target.tool, .string x.offer.target.arg, .slice a0 x.offer.target.ins.length c0, .slice a1 x.offer.target.outs.length c1, .slice a2 x.offer.seen.length c2, .int .i64 x.offer.count, .bool x.offer.turn.over, .int .i64 x.offer.turn.code, .string x.offer.turn.text, .int .i64 x.offer.turn.kind, .string x.offer.turn.name, .int .i64 x.offer.turn.steps, .slice a3 x.offer.turn.files.length c3, .slice a4 x.offer.turn.said.length c4] 32 (0, 0)) ∧ V.heap[w.heap.size + 1]? = some (.cells #[.int .i64 m.kind, .int .i64 m.to, .int .i64 m.sender, .int .i64 m.epoch, .int .i64 m.edit, .string m.target.name, .string m.target.tool, .string m.target.arg, .slice e0 m.target.ins.length f0, .slice e1 m.target.outs.length f1, .slice e2 m.seen.length f2, .int .i64 m.count, .bool m.turn.over, .int .i64 m.turn.code, .string m.turn.text, .int .i64 m.turn.kind, .string m.turn.name, .int .i64 m.turn.steps, .slice e3 m.turn.files.length f3, .slice e4 m.turn.said.length f4] 30 (0, 0))) from fun V h => ⟨(HX2.out.next h).e, (HX2.out.next h).m⟩)
    have HB := hid ((Below.refl w2.heap.size w2).drew)
    refine wp_region_held_drew (S := fun V => V.heap[w.heap.size]? = some (.cells #[.int .i64 x.number, .bool x.up, .bool x.has, .int .i64 x.offer.kind, .int .i64 x.offer.to, .int .i64 x.offer.sender, .int .i64 x.offer.epoch, .int .i64 x.offer.edit, .string x.offer.target.name, .string x.offer.target.tool, .string x.offer.target.arg, .slice a0 x.offer.target.ins.length c0, .slice a1 x.offer.target.outs.length c1, .slice a2 x.offer.seen.length c2, .int .i64 x.offer.count, .bool x.offer.turn.over, .int .i64 x.offer.turn.code, .string x.offer.turn.text, .int .i64 x.offer.turn.kind, .string x.offer.turn.name, .int .i64 x.offer.turn.steps, .slice a3 x.offer.turn.files.length c3, .slice a4 x.offer.turn.said.length c4] 32 (0, 0)) ∧ V.heap[w.heap.size + 1]? = some (.cells #[.int .i64 m.kind, .int .i64 m.to, .int .i64 m.sender, .int .i64 m.epoch, .int .i64 m.edit, .string m.target.name, .string m.target.tool, .string m.target.arg, .slice e0 m.target.ins.length f0, .slice e1 m.target.outs.length f1, .slice e2 m.seen.length f2, .int .i64 m.count, .bool m.turn.over, .int .i64 m.turn.code, .string m.turn.text, .int .i64 m.turn.kind, .string m.turn.name, .int .i64 m.turn.steps, .slice e3 m.turn.files.length f3, .slice e4 m.turn.said.length f4] 30 (0, 0))) (by kernel_rfl) (HS.out _ HB.out) (fun hHeld => ?_)
    refine wpAnyH_take (i := 0) (v := .agg #[.int .i64 x.number, .bool x.up, .bool x.has, .int .i64 x.offer.kind, .int .i64 x.offer.to, .int .i64 x.offer.sender, .int .i64 x.offer.epoch, .int .i64 x.offer.edit, .string x.offer.target.name, .string x.offer.target.tool, .string x.offer.target.arg, .slice a0 x.offer.target.ins.length c0, .slice a1 x.offer.target.outs.length c1, .slice a2 x.offer.seen.length c2, .int .i64 x.offer.count, .bool x.offer.turn.over, .int .i64 x.offer.turn.code, .string x.offer.turn.text, .int .i64 x.offer.turn.kind, .string x.offer.turn.name, .int .i64 x.offer.turn.steps, .slice a3 x.offer.turn.files.length c3, .slice a4 x.offer.turn.said.length c4]) rfl (by kernel_rfl) (by kernel_rfl) (by kernel_rfl) (fun _ _ _ h => h) (yieldsIf_load_mid (by rfl) 32 _ rfl (w.heap.size) 0 rfl [.int .i64 x.number, .bool x.up, .bool x.has, .int .i64 x.offer.kind, .int .i64 x.offer.to, .int .i64 x.offer.sender, .int .i64 x.offer.epoch, .int .i64 x.offer.edit, .string x.offer.target.name, .string x.offer.target.tool, .string x.offer.target.arg, .slice a0 x.offer.target.ins.length c0, .slice a1 x.offer.target.outs.length c1, .slice a2 x.offer.seen.length c2, .int .i64 x.offer.count, .bool x.offer.turn.over, .int .i64 x.offer.turn.code, .string x.offer.turn.text, .int .i64 x.offer.turn.kind, .string x.offer.turn.name, .int .i64 x.offer.turn.steps, .slice a3 x.offer.turn.files.length c3, .slice a4 x.offer.turn.said.length c4] _ (fun V h => range_mid [] _ [] h.1 rfl) Tryz.underlying32 rfl (by kernel_rfl)) hHeld ?_
    simp only [Act.put, List.getElem_toArray, List.getElem_cons_zero, List.setIfInBounds_toArray, List.set_cons_zero, List.set_cons_succ]
    refine wpAnyH_take (i := 2) (v := .agg #[.int .i64 m.kind, .int .i64 m.to, .int .i64 m.sender, .int .i64 m.epoch, .int .i64 m.edit, .string m.target.name, .string m.target.tool, .string m.target.arg, .slice e0 m.target.ins.length f0, .slice e1 m.target.outs.length f1, .slice e2 m.seen.length f2, .int .i64 m.count, .bool m.turn.over, .int .i64 m.turn.code, .string m.turn.text, .int .i64 m.turn.kind, .string m.turn.name, .int .i64 m.turn.steps, .slice e3 m.turn.files.length f3, .slice e4 m.turn.said.length f4]) rfl (by kernel_rfl) (by kernel_rfl) (by kernel_rfl) (fun _ _ _ h => h) (yieldsIf_load_mid (by rfl) 30 _ rfl (w.heap.size + 1) 0 rfl [.int .i64 m.kind, .int .i64 m.to, .int .i64 m.sender, .int .i64 m.epoch, .int .i64 m.edit, .string m.target.name, .string m.target.tool, .string m.target.arg, .slice e0 m.target.ins.length f0, .slice e1 m.target.outs.length f1, .slice e2 m.seen.length f2, .int .i64 m.count, .bool m.turn.over, .int .i64 m.turn.code, .string m.turn.text, .int .i64 m.turn.kind, .string m.turn.name, .int .i64 m.turn.steps, .slice e3 m.turn.files.length f3, .slice e4 m.turn.said.length f4] _ (fun V h => range_mid [] _ [] h.2 rfl) Tryz.underlying30 rfl (by kernel_rfl)) hHeld ?_
    simp only [Act.put, List.getElem_toArray, List.getElem_cons_zero, List.getElem_cons_succ, List.setIfInBounds_toArray, List.set_cons_zero, List.set_cons_succ]
    refine held_two (i := 1) (j := 5) (w2 := (w2.drew).alloc (.cells #[.int .i64 0, .bool false, .bool false, .int .i64 0, .int .i64 0, .int .i64 0, .int .i64 0, .int .i64 0, .string ⟨#[]⟩, .string ⟨#[]⟩, .string ⟨#[]⟩, .slice none 0 0, .slice none 0 0, .slice none 0 0, .int .i64 0, .bool false, .int .i64 0, .string ⟨#[]⟩, .int .i64 0, .string ⟨#[]⟩, .int .i64 0, .slice none 0 0, .slice none 0 0] 43)) (v := .pointer (some ⟨(w2.drew).heap.size, 0, none⟩)) (by kernel_rfl) rfl rfl rfl rfl (by kernel_rfl) (toWk_any x _ HKX.out.lo (K0.out.next (HX2.out.next HB.out).lo) (K1.out.next (HX2.out.next HB.out).lo) (K2.out.next (HX2.out.next HB.out).lo) (K3.out.next (HX2.out.next HB.out).lo) (K4.out.next (HX2.out.next HB.out).lo)) (by kernel_rfl) (HS.out _ ((show Below w2.heap.size w2 w2.drew from HB.out).alloc (HB.out).size (.cells #[.int .i64 0, .bool false, .bool false, .int .i64 0, .int .i64 0, .int .i64 0, .int .i64 0, .int .i64 0, .string ⟨#[]⟩, .string ⟨#[]⟩, .string ⟨#[]⟩, .slice none 0 0, .slice none 0 0, .slice none 0 0, .int .i64 0, .bool false, .int .i64 0, .string ⟨#[]⟩, .int .i64 0, .string ⟨#[]⟩, .int .i64 0, .slice none 0 0, .slice none 0 0] 43))) ?_ ?_
    · rintro e wc ⟨u0, u1, u2, u3, u4, rfl, r0, r1, r2, r3, r4, hb⟩
      obtain ⟨p0, q0⟩ := r0.sl
      obtain ⟨p1, q1⟩ := r1.sl
      obtain ⟨p2, q2⟩ := r2.sl
      obtain ⟨p3, q3⟩ := r3.sl
      obtain ⟨p4, q4⟩ := r4.sl
      have HRW0 := hid (RdMs.ofR r0 r1 r2 r3 r4)
      subst q0 q1 q2 q3 q4
      have HRW := hid HRW0.out
      clear r0 r1 r2 r3 r4 HRW0
      have HB1 := hid ((HB.out).trans (hb.mono (HB.out).size))
      clear hb
      refine ⟨_, rfl, HS.out _ HB1.out, ?_⟩
      simp only [Act.put, List.getElem_toArray, List.getElem_cons_zero, List.getElem_cons_succ, List.setIfInBounds_toArray, List.set_cons_zero, List.set_cons_succ]
      refine held_two (i := 3) (j := 5) (w2 := (wc).alloc (.cells #[.int .i64 0, .bool false, .bool false, .int .i64 0, .int .i64 0, .int .i64 0, .int .i64 0, .int .i64 0, .string ⟨#[]⟩, .string ⟨#[]⟩, .string ⟨#[]⟩, .slice none 0 0, .slice none 0 0, .slice none 0 0, .int .i64 0, .bool false, .int .i64 0, .string ⟨#[]⟩, .int .i64 0, .string ⟨#[]⟩, .int .i64 0, .slice none 0 0, .slice none 0 0] 43)) (v := .pointer (some ⟨(wc).heap.size, 0, none⟩)) (by kernel_rfl) rfl rfl rfl rfl (by kernel_rfl) (toMs_any m _ HKM.out.lo (N0.out.next (HX2.out.next HB1.out).lo) (N1.out.next (HX2.out.next HB1.out).lo) (N2.out.next (HX2.out.next HB1.out).lo) (N3.out.next (HX2.out.next HB1.out).lo) (N4.out.next (HX2.out.next HB1.out).lo)) (by kernel_rfl) (HS.out _ ((show Below w2.heap.size w2 wc from HB1.out).alloc (HB1.out).size (.cells #[.int .i64 0, .bool false, .bool false, .int .i64 0, .int .i64 0, .int .i64 0, .int .i64 0, .int .i64 0, .string ⟨#[]⟩, .string ⟨#[]⟩, .string ⟨#[]⟩, .slice none 0 0, .slice none 0 0, .slice none 0 0, .int .i64 0, .bool false, .int .i64 0, .string ⟨#[]⟩, .int .i64 0, .string ⟨#[]⟩, .int .i64 0, .slice none 0 0, .slice none 0 0] 43))) ?_ ?_
      · rintro e wd ⟨u0, u1, u2, u3, u4, rfl, r0, r1, r2, r3, r4, hb⟩
        obtain ⟨s0, q0⟩ := r0.sl
        obtain ⟨s1, q1⟩ := r1.sl
        obtain ⟨s2, q2⟩ := r2.sl
        obtain ⟨s3, q3⟩ := r3.sl
        obtain ⟨s4, q4⟩ := r4.sl
        have HRM := hid (RdMs.ofR r0 r1 r2 r3 r4)
        subst q0 q1 q2 q3 q4
        clear r0 r1 r2 r3 r4
        have HRW := hid (HRW.out.next hb)
        have HB2 := hid ((HB1.out).trans (hb.mono (HB1.out).size))
        clear hb
        refine ⟨_, rfl, HS.out _ HB2.out, ?_⟩
        simp only [Act.put, List.getElem_toArray, List.getElem_cons_zero, List.getElem_cons_succ, List.setIfInBounds_toArray, List.set_cons_zero, List.set_cons_succ]
        refine held_two (i := 4) (j := 5) (w2 := (wd).alloc (.cells #[.int .i64 0, .bool false, .bool false, .int .i64 0, .int .i64 0, .int .i64 0, .int .i64 0, .int .i64 0, .string ⟨#[]⟩, .string ⟨#[]⟩, .string ⟨#[]⟩, .slice none 0 0, .slice none 0 0, .slice none 0 0, .int .i64 0, .bool false, .int .i64 0, .string ⟨#[]⟩, .int .i64 0, .string ⟨#[]⟩, .int .i64 0, .slice none 0 0, .slice none 0 0] 43)) (v := .pointer (some ⟨(wd).heap.size, 0, none⟩)) (by kernel_rfl) rfl rfl rfl rfl (by kernel_rfl) (specTake_any x m _ HRW.out HRM.out HKX.out.ln HKM.out.ln HKX.out.sm HKM.out.sm) (by kernel_rfl) (HS.out _ ((show Below w2.heap.size w2 wd from HB2.out).alloc (HB2.out).size (.cells #[.int .i64 0, .bool false, .bool false, .int .i64 0, .int .i64 0, .int .i64 0, .int .i64 0, .int .i64 0, .string ⟨#[]⟩, .string ⟨#[]⟩, .string ⟨#[]⟩, .slice none 0 0, .slice none 0 0, .slice none 0 0, .int .i64 0, .bool false, .int .i64 0, .string ⟨#[]⟩, .int .i64 0, .string ⟨#[]⟩, .int .i64 0, .slice none 0 0, .slice none 0 0] 43))) ?_ ?_
        · rintro e we ⟨R, hT, u0, u1, u2, u3, u4, rfl, ho, hb⟩
          obtain ⟨b0, d0, rfl⟩ := own_formK ho.o0
          obtain ⟨b1, d1, rfl⟩ := own_formK ho.o1
          obtain ⟨b2, d2, rfl⟩ := own_formK ho.o2
          obtain ⟨b3, d3, rfl⟩ := own_formK ho.o3
          obtain ⟨b4, d4, rfl⟩ := own_formK ho.o4
          have HT := hid hT
          have HO := hid (ho.mono (B' := w2.heap.size) (HB2.out).size)
          have HB3 := hid ((HB2.out).trans (hb.mono (HB2.out).size))
          clear hT ho
          clear hb
          refine ⟨_, rfl, HS.out _ HB3.out, ?_⟩
          simp only [Act.put, List.getElem_toArray, List.getElem_cons_zero, List.getElem_cons_succ, List.setIfInBounds_toArray, List.set_cons_zero, List.set_cons_succ]
          refine held_value (j := 5) (w2 := (we).alloc (.cells #[.int .i64 0, .bool false, .bool false, .int .i64 0, .int .i64 0, .int .i64 0, .int .i64 0, .int .i64 0, .string ⟨#[]⟩, .string ⟨#[]⟩, .string ⟨#[]⟩, .slice none 0 0, .slice none 0 0, .slice none 0 0, .int .i64 0, .bool false, .int .i64 0, .string ⟨#[]⟩, .int .i64 0, .string ⟨#[]⟩, .int .i64 0, .slice none 0 0, .slice none 0 0] 43)) (v := .pointer (some ⟨(we).heap.size, 0, none⟩)) (by kernel_rfl) rfl rfl (by kernel_rfl) (HS.out _ ((show Below w2.heap.size w2 we from HB3.out).alloc (HB3.out).size (.cells #[.int .i64 0, .bool false, .bool false, .int .i64 0, .int .i64 0, .int .i64 0, .int .i64 0, .int .i64 0, .string ⟨#[]⟩, .string ⟨#[]⟩, .string ⟨#[]⟩, .slice none 0 0, .slice none 0 0, .slice none 0 0, .int .i64 0, .bool false, .int .i64 0, .string ⟨#[]⟩, .int .i64 0, .string ⟨#[]⟩, .int .i64 0, .slice none 0 0, .slice none 0 0] 43))) ?_
          simp only [Act.put, List.getElem_toArray, List.getElem_cons_zero, List.getElem_cons_succ, List.setIfInBounds_toArray, List.set_cons_zero, List.set_cons_succ]
          have HWA := hid ((Below.refl (we).heap.size (we)).alloc (Nat.le_refl _) (.cells #[.int .i64 0, .bool false, .bool false, .int .i64 0, .int .i64 0, .int .i64 0, .int .i64 0, .int .i64 0, .string ⟨#[]⟩, .string ⟨#[]⟩, .string ⟨#[]⟩, .slice none 0 0, .slice none 0 0, .slice none 0 0, .int .i64 0, .bool false, .int .i64 0, .string ⟨#[]⟩, .int .i64 0, .string ⟨#[]⟩, .int .i64 0, .slice none 0 0, .slice none 0 0] 43))
          have HB4 := hid ((show Below w2.heap.size w2 we from HB3.out).alloc (HB3.out).size (.cells #[.int .i64 0, .bool false, .bool false, .int .i64 0, .int .i64 0, .int .i64 0, .int .i64 0, .int .i64 0, .string ⟨#[]⟩, .string ⟨#[]⟩, .string ⟨#[]⟩, .slice none 0 0, .slice none 0 0, .slice none 0 0, .int .i64 0, .bool false, .int .i64 0, .string ⟨#[]⟩, .int .i64 0, .string ⟨#[]⟩, .int .i64 0, .slice none 0 0, .slice none 0 0] 43))
          have HGA := hid (heap_alloc_new we (.cells #[.int .i64 0, .bool false, .bool false, .int .i64 0, .int .i64 0, .int .i64 0, .int .i64 0, .int .i64 0, .string ⟨#[]⟩, .string ⟨#[]⟩, .string ⟨#[]⟩, .slice none 0 0, .slice none 0 0, .slice none 0 0, .int .i64 0, .bool false, .int .i64 0, .string ⟨#[]⟩, .int .i64 0, .string ⟨#[]⟩, .int .i64 0, .slice none 0 0, .slice none 0 0] 43))
          obtain ⟨g, hg⟩ : ∃ g, (we).heap.size = g := ⟨_, rfl⟩
          have HGG : Hid (w2.heap.size ≤ g) := hid (by rw [← hg]; exact (HB3.out).size)
          rw [hg] at HGA ⊢
          obtain ⟨wa, hwa⟩ : ∃ V, (we).alloc (.cells #[.int .i64 0, .bool false, .bool false, .int .i64 0, .int .i64 0, .int .i64 0, .int .i64 0, .int .i64 0, .string ⟨#[]⟩, .string ⟨#[]⟩, .string ⟨#[]⟩, .slice none 0 0, .slice none 0 0, .slice none 0 0, .int .i64 0, .bool false, .int .i64 0, .string ⟨#[]⟩, .int .i64 0, .string ⟨#[]⟩, .int .i64 0, .slice none 0 0, .slice none 0 0] 43) = V := ⟨_, rfl⟩
          rw [hwa] at HGA HB4 HWA ⊢
          clear hg hwa
          have HO2 := hid (OwnMs.setRowT (HO.out.next HWA.out) HGA.out #[.int .i64 R.number, .bool R.up, .bool R.has, .int .i64 R.offer.kind, .int .i64 R.offer.to, .int .i64 R.offer.sender, .int .i64 R.offer.epoch, .int .i64 R.offer.edit, .string R.offer.target.name, .string R.offer.target.tool, .string R.offer.target.arg, .slice b0 R.offer.target.ins.length d0, .slice b1 R.offer.target.outs.length d1, .slice b2 R.offer.seen.length d2, .int .i64 R.offer.count, .bool R.offer.turn.over, .int .i64 R.offer.turn.code, .string R.offer.turn.text, .int .i64 R.offer.turn.kind, .string R.offer.turn.name, .int .i64 R.offer.turn.steps, .slice b3 R.offer.turn.files.length d3, .slice b4 R.offer.turn.said.length d4])
          have HSR := hid (setRow_heap wa g _ #[.int .i64 R.number, .bool R.up, .bool R.has, .int .i64 R.offer.kind, .int .i64 R.offer.to, .int .i64 R.offer.sender, .int .i64 R.offer.epoch, .int .i64 R.offer.edit, .string R.offer.target.name, .string R.offer.target.tool, .string R.offer.target.arg, .slice b0 R.offer.target.ins.length d0, .slice b1 R.offer.target.outs.length d1, .slice b2 R.offer.seen.length d2, .int .i64 R.offer.count, .bool R.offer.turn.over, .int .i64 R.offer.turn.code, .string R.offer.turn.text, .int .i64 R.offer.turn.kind, .string R.offer.turn.name, .int .i64 R.offer.turn.steps, .slice b3 R.offer.turn.files.length d3, .slice b4 R.offer.turn.said.length d4] _ _ HGA.out)
          have HBL := hid (below_setRow (show Below w2.heap.size w2 wa from HB4.out) HGG.out #[.int .i64 R.number, .bool R.up, .bool R.has, .int .i64 R.offer.kind, .int .i64 R.offer.to, .int .i64 R.offer.sender, .int .i64 R.offer.epoch, .int .i64 R.offer.edit, .string R.offer.target.name, .string R.offer.target.tool, .string R.offer.target.arg, .slice b0 R.offer.target.ins.length d0, .slice b1 R.offer.target.outs.length d1, .slice b2 R.offer.seen.length d2, .int .i64 R.offer.count, .bool R.offer.turn.over, .int .i64 R.offer.turn.code, .string R.offer.turn.text, .int .i64 R.offer.turn.kind, .string R.offer.turn.name, .int .i64 R.offer.turn.steps, .slice b3 R.offer.turn.files.length d3, .slice b4 R.offer.turn.said.length d4])
          have HS9 := hid (HS.out _ HBL.out)
          refine held_store_row (i := 6) (by kernel_rfl) rfl rfl 43 _ _ rfl g #[.int .i64 R.number, .bool R.up, .bool R.has, .int .i64 R.offer.kind, .int .i64 R.offer.to, .int .i64 R.offer.sender, .int .i64 R.offer.epoch, .int .i64 R.offer.edit, .string R.offer.target.name, .string R.offer.target.tool, .string R.offer.target.arg, .slice b0 R.offer.target.ins.length d0, .slice b1 R.offer.target.outs.length d1, .slice b2 R.offer.seen.length d2, .int .i64 R.offer.count, .bool R.offer.turn.over, .int .i64 R.offer.turn.code, .string R.offer.turn.text, .int .i64 R.offer.turn.kind, .string R.offer.turn.name, .int .i64 R.offer.turn.steps, .slice b3 R.offer.turn.files.length d3, .slice b4 R.offer.turn.said.length d4] rfl rfl 43 _ (HGA.out) (by kernel_rfl) rfl (by simp [Value.oneCell']) HS9.out ?_
          simp only [Act.put, List.getElem_toArray, List.getElem_cons_zero, List.getElem_cons_succ]
          refine wpAnyH_done (by kernel_rfl) ?_ _
          go_wp2_with fail
          go_meet
          exact ⟨g, R, rfl, HGG.out, HT.out, ⟨b0, d0, b1, d1, b2, d2, b3, d3, b4, d4, HSR.out, HO2.out⟩, HBL.out⟩
        · simp only [Act.put, List.getElem_toArray, List.getElem_cons_zero, List.getElem_cons_succ, List.setIfInBounds_toArray, List.set_cons_zero, List.set_cons_succ]
          have HWA := hid ((Below.refl (wd).heap.size (wd)).alloc (Nat.le_refl _) (.cells #[.int .i64 0, .bool false, .bool false, .int .i64 0, .int .i64 0, .int .i64 0, .int .i64 0, .int .i64 0, .string ⟨#[]⟩, .string ⟨#[]⟩, .string ⟨#[]⟩, .slice none 0 0, .slice none 0 0, .slice none 0 0, .int .i64 0, .bool false, .int .i64 0, .string ⟨#[]⟩, .int .i64 0, .string ⟨#[]⟩, .int .i64 0, .slice none 0 0, .slice none 0 0] 43))
          have HB3 := hid ((show Below w2.heap.size w2 wd from HB2.out).alloc (HB2.out).size (.cells #[.int .i64 0, .bool false, .bool false, .int .i64 0, .int .i64 0, .int .i64 0, .int .i64 0, .int .i64 0, .string ⟨#[]⟩, .string ⟨#[]⟩, .string ⟨#[]⟩, .slice none 0 0, .slice none 0 0, .slice none 0 0, .int .i64 0, .bool false, .int .i64 0, .string ⟨#[]⟩, .int .i64 0, .string ⟨#[]⟩, .int .i64 0, .slice none 0 0, .slice none 0 0] 43))
          have HGA := hid (heap_alloc_new wd (.cells #[.int .i64 0, .bool false, .bool false, .int .i64 0, .int .i64 0, .int .i64 0, .int .i64 0, .int .i64 0, .string ⟨#[]⟩, .string ⟨#[]⟩, .string ⟨#[]⟩, .slice none 0 0, .slice none 0 0, .slice none 0 0, .int .i64 0, .bool false, .int .i64 0, .string ⟨#[]⟩, .int .i64 0, .string ⟨#[]⟩, .int .i64 0, .slice none 0 0, .slice none 0 0] 43))
          obtain ⟨g, hg⟩ : ∃ g, (wd).heap.size = g := ⟨_, rfl⟩
          have HGG : Hid (w2.heap.size ≤ g) := hid (by rw [← hg]; exact (HB2.out).size)
          rw [hg] at HGA ⊢
          obtain ⟨wa, hwa⟩ : ∃ V, (wd).alloc (.cells #[.int .i64 0, .bool false, .bool false, .int .i64 0, .int .i64 0, .int .i64 0, .int .i64 0, .int .i64 0, .string ⟨#[]⟩, .string ⟨#[]⟩, .string ⟨#[]⟩, .slice none 0 0, .slice none 0 0, .slice none 0 0, .int .i64 0, .bool false, .int .i64 0, .string ⟨#[]⟩, .int .i64 0, .string ⟨#[]⟩, .int .i64 0, .slice none 0 0, .slice none 0 0] 43) = V := ⟨_, rfl⟩
          rw [hwa] at HGA HB3 HWA ⊢
          clear hg hwa
          have HRW := hid (HRW.out.next (show Below (wd).heap.size wd wa from HWA.out))
          have HRM := hid (HRM.out.next (show Below (wd).heap.size wd wa from HWA.out))
          refine held_call (i := 4) (by kernel_rfl) rfl rfl (by kernel_rfl) (specTake_any x m _ HRW.out HRM.out HKX.out.ln HKM.out.ln HKX.out.sm HKM.out.sm) ?_
          rintro e we ⟨R, hT, u0, u1, u2, u3, u4, rfl, ho, hb⟩
          obtain ⟨b0, d0, rfl⟩ := own_formK ho.o0
          obtain ⟨b1, d1, rfl⟩ := own_formK ho.o1
          obtain ⟨b2, d2, rfl⟩ := own_formK ho.o2
          obtain ⟨b3, d3, rfl⟩ := own_formK ho.o3
          obtain ⟨b4, d4, rfl⟩ := own_formK ho.o4
          have HT := hid hT
          have HO := hid (ho.mono (B' := w2.heap.size) (HB3.out).size)
          have HB4 := hid ((HB3.out).trans (hb.mono (HB3.out).size))
          clear hT ho
          have HGA := hid (hp_next HGA.out hb)
          clear hb
          refine ⟨_, rfl, HS.out _ HB4.out, ?_⟩
          simp only [Act.put, List.getElem_toArray, List.getElem_cons_zero, List.getElem_cons_succ, List.setIfInBounds_toArray, List.set_cons_zero, List.set_cons_succ]
          have HO2 := hid (OwnMs.setRowT HO.out HGA.out #[.int .i64 R.number, .bool R.up, .bool R.has, .int .i64 R.offer.kind, .int .i64 R.offer.to, .int .i64 R.offer.sender, .int .i64 R.offer.epoch, .int .i64 R.offer.edit, .string R.offer.target.name, .string R.offer.target.tool, .string R.offer.target.arg, .slice b0 R.offer.target.ins.length d0, .slice b1 R.offer.target.outs.length d1, .slice b2 R.offer.seen.length d2, .int .i64 R.offer.count, .bool R.offer.turn.over, .int .i64 R.offer.turn.code, .string R.offer.turn.text, .int .i64 R.offer.turn.kind, .string R.offer.turn.name, .int .i64 R.offer.turn.steps, .slice b3 R.offer.turn.files.length d3, .slice b4 R.offer.turn.said.length d4])
          have HSR := hid (setRow_heap we g _ #[.int .i64 R.number, .bool R.up, .bool R.has, .int .i64 R.offer.kind, .int .i64 R.offer.to, .int .i64 R.offer.sender, .int .i64 R.offer.epoch, .int .i64 R.offer.edit, .string R.offer.target.name, .string R.offer.target.tool, .string R.offer.target.arg, .slice b0 R.offer.target.ins.length d0, .slice b1 R.offer.target.outs.length d1, .slice b2 R.offer.seen.length d2, .int .i64 R.offer.count, .bool R.offer.turn.over, .int .i64 R.offer.turn.code, .string R.offer.turn.text, .int .i64 R.offer.turn.kind, .string R.offer.turn.name, .int .i64 R.offer.turn.steps, .slice b3 R.offer.turn.files.length d3, .slice b4 R.offer.turn.said.length d4] _ _ HGA.out)
          have HBL := hid (below_setRow (show Below w2.heap.size w2 we from HB4.out) HGG.out #[.int .i64 R.number, .bool R.up, .bool R.has, .int .i64 R.offer.kind, .int .i64 R.offer.to, .int .i64 R.offer.sender, .int .i64 R.offer.epoch, .int .i64 R.offer.edit, .string R.offer.target.name, .string R.offer.target.tool, .string R.offer.target.arg, .slice b0 R.offer.target.ins.length d0, .slice b1 R.offer.target.outs.length d1, .slice b2 R.offer.seen.length d2, .int .i64 R.offer.count, .bool R.offer.turn.over, .int .i64 R.offer.turn.code, .string R.offer.turn.text, .int .i64 R.offer.turn.kind, .string R.offer.turn.name, .int .i64 R.offer.turn.steps, .slice b3 R.offer.turn.files.length d3, .slice b4 R.offer.turn.said.length d4])
          have HS9 := hid (HS.out _ HBL.out)
          refine held_store_row (i := 6) (by kernel_rfl) rfl rfl 43 _ _ rfl g #[.int .i64 R.number, .bool R.up, .bool R.has, .int .i64 R.offer.kind, .int .i64 R.offer.to, .int .i64 R.offer.sender, .int .i64 R.offer.epoch, .int .i64 R.offer.edit, .string R.offer.target.name, .string R.offer.target.tool, .string R.offer.target.arg, .slice b0 R.offer.target.ins.length d0, .slice b1 R.offer.target.outs.length d1, .slice b2 R.offer.seen.length d2, .int .i64 R.offer.count, .bool R.offer.turn.over, .int .i64 R.offer.turn.code, .string R.offer.turn.text, .int .i64 R.offer.turn.kind, .string R.offer.turn.name, .int .i64 R.offer.turn.steps, .slice b3 R.offer.turn.files.length d3, .slice b4 R.offer.turn.said.length d4] rfl rfl 43 _ (HGA.out) (by kernel_rfl) rfl (by simp [Value.oneCell']) HS9.out ?_
          simp only [Act.put, List.getElem_toArray, List.getElem_cons_zero, List.getElem_cons_succ]
          refine wpAnyH_done (by kernel_rfl) ?_ _
          go_wp2_with fail
          go_meet
          exact ⟨g, R, rfl, HGG.out, HT.out, ⟨b0, d0, b1, d1, b2, d2, b3, d3, b4, d4, HSR.out, HO2.out⟩, HBL.out⟩
      · simp only [Act.put, List.getElem_toArray, List.getElem_cons_zero, List.getElem_cons_succ, List.setIfInBounds_toArray, List.set_cons_zero, List.set_cons_succ]
        have HWA := hid ((Below.refl (wc).heap.size (wc)).alloc (Nat.le_refl _) (.cells #[.int .i64 0, .bool false, .bool false, .int .i64 0, .int .i64 0, .int .i64 0, .int .i64 0, .int .i64 0, .string ⟨#[]⟩, .string ⟨#[]⟩, .string ⟨#[]⟩, .slice none 0 0, .slice none 0 0, .slice none 0 0, .int .i64 0, .bool false, .int .i64 0, .string ⟨#[]⟩, .int .i64 0, .string ⟨#[]⟩, .int .i64 0, .slice none 0 0, .slice none 0 0] 43))
        have HB2 := hid ((show Below w2.heap.size w2 wc from HB1.out).alloc (HB1.out).size (.cells #[.int .i64 0, .bool false, .bool false, .int .i64 0, .int .i64 0, .int .i64 0, .int .i64 0, .int .i64 0, .string ⟨#[]⟩, .string ⟨#[]⟩, .string ⟨#[]⟩, .slice none 0 0, .slice none 0 0, .slice none 0 0, .int .i64 0, .bool false, .int .i64 0, .string ⟨#[]⟩, .int .i64 0, .string ⟨#[]⟩, .int .i64 0, .slice none 0 0, .slice none 0 0] 43))
        have HGA := hid (heap_alloc_new wc (.cells #[.int .i64 0, .bool false, .bool false, .int .i64 0, .int .i64 0, .int .i64 0, .int .i64 0, .int .i64 0, .string ⟨#[]⟩, .string ⟨#[]⟩, .string ⟨#[]⟩, .slice none 0 0, .slice none 0 0, .slice none 0 0, .int .i64 0, .bool false, .int .i64 0, .string ⟨#[]⟩, .int .i64 0, .string ⟨#[]⟩, .int .i64 0, .slice none 0 0, .slice none 0 0] 43))
        obtain ⟨g, hg⟩ : ∃ g, (wc).heap.size = g := ⟨_, rfl⟩
        have HGG : Hid (w2.heap.size ≤ g) := hid (by rw [← hg]; exact (HB1.out).size)
        rw [hg] at HGA ⊢
        obtain ⟨wa, hwa⟩ : ∃ V, (wc).alloc (.cells #[.int .i64 0, .bool false, .bool false, .int .i64 0, .int .i64 0, .int .i64 0, .int .i64 0, .int .i64 0, .string ⟨#[]⟩, .string ⟨#[]⟩, .string ⟨#[]⟩, .slice none 0 0, .slice none 0 0, .slice none 0 0, .int .i64 0, .bool false, .int .i64 0, .string ⟨#[]⟩, .int .i64 0, .string ⟨#[]⟩, .int .i64 0, .slice none 0 0, .slice none 0 0] 43) = V := ⟨_, rfl⟩
        rw [hwa] at HGA HB2 HWA ⊢
        clear hg hwa
        have HRW := hid (HRW.out.next (show Below (wc).heap.size wc wa from HWA.out))
        refine held_call (i := 3) (by kernel_rfl) rfl rfl (by kernel_rfl) (toMs_any m _ HKM.out.lo (N0.out.next (HX2.out.next HB2.out).lo) (N1.out.next (HX2.out.next HB2.out).lo) (N2.out.next (HX2.out.next HB2.out).lo) (N3.out.next (HX2.out.next HB2.out).lo) (N4.out.next (HX2.out.next HB2.out).lo)) ?_
        rintro e wd ⟨u0, u1, u2, u3, u4, rfl, r0, r1, r2, r3, r4, hb⟩
        obtain ⟨s0, q0⟩ := r0.sl
        obtain ⟨s1, q1⟩ := r1.sl
        obtain ⟨s2, q2⟩ := r2.sl
        obtain ⟨s3, q3⟩ := r3.sl
        obtain ⟨s4, q4⟩ := r4.sl
        have HRM := hid (RdMs.ofR r0 r1 r2 r3 r4)
        subst q0 q1 q2 q3 q4
        clear r0 r1 r2 r3 r4
        have HRW := hid (HRW.out.next hb)
        have HB3 := hid ((HB2.out).trans (hb.mono (HB2.out).size))
        have HGA := hid (hp_next HGA.out hb)
        clear hb
        refine ⟨_, rfl, HS.out _ HB3.out, ?_⟩
        simp only [Act.put, List.getElem_toArray, List.getElem_cons_zero, List.getElem_cons_succ, List.setIfInBounds_toArray, List.set_cons_zero, List.set_cons_succ]
        refine held_call (i := 4) (by kernel_rfl) rfl rfl (by kernel_rfl) (specTake_any x m _ HRW.out HRM.out HKX.out.ln HKM.out.ln HKX.out.sm HKM.out.sm) ?_
        rintro e we ⟨R, hT, u0, u1, u2, u3, u4, rfl, ho, hb⟩
        obtain ⟨b0, d0, rfl⟩ := own_formK ho.o0
        obtain ⟨b1, d1, rfl⟩ := own_formK ho.o1
        obtain ⟨b2, d2, rfl⟩ := own_formK ho.o2
        obtain ⟨b3, d3, rfl⟩ := own_formK ho.o3
        obtain ⟨b4, d4, rfl⟩ := own_formK ho.o4
        have HT := hid hT
        have HO := hid (ho.mono (B' := w2.heap.size) (HB3.out).size)
        have HB4 := hid ((HB3.out).trans (hb.mono (HB3.out).size))
        clear hT ho
        have HGA := hid (hp_next HGA.out hb)
        clear hb
        refine ⟨_, rfl, HS.out _ HB4.out, ?_⟩
        simp only [Act.put, List.getElem_toArray, List.getElem_cons_zero, List.getElem_cons_succ, List.setIfInBounds_toArray, List.set_cons_zero, List.set_cons_succ]
        have HO2 := hid (OwnMs.setRowT HO.out HGA.out #[.int .i64 R.number, .bool R.up, .bool R.has, .int .i64 R.offer.kind, .int .i64 R.offer.to, .int .i64 R.offer.sender, .int .i64 R.offer.epoch, .int .i64 R.offer.edit, .string R.offer.target.name, .string R.offer.target.tool, .string R.offer.target.arg, .slice b0 R.offer.target.ins.length d0, .slice b1 R.offer.target.outs.length d1, .slice b2 R.offer.seen.length d2, .int .i64 R.offer.count, .bool R.offer.turn.over, .int .i64 R.offer.turn.code, .string R.offer.turn.text, .int .i64 R.offer.turn.kind, .string R.offer.turn.name, .int .i64 R.offer.turn.steps, .slice b3 R.offer.turn.files.length d3, .slice b4 R.offer.turn.said.length d4])
        have HSR := hid (setRow_heap we g _ #[.int .i64 R.number, .bool R.up, .bool R.has, .int .i64 R.offer.kind, .int .i64 R.offer.to, .int .i64 R.offer.sender, .int .i64 R.offer.epoch, .int .i64 R.offer.edit, .string R.offer.target.name, .string R.offer.target.tool, .string R.offer.target.arg, .slice b0 R.offer.target.ins.length d0, .slice b1 R.offer.target.outs.length d1, .slice b2 R.offer.seen.length d2, .int .i64 R.offer.count, .bool R.offer.turn.over, .int .i64 R.offer.turn.code, .string R.offer.turn.text, .int .i64 R.offer.turn.kind, .string R.offer.turn.name, .int .i64 R.offer.turn.steps, .slice b3 R.offer.turn.files.length d3, .slice b4 R.offer.turn.said.length d4] _ _ HGA.out)
        have HBL := hid (below_setRow (show Below w2.heap.size w2 we from HB4.out) HGG.out #[.int .i64 R.number, .bool R.up, .bool R.has, .int .i64 R.offer.kind, .int .i64 R.offer.to, .int .i64 R.offer.sender, .int .i64 R.offer.epoch, .int .i64 R.offer.edit, .string R.offer.target.name, .string R.offer.target.tool, .string R.offer.target.arg, .slice b0 R.offer.target.ins.length d0, .slice b1 R.offer.target.outs.length d1, .slice b2 R.offer.seen.length d2, .int .i64 R.offer.count, .bool R.offer.turn.over, .int .i64 R.offer.turn.code, .string R.offer.turn.text, .int .i64 R.offer.turn.kind, .string R.offer.turn.name, .int .i64 R.offer.turn.steps, .slice b3 R.offer.turn.files.length d3, .slice b4 R.offer.turn.said.length d4])
        have HS9 := hid (HS.out _ HBL.out)
        refine held_store_row (i := 6) (by kernel_rfl) rfl rfl 43 _ _ rfl g #[.int .i64 R.number, .bool R.up, .bool R.has, .int .i64 R.offer.kind, .int .i64 R.offer.to, .int .i64 R.offer.sender, .int .i64 R.offer.epoch, .int .i64 R.offer.edit, .string R.offer.target.name, .string R.offer.target.tool, .string R.offer.target.arg, .slice b0 R.offer.target.ins.length d0, .slice b1 R.offer.target.outs.length d1, .slice b2 R.offer.seen.length d2, .int .i64 R.offer.count, .bool R.offer.turn.over, .int .i64 R.offer.turn.code, .string R.offer.turn.text, .int .i64 R.offer.turn.kind, .string R.offer.turn.name, .int .i64 R.offer.turn.steps, .slice b3 R.offer.turn.files.length d3, .slice b4 R.offer.turn.said.length d4] rfl rfl 43 _ (HGA.out) (by kernel_rfl) rfl (by simp [Value.oneCell']) HS9.out ?_
        simp only [Act.put, List.getElem_toArray, List.getElem_cons_zero, List.getElem_cons_succ]
        refine wpAnyH_done (by kernel_rfl) ?_ _
        go_wp2_with fail
        go_meet
        exact ⟨g, R, rfl, HGG.out, HT.out, ⟨b0, d0, b1, d1, b2, d2, b3, d3, b4, d4, HSR.out, HO2.out⟩, HBL.out⟩
    · simp only [Act.put, List.getElem_toArray, List.getElem_cons_zero, List.getElem_cons_succ, List.setIfInBounds_toArray, List.set_cons_zero, List.set_cons_succ]
      have HWA := hid ((Below.refl (w2.drew).heap.size (w2.drew)).alloc (Nat.le_refl _) (.cells #[.int .i64 0, .bool false, .bool false, .int .i64 0, .int .i64 0, .int .i64 0, .int .i64 0, .int .i64 0, .string ⟨#[]⟩, .string ⟨#[]⟩, .string ⟨#[]⟩, .slice none 0 0, .slice none 0 0, .slice none 0 0, .int .i64 0, .bool false, .int .i64 0, .string ⟨#[]⟩, .int .i64 0, .string ⟨#[]⟩, .int .i64 0, .slice none 0 0, .slice none 0 0] 43))
      have HB1 := hid ((show Below w2.heap.size w2 w2.drew from HB.out).alloc (HB.out).size (.cells #[.int .i64 0, .bool false, .bool false, .int .i64 0, .int .i64 0, .int .i64 0, .int .i64 0, .int .i64 0, .string ⟨#[]⟩, .string ⟨#[]⟩, .string ⟨#[]⟩, .slice none 0 0, .slice none 0 0, .slice none 0 0, .int .i64 0, .bool false, .int .i64 0, .string ⟨#[]⟩, .int .i64 0, .string ⟨#[]⟩, .int .i64 0, .slice none 0 0, .slice none 0 0] 43))
      have HGA := hid (heap_alloc_new w2.drew (.cells #[.int .i64 0, .bool false, .bool false, .int .i64 0, .int .i64 0, .int .i64 0, .int .i64 0, .int .i64 0, .string ⟨#[]⟩, .string ⟨#[]⟩, .string ⟨#[]⟩, .slice none 0 0, .slice none 0 0, .slice none 0 0, .int .i64 0, .bool false, .int .i64 0, .string ⟨#[]⟩, .int .i64 0, .string ⟨#[]⟩, .int .i64 0, .slice none 0 0, .slice none 0 0] 43))
      obtain ⟨g, hg⟩ : ∃ g, (w2.drew).heap.size = g := ⟨_, rfl⟩
      have HGG : Hid (w2.heap.size ≤ g) := hid (by rw [← hg]; exact (HB.out).size)
      rw [hg] at HGA ⊢
      obtain ⟨wa, hwa⟩ : ∃ V, (w2.drew).alloc (.cells #[.int .i64 0, .bool false, .bool false, .int .i64 0, .int .i64 0, .int .i64 0, .int .i64 0, .int .i64 0, .string ⟨#[]⟩, .string ⟨#[]⟩, .string ⟨#[]⟩, .slice none 0 0, .slice none 0 0, .slice none 0 0, .int .i64 0, .bool false, .int .i64 0, .string ⟨#[]⟩, .int .i64 0, .string ⟨#[]⟩, .int .i64 0, .slice none 0 0, .slice none 0 0] 43) = V := ⟨_, rfl⟩
      rw [hwa] at HGA HB1 HWA ⊢
      clear hg hwa
      refine held_call (i := 1) (by kernel_rfl) rfl rfl (by kernel_rfl) (toWk_any x _ HKX.out.lo (K0.out.next (HX2.out.next HB1.out).lo) (K1.out.next (HX2.out.next HB1.out).lo) (K2.out.next (HX2.out.next HB1.out).lo) (K3.out.next (HX2.out.next HB1.out).lo) (K4.out.next (HX2.out.next HB1.out).lo)) ?_
      rintro e wc ⟨u0, u1, u2, u3, u4, rfl, r0, r1, r2, r3, r4, hb⟩
      obtain ⟨p0, q0⟩ := r0.sl
      obtain ⟨p1, q1⟩ := r1.sl
      obtain ⟨p2, q2⟩ := r2.sl
      obtain ⟨p3, q3⟩ := r3.sl
      obtain ⟨p4, q4⟩ := r4.sl
      have HRW0 := hid (RdMs.ofR r0 r1 r2 r3 r4)
      subst q0 q1 q2 q3 q4
      have HRW := hid HRW0.out
      clear r0 r1 r2 r3 r4 HRW0
      have HB2 := hid ((HB1.out).trans (hb.mono (HB1.out).size))
      have HGA := hid (hp_next HGA.out hb)
      clear hb
      refine ⟨_, rfl, HS.out _ HB2.out, ?_⟩
      simp only [Act.put, List.getElem_toArray, List.getElem_cons_zero, List.getElem_cons_succ, List.setIfInBounds_toArray, List.set_cons_zero, List.set_cons_succ]
      refine held_call (i := 3) (by kernel_rfl) rfl rfl (by kernel_rfl) (toMs_any m _ HKM.out.lo (N0.out.next (HX2.out.next HB2.out).lo) (N1.out.next (HX2.out.next HB2.out).lo) (N2.out.next (HX2.out.next HB2.out).lo) (N3.out.next (HX2.out.next HB2.out).lo) (N4.out.next (HX2.out.next HB2.out).lo)) ?_
      rintro e wd ⟨u0, u1, u2, u3, u4, rfl, r0, r1, r2, r3, r4, hb⟩
      obtain ⟨s0, q0⟩ := r0.sl
      obtain ⟨s1, q1⟩ := r1.sl
      obtain ⟨s2, q2⟩ := r2.sl
      obtain ⟨s3, q3⟩ := r3.sl
      obtain ⟨s4, q4⟩ := r4.sl
      have HRM := hid (RdMs.ofR r0 r1 r2 r3 r4)
      subst q0 q1 q2 q3 q4
      clear r0 r1 r2 r3 r4
      have HRW := hid (HRW.out.next hb)
      have HB3 := hid ((HB2.out).trans (hb.mono (HB2.out).size))
      have HGA := hid (hp_next HGA.out hb)
      clear hb
      refine ⟨_, rfl, HS.out _ HB3.out, ?_⟩
      simp only [Act.put, List.getElem_toArray, List.getElem_cons_zero, List.getElem_cons_succ, List.setIfInBounds_toArray, List.set_cons_zero, List.set_cons_succ]
      refine held_call (i := 4) (by kernel_rfl) rfl rfl (by kernel_rfl) (specTake_any x m _ HRW.out HRM.out HKX.out.ln HKM.out.ln HKX.out.sm HKM.out.sm) ?_
      rintro e we ⟨R, hT, u0, u1, u2, u3, u4, rfl, ho, hb⟩
      obtain ⟨b0, d0, rfl⟩ := own_formK ho.o0
      obtain ⟨b1, d1, rfl⟩ := own_formK ho.o1
      obtain ⟨b2, d2, rfl⟩ := own_formK ho.o2
      obtain ⟨b3, d3, rfl⟩ := own_formK ho.o3
      obtain ⟨b4, d4, rfl⟩ := own_formK ho.o4
      have HT := hid hT
      have HO := hid (ho.mono (B' := w2.heap.size) (HB3.out).size)
      have HB4 := hid ((HB3.out).trans (hb.mono (HB3.out).size))
      clear hT ho
      have HGA := hid (hp_next HGA.out hb)
      clear hb
      refine ⟨_, rfl, HS.out _ HB4.out, ?_⟩
      simp only [Act.put, List.getElem_toArray, List.getElem_cons_zero, List.getElem_cons_succ, List.setIfInBounds_toArray, List.set_cons_zero, List.set_cons_succ]
      have HO2 := hid (OwnMs.setRowT HO.out HGA.out #[.int .i64 R.number, .bool R.up, .bool R.has, .int .i64 R.offer.kind, .int .i64 R.offer.to, .int .i64 R.offer.sender, .int .i64 R.offer.epoch, .int .i64 R.offer.edit, .string R.offer.target.name, .string R.offer.target.tool, .string R.offer.target.arg, .slice b0 R.offer.target.ins.length d0, .slice b1 R.offer.target.outs.length d1, .slice b2 R.offer.seen.length d2, .int .i64 R.offer.count, .bool R.offer.turn.over, .int .i64 R.offer.turn.code, .string R.offer.turn.text, .int .i64 R.offer.turn.kind, .string R.offer.turn.name, .int .i64 R.offer.turn.steps, .slice b3 R.offer.turn.files.length d3, .slice b4 R.offer.turn.said.length d4])
      have HSR := hid (setRow_heap we g _ #[.int .i64 R.number, .bool R.up, .bool R.has, .int .i64 R.offer.kind, .int .i64 R.offer.to, .int .i64 R.offer.sender, .int .i64 R.offer.epoch, .int .i64 R.offer.edit, .string R.offer.target.name, .string R.offer.target.tool, .string R.offer.target.arg, .slice b0 R.offer.target.ins.length d0, .slice b1 R.offer.target.outs.length d1, .slice b2 R.offer.seen.length d2, .int .i64 R.offer.count, .bool R.offer.turn.over, .int .i64 R.offer.turn.code, .string R.offer.turn.text, .int .i64 R.offer.turn.kind, .string R.offer.turn.name, .int .i64 R.offer.turn.steps, .slice b3 R.offer.turn.files.length d3, .slice b4 R.offer.turn.said.length d4] _ _ HGA.out)
      have HBL := hid (below_setRow (show Below w2.heap.size w2 we from HB4.out) HGG.out #[.int .i64 R.number, .bool R.up, .bool R.has, .int .i64 R.offer.kind, .int .i64 R.offer.to, .int .i64 R.offer.sender, .int .i64 R.offer.epoch, .int .i64 R.offer.edit, .string R.offer.target.name, .string R.offer.target.tool, .string R.offer.target.arg, .slice b0 R.offer.target.ins.length d0, .slice b1 R.offer.target.outs.length d1, .slice b2 R.offer.seen.length d2, .int .i64 R.offer.count, .bool R.offer.turn.over, .int .i64 R.offer.turn.code, .string R.offer.turn.text, .int .i64 R.offer.turn.kind, .string R.offer.turn.name, .int .i64 R.offer.turn.steps, .slice b3 R.offer.turn.files.length d3, .slice b4 R.offer.turn.said.length d4])
      have HS9 := hid (HS.out _ HBL.out)
      refine held_store_row (i := 6) (by kernel_rfl) rfl rfl 43 _ _ rfl g #[.int .i64 R.number, .bool R.up, .bool R.has, .int .i64 R.offer.kind, .int .i64 R.offer.to, .int .i64 R.offer.sender, .int .i64 R.offer.epoch, .int .i64 R.offer.edit, .string R.offer.target.name, .string R.offer.target.tool, .string R.offer.target.arg, .slice b0 R.offer.target.ins.length d0, .slice b1 R.offer.target.outs.length d1, .slice b2 R.offer.seen.length d2, .int .i64 R.offer.count, .bool R.offer.turn.over, .int .i64 R.offer.turn.code, .string R.offer.turn.text, .int .i64 R.offer.turn.kind, .string R.offer.turn.name, .int .i64 R.offer.turn.steps, .slice b3 R.offer.turn.files.length d3, .slice b4 R.offer.turn.said.length d4] rfl rfl 43 _ (HGA.out) (by kernel_rfl) rfl (by simp [Value.oneCell']) HS9.out ?_
      simp only [Act.put, List.getElem_toArray, List.getElem_cons_zero, List.getElem_cons_succ]
      refine wpAnyH_done (by kernel_rfl) ?_ _
      go_wp2_with fail
      go_meet
      exact ⟨g, R, rfl, HGG.out, HT.out, ⟨b0, d0, b1, d1, b2, d2, b3, d3, b4, d4, HSR.out, HO2.out⟩, HBL.out⟩
  case rest =>
    obtain ⟨g8, R, rfl, hg, hT, ⟨y0, z0, y1, z1, y2, z2, y3, z3, y4, z4, hgc, ho⟩, hb⟩ := hcut
    obtain ⟨w8, hw8⟩ : ∃ W', wc = W' := ⟨_, rfl⟩
    rw [hw8] at hgc ho hb ⊢
    have HT := hid hT
    have HG8 := hid hgc
    have HR8 := hid ho.rd
    have HX8 := hid (HX2.out.next hb)
    have HKR := hid (take_lk hT HKX.out HKM.out)
    have HCR : Hid (cntMs R.offer ≤ 4194304) := hid HKR.out.ct
    have B8_0 := hid (Below.refl w8.heap.size w8)
    clear hw8 hg hT hgc ho hb HX0 HX1 HX2
    go_wp2_with (first | (refine wpList_load_row rfl 32 _ rfl (w.heap.size) rfl 32 #[.int .i64 x.number, .bool x.up, .bool x.has, .int .i64 x.offer.kind, .int .i64 x.offer.to, .int .i64 x.offer.sender, .int .i64 x.offer.epoch, .int .i64 x.offer.edit, .string x.offer.target.name, .string x.offer.target.tool, .string x.offer.target.arg, .slice a0 x.offer.target.ins.length c0, .slice a1 x.offer.target.outs.length c1, .slice a2 x.offer.seen.length c2, .int .i64 x.offer.count, .bool x.offer.turn.over, .int .i64 x.offer.turn.code, .string x.offer.turn.text, .int .i64 x.offer.turn.kind, .string x.offer.turn.name, .int .i64 x.offer.turn.steps, .slice a3 x.offer.turn.files.length c3, .slice a4 x.offer.turn.said.length c4] (0, 0) _ HX8.out.e Tryz.underlying32 rfl (by kernel_rfl) ?_))
    refine (toWk_any x w8 HKX.out.lo (K0.out.next (HX8.out.next B8_0.out).lo) (K1.out.next (HX8.out.next B8_0.out).lo) (K2.out.next (HX8.out.next B8_0.out).lo) (K3.out.next (HX8.out.next B8_0.out).lo) (K4.out.next (HX8.out.next B8_0.out).lo)).mono ?_
    rintro e w9 ⟨u0, u1, u2, u3, u4, rfl, r0, r1, r2, r3, r4, hb⟩
    obtain ⟨i0, q0⟩ := r0.sl
    subst q0
    obtain ⟨i1, q1⟩ := r1.sl
    subst q1
    obtain ⟨i2, q2⟩ := r2.sl
    subst q2
    obtain ⟨i3, q3⟩ := r3.sl
    subst q3
    obtain ⟨i4, q4⟩ := r4.sl
    subst q4
    have HS0 := hid (ShMs.ofR (B := w8.heap.size) (T := w9.heap.size) HKX.out.ln r0 r1 r2 r3 r4 (Nat.le_refl _) (Nat.le_refl _))
    have HP := hid (RdMs.ofR r0 r1 r2 r3 r4)
    have HB9 := hid hb
    clear r0 r1 r2 r3 r4 hb
    have HZ := hid (B1.start w9 (.cells #[.int .i64 0, .bool false, .bool false, .int .i64 0, .int .i64 0, .int .i64 0, .int .i64 0, .int .i64 0, .string ⟨#[]⟩, .string ⟨#[]⟩, .string ⟨#[]⟩, .slice none 0 0, .slice none 0 0, .slice none 0 0, .int .i64 0, .bool false, .int .i64 0, .string ⟨#[]⟩, .int .i64 0, .string ⟨#[]⟩, .int .i64 0, .slice none 0 0, .slice none 0 0] 43))
    have HSR := hid (setRow_heap (w9.alloc (.cells #[.int .i64 0, .bool false, .bool false, .int .i64 0, .int .i64 0, .int .i64 0, .int .i64 0, .int .i64 0, .string ⟨#[]⟩, .string ⟨#[]⟩, .string ⟨#[]⟩, .slice none 0 0, .slice none 0 0, .slice none 0 0, .int .i64 0, .bool false, .int .i64 0, .string ⟨#[]⟩, .int .i64 0, .string ⟨#[]⟩, .int .i64 0, .slice none 0 0, .slice none 0 0] 43)) w9.heap.size _ #[.int .i64 x.number, .bool x.up, .bool x.has, .int .i64 x.offer.kind, .int .i64 x.offer.to, .int .i64 x.offer.sender, .int .i64 x.offer.epoch, .int .i64 x.offer.edit, .string x.offer.target.name, .string x.offer.target.tool, .string x.offer.target.arg, .slice (some ⟨i0, 0, none⟩) x.offer.target.ins.length x.offer.target.ins.length, .slice (some ⟨i1, 0, none⟩) x.offer.target.outs.length x.offer.target.outs.length, .slice (some ⟨i2, 0, none⟩) x.offer.seen.length x.offer.seen.length, .int .i64 x.offer.count, .bool x.offer.turn.over, .int .i64 x.offer.turn.code, .string x.offer.turn.text, .int .i64 x.offer.turn.kind, .string x.offer.turn.name, .int .i64 x.offer.turn.steps, .slice (some ⟨i3, 0, none⟩) x.offer.turn.files.length x.offer.turn.files.length, .slice (some ⟨i4, 0, none⟩) x.offer.turn.said.length x.offer.turn.said.length] _ _ HZ.out.e)
    have HBL : Hid (Below w9.heap.size w9 ((w9.alloc (.cells #[.int .i64 0, .bool false, .bool false, .int .i64 0, .int .i64 0, .int .i64 0, .int .i64 0, .int .i64 0, .string ⟨#[]⟩, .string ⟨#[]⟩, .string ⟨#[]⟩, .slice none 0 0, .slice none 0 0, .slice none 0 0, .int .i64 0, .bool false, .int .i64 0, .string ⟨#[]⟩, .int .i64 0, .string ⟨#[]⟩, .int .i64 0, .slice none 0 0, .slice none 0 0] 43)).setRow w9.heap.size #[.int .i64 x.number, .bool x.up, .bool x.has, .int .i64 x.offer.kind, .int .i64 x.offer.to, .int .i64 x.offer.sender, .int .i64 x.offer.epoch, .int .i64 x.offer.edit, .string x.offer.target.name, .string x.offer.target.tool, .string x.offer.target.arg, .slice (some ⟨i0, 0, none⟩) x.offer.target.ins.length x.offer.target.ins.length, .slice (some ⟨i1, 0, none⟩) x.offer.target.outs.length x.offer.target.outs.length, .slice (some ⟨i2, 0, none⟩) x.offer.seen.length x.offer.seen.length, .int .i64 x.offer.count, .bool x.offer.turn.over, .int .i64 x.offer.turn.code, .string x.offer.turn.text, .int .i64 x.offer.turn.kind, .string x.offer.turn.name, .int .i64 x.offer.turn.steps, .slice (some ⟨i3, 0, none⟩) x.offer.turn.files.length x.offer.turn.files.length, .slice (some ⟨i4, 0, none⟩) x.offer.turn.said.length x.offer.turn.said.length])) := hid (below_setRow HZ.out.lo (Nat.le_refl _) _)
    go_upto_region 10 with (first | (refine wpList_store_row rfl 43 _ _ rfl (w9.heap.size) #[.int .i64 x.number, .bool x.up, .bool x.has, .int .i64 x.offer.kind, .int .i64 x.offer.to, .int .i64 x.offer.sender, .int .i64 x.offer.epoch, .int .i64 x.offer.edit, .string x.offer.target.name, .string x.offer.target.tool, .string x.offer.target.arg, .slice (some ⟨i0, 0, none⟩) x.offer.target.ins.length x.offer.target.ins.length, .slice (some ⟨i1, 0, none⟩) x.offer.target.outs.length x.offer.target.outs.length, .slice (some ⟨i2, 0, none⟩) x.offer.seen.length x.offer.seen.length, .int .i64 x.offer.count, .bool x.offer.turn.over, .int .i64 x.offer.turn.code, .string x.offer.turn.text, .int .i64 x.offer.turn.kind, .string x.offer.turn.name, .int .i64 x.offer.turn.steps, .slice (some ⟨i3, 0, none⟩) x.offer.turn.files.length x.offer.turn.files.length, .slice (some ⟨i4, 0, none⟩) x.offer.turn.said.length x.offer.turn.said.length] rfl rfl 43 _ HZ.out.e (by kernel_rfl) rfl (by simp [Value.oneCell']) ?_))
    obtain ⟨wA, hW⟩ : ∃ W, (w9.alloc (.cells #[.int .i64 0, .bool false, .bool false, .int .i64 0, .int .i64 0, .int .i64 0, .int .i64 0, .int .i64 0, .string ⟨#[]⟩, .string ⟨#[]⟩, .string ⟨#[]⟩, .slice none 0 0, .slice none 0 0, .slice none 0 0, .int .i64 0, .bool false, .int .i64 0, .string ⟨#[]⟩, .int .i64 0, .string ⟨#[]⟩, .int .i64 0, .slice none 0 0, .slice none 0 0] 43)).setRow w9.heap.size #[.int .i64 x.number, .bool x.up, .bool x.has, .int .i64 x.offer.kind, .int .i64 x.offer.to, .int .i64 x.offer.sender, .int .i64 x.offer.epoch, .int .i64 x.offer.edit, .string x.offer.target.name, .string x.offer.target.tool, .string x.offer.target.arg, .slice (some ⟨i0, 0, none⟩) x.offer.target.ins.length x.offer.target.ins.length, .slice (some ⟨i1, 0, none⟩) x.offer.target.outs.length x.offer.target.outs.length, .slice (some ⟨i2, 0, none⟩) x.offer.seen.length x.offer.seen.length, .int .i64 x.offer.count, .bool x.offer.turn.over, .int .i64 x.offer.turn.code, .string x.offer.turn.text, .int .i64 x.offer.turn.kind, .string x.offer.turn.name, .int .i64 x.offer.turn.steps, .slice (some ⟨i3, 0, none⟩) x.offer.turn.files.length x.offer.turn.files.length, .slice (some ⟨i4, 0, none⟩) x.offer.turn.said.length x.offer.turn.said.length] = W := ⟨_, rfl⟩
    rw [hW] at HSR HBL ⊢
    clear hW HZ
    have HA := hid HSR.out
    have HPA := hid (HP.out.next HBL.out)
    have HSA := hid (HS0.out.mk' (.of_below HBL.out))
    have B8_A := hid (HB9.out.trans (HBL.out.mono HB9.out.size))
    have T9A : Hid (w9.heap.size ≤ wA.heap.size) := hid HBL.out.size
    have BA_A := hid (Below.refl wA.heap.size wA)
    clear HSR HP HS0 HB9 HBL B8_0
    go_wp2_with (first | (refine wpList_load_row rfl 30 _ rfl (w.heap.size + 1) rfl 30 #[.int .i64 m.kind, .int .i64 m.to, .int .i64 m.sender, .int .i64 m.epoch, .int .i64 m.edit, .string m.target.name, .string m.target.tool, .string m.target.arg, .slice e0 m.target.ins.length f0, .slice e1 m.target.outs.length f1, .slice e2 m.seen.length f2, .int .i64 m.count, .bool m.turn.over, .int .i64 m.turn.code, .string m.turn.text, .int .i64 m.turn.kind, .string m.turn.name, .int .i64 m.turn.steps, .slice e3 m.turn.files.length f3, .slice e4 m.turn.said.length f4] (0, 0) _ (HX8.out.next B8_A.out).m Tryz.underlying30 rfl (by kernel_rfl) ?_))
    refine (toMs_any m wA HKM.out.lo (N0.out.next (HX8.out.next B8_A.out).lo) (N1.out.next (HX8.out.next B8_A.out).lo) (N2.out.next (HX8.out.next B8_A.out).lo) (N3.out.next (HX8.out.next B8_A.out).lo) (N4.out.next (HX8.out.next B8_A.out).lo)).mono ?_
    rintro e wB ⟨u0, u1, u2, u3, u4, rfl, r0, r1, r2, r3, r4, hb⟩
    obtain ⟨j0, q0⟩ := r0.sl
    subst q0
    obtain ⟨j1, q1⟩ := r1.sl
    subst q1
    obtain ⟨j2, q2⟩ := r2.sl
    subst q2
    obtain ⟨j3, q3⟩ := r3.sl
    subst q3
    obtain ⟨j4, q4⟩ := r4.sl
    subst q4
    have B8_B := hid (B8_A.out.trans (hb.mono B8_A.out.size))
    have BA_B := hid (BA_A.out.trans (hb.mono BA_A.out.size))
    have HP := hid (RdMs.ofR r0 r1 r2 r3 r4)
    have HQ := hid (And.intro r0 (And.intro r1 (And.intro r2 (And.intro r3 r4))))
    clear r0 r1 r2 r3 r4 hb
    have HZ := hid (B1.start wB (.cells #[.int .i64 0, .int .i64 0, .int .i64 0, .int .i64 0, .int .i64 0, .string ⟨#[]⟩, .string ⟨#[]⟩, .string ⟨#[]⟩, .slice none 0 0, .slice none 0 0, .slice none 0 0, .int .i64 0, .bool false, .int .i64 0, .string ⟨#[]⟩, .int .i64 0, .string ⟨#[]⟩, .int .i64 0, .slice none 0 0, .slice none 0 0] 41))
    have HSR := hid (setRow_heap (wB.alloc (.cells #[.int .i64 0, .int .i64 0, .int .i64 0, .int .i64 0, .int .i64 0, .string ⟨#[]⟩, .string ⟨#[]⟩, .string ⟨#[]⟩, .slice none 0 0, .slice none 0 0, .slice none 0 0, .int .i64 0, .bool false, .int .i64 0, .string ⟨#[]⟩, .int .i64 0, .string ⟨#[]⟩, .int .i64 0, .slice none 0 0, .slice none 0 0] 41)) wB.heap.size _ #[.int .i64 m.kind, .int .i64 m.to, .int .i64 m.sender, .int .i64 m.epoch, .int .i64 m.edit, .string m.target.name, .string m.target.tool, .string m.target.arg, .slice (some ⟨j0, 0, none⟩) m.target.ins.length m.target.ins.length, .slice (some ⟨j1, 0, none⟩) m.target.outs.length m.target.outs.length, .slice (some ⟨j2, 0, none⟩) m.seen.length m.seen.length, .int .i64 m.count, .bool m.turn.over, .int .i64 m.turn.code, .string m.turn.text, .int .i64 m.turn.kind, .string m.turn.name, .int .i64 m.turn.steps, .slice (some ⟨j3, 0, none⟩) m.turn.files.length m.turn.files.length, .slice (some ⟨j4, 0, none⟩) m.turn.said.length m.turn.said.length] _ _ HZ.out.e)
    have HBL : Hid (Below wB.heap.size wB ((wB.alloc (.cells #[.int .i64 0, .int .i64 0, .int .i64 0, .int .i64 0, .int .i64 0, .string ⟨#[]⟩, .string ⟨#[]⟩, .string ⟨#[]⟩, .slice none 0 0, .slice none 0 0, .slice none 0 0, .int .i64 0, .bool false, .int .i64 0, .string ⟨#[]⟩, .int .i64 0, .string ⟨#[]⟩, .int .i64 0, .slice none 0 0, .slice none 0 0] 41)).setRow wB.heap.size #[.int .i64 m.kind, .int .i64 m.to, .int .i64 m.sender, .int .i64 m.epoch, .int .i64 m.edit, .string m.target.name, .string m.target.tool, .string m.target.arg, .slice (some ⟨j0, 0, none⟩) m.target.ins.length m.target.ins.length, .slice (some ⟨j1, 0, none⟩) m.target.outs.length m.target.outs.length, .slice (some ⟨j2, 0, none⟩) m.seen.length m.seen.length, .int .i64 m.count, .bool m.turn.over, .int .i64 m.turn.code, .string m.turn.text, .int .i64 m.turn.kind, .string m.turn.name, .int .i64 m.turn.steps, .slice (some ⟨j3, 0, none⟩) m.turn.files.length m.turn.files.length, .slice (some ⟨j4, 0, none⟩) m.turn.said.length m.turn.said.length])) := hid (below_setRow HZ.out.lo (Nat.le_refl _) _)
    go_upto_region 11 with (first | (refine wpList_store_row rfl 41 _ _ rfl (wB.heap.size) #[.int .i64 m.kind, .int .i64 m.to, .int .i64 m.sender, .int .i64 m.epoch, .int .i64 m.edit, .string m.target.name, .string m.target.tool, .string m.target.arg, .slice (some ⟨j0, 0, none⟩) m.target.ins.length m.target.ins.length, .slice (some ⟨j1, 0, none⟩) m.target.outs.length m.target.outs.length, .slice (some ⟨j2, 0, none⟩) m.seen.length m.seen.length, .int .i64 m.count, .bool m.turn.over, .int .i64 m.turn.code, .string m.turn.text, .int .i64 m.turn.kind, .string m.turn.name, .int .i64 m.turn.steps, .slice (some ⟨j3, 0, none⟩) m.turn.files.length m.turn.files.length, .slice (some ⟨j4, 0, none⟩) m.turn.said.length m.turn.said.length] rfl rfl 41 _ HZ.out.e (by kernel_rfl) rfl (by simp [Value.oneCell']) ?_))
    obtain ⟨wC, hW⟩ : ∃ W, (wB.alloc (.cells #[.int .i64 0, .int .i64 0, .int .i64 0, .int .i64 0, .int .i64 0, .string ⟨#[]⟩, .string ⟨#[]⟩, .string ⟨#[]⟩, .slice none 0 0, .slice none 0 0, .slice none 0 0, .int .i64 0, .bool false, .int .i64 0, .string ⟨#[]⟩, .int .i64 0, .string ⟨#[]⟩, .int .i64 0, .slice none 0 0, .slice none 0 0] 41)).setRow wB.heap.size #[.int .i64 m.kind, .int .i64 m.to, .int .i64 m.sender, .int .i64 m.epoch, .int .i64 m.edit, .string m.target.name, .string m.target.tool, .string m.target.arg, .slice (some ⟨j0, 0, none⟩) m.target.ins.length m.target.ins.length, .slice (some ⟨j1, 0, none⟩) m.target.outs.length m.target.outs.length, .slice (some ⟨j2, 0, none⟩) m.seen.length m.seen.length, .int .i64 m.count, .bool m.turn.over, .int .i64 m.turn.code, .string m.turn.text, .int .i64 m.turn.kind, .string m.turn.name, .int .i64 m.turn.steps, .slice (some ⟨j3, 0, none⟩) m.turn.files.length m.turn.files.length, .slice (some ⟨j4, 0, none⟩) m.turn.said.length m.turn.said.length] = W := ⟨_, rfl⟩
    rw [hW] at HSR HBL ⊢
    clear hW HZ
    have B8_C := hid (B8_B.out.trans (HBL.out.mono B8_B.out.size))
    have BA_C := hid (BA_B.out.trans (HBL.out.mono BA_B.out.size))
    have HM := hid HSR.out
    have HPM := hid (HP.out.next HBL.out)
    have HSM := hid ((ShMs.ofR (B := w8.heap.size) (T := wC.heap.size) HKM.out.ln HQ.out.1 HQ.out.2.1 HQ.out.2.2.1 HQ.out.2.2.2.1 HQ.out.2.2.2.2 B8_A.out.size HBL.out.size).mk' (.of_below HBL.out))
    have TAB : Hid (wA.heap.size ≤ wB.heap.size) := hid BA_B.out.size
    have TAC : Hid (wA.heap.size ≤ wC.heap.size) := hid BA_C.out.size
    have T8C0 : Hid (w8.heap.size ≤ wC.heap.size) := hid B8_C.out.size
    have BC_C := hid (Below.refl wC.heap.size wC)
    clear HSR HP HQ HBL B8_A B8_B BA_A BA_B
    go_wp2_with (first | (refine wpList_load_row rfl 43 _ rfl (w9.heap.size) rfl 43 #[.int .i64 x.number, .bool x.up, .bool x.has, .int .i64 x.offer.kind, .int .i64 x.offer.to, .int .i64 x.offer.sender, .int .i64 x.offer.epoch, .int .i64 x.offer.edit, .string x.offer.target.name, .string x.offer.target.tool, .string x.offer.target.arg, .slice (some ⟨i0, 0, none⟩) x.offer.target.ins.length x.offer.target.ins.length, .slice (some ⟨i1, 0, none⟩) x.offer.target.outs.length x.offer.target.outs.length, .slice (some ⟨i2, 0, none⟩) x.offer.seen.length x.offer.seen.length, .int .i64 x.offer.count, .bool x.offer.turn.over, .int .i64 x.offer.turn.code, .string x.offer.turn.text, .int .i64 x.offer.turn.kind, .string x.offer.turn.name, .int .i64 x.offer.turn.steps, .slice (some ⟨i3, 0, none⟩) x.offer.turn.files.length x.offer.turn.files.length, .slice (some ⟨i4, 0, none⟩) x.offer.turn.said.length x.offer.turn.said.length] (0, 0) _ (hp_next HA.out BA_C.out) Tryz.underlying43 rfl (by kernel_rfl) ?_) | (refine wpList_load_row rfl 41 _ rfl (wB.heap.size) rfl 41 #[.int .i64 m.kind, .int .i64 m.to, .int .i64 m.sender, .int .i64 m.epoch, .int .i64 m.edit, .string m.target.name, .string m.target.tool, .string m.target.arg, .slice (some ⟨j0, 0, none⟩) m.target.ins.length m.target.ins.length, .slice (some ⟨j1, 0, none⟩) m.target.outs.length m.target.outs.length, .slice (some ⟨j2, 0, none⟩) m.seen.length m.seen.length, .int .i64 m.count, .bool m.turn.over, .int .i64 m.turn.code, .string m.turn.text, .int .i64 m.turn.kind, .string m.turn.name, .int .i64 m.turn.steps, .slice (some ⟨j3, 0, none⟩) m.turn.files.length m.turn.files.length, .slice (some ⟨j4, 0, none⟩) m.turn.said.length m.turn.said.length] (0, 0) _ HM.out Tryz.underlying41 rfl (by kernel_rfl) ?_))
    refine (implTake_any x m wC (HPA.out.next BA_C.out) HPM.out HKX.out.sm HKM.out.sm HKX.out.sz HKM.out.sz).mono ?_
    rintro e wD ⟨S, hT, u0, u1, u2, u3, u4, rfl, ho, hb⟩
    obtain rfl := (take_same HT.out hT).symm
    obtain ⟨s0, t0, rfl⟩ := own_formK ho.o0
    obtain ⟨s1, t1, rfl⟩ := own_formK ho.o1
    obtain ⟨s2, t2, rfl⟩ := own_formK ho.o2
    obtain ⟨s3, t3, rfl⟩ := own_formK ho.o3
    obtain ⟨s4, t4, rfl⟩ := own_formK ho.o4
    have B8_D := hid (B8_C.out.trans (hb.mono B8_C.out.size))
    have BA_D := hid (BA_C.out.trans (hb.mono BA_C.out.size))
    have BC_D := hid (BC_C.out.trans (hb.mono BC_C.out.size))
    have HO := hid ho
    clear hT ho hb
    have HZ := hid (B1.start wD (.cells #[.int .i64 0, .bool false, .bool false, .int .i64 0, .int .i64 0, .int .i64 0, .int .i64 0, .int .i64 0, .string ⟨#[]⟩, .string ⟨#[]⟩, .string ⟨#[]⟩, .slice none 0 0, .slice none 0 0, .slice none 0 0, .int .i64 0, .bool false, .int .i64 0, .string ⟨#[]⟩, .int .i64 0, .string ⟨#[]⟩, .int .i64 0, .slice none 0 0, .slice none 0 0] 43))
    have HSR := hid (setRow_heap (wD.alloc (.cells #[.int .i64 0, .bool false, .bool false, .int .i64 0, .int .i64 0, .int .i64 0, .int .i64 0, .int .i64 0, .string ⟨#[]⟩, .string ⟨#[]⟩, .string ⟨#[]⟩, .slice none 0 0, .slice none 0 0, .slice none 0 0, .int .i64 0, .bool false, .int .i64 0, .string ⟨#[]⟩, .int .i64 0, .string ⟨#[]⟩, .int .i64 0, .slice none 0 0, .slice none 0 0] 43)) wD.heap.size _ #[.int .i64 R.number, .bool R.up, .bool R.has, .int .i64 R.offer.kind, .int .i64 R.offer.to, .int .i64 R.offer.sender, .int .i64 R.offer.epoch, .int .i64 R.offer.edit, .string R.offer.target.name, .string R.offer.target.tool, .string R.offer.target.arg, .slice s0 R.offer.target.ins.length t0, .slice s1 R.offer.target.outs.length t1, .slice s2 R.offer.seen.length t2, .int .i64 R.offer.count, .bool R.offer.turn.over, .int .i64 R.offer.turn.code, .string R.offer.turn.text, .int .i64 R.offer.turn.kind, .string R.offer.turn.name, .int .i64 R.offer.turn.steps, .slice s3 R.offer.turn.files.length t3, .slice s4 R.offer.turn.said.length t4] _ _ HZ.out.e)
    have HBL : Hid (Below wD.heap.size wD ((wD.alloc (.cells #[.int .i64 0, .bool false, .bool false, .int .i64 0, .int .i64 0, .int .i64 0, .int .i64 0, .int .i64 0, .string ⟨#[]⟩, .string ⟨#[]⟩, .string ⟨#[]⟩, .slice none 0 0, .slice none 0 0, .slice none 0 0, .int .i64 0, .bool false, .int .i64 0, .string ⟨#[]⟩, .int .i64 0, .string ⟨#[]⟩, .int .i64 0, .slice none 0 0, .slice none 0 0] 43)).setRow wD.heap.size #[.int .i64 R.number, .bool R.up, .bool R.has, .int .i64 R.offer.kind, .int .i64 R.offer.to, .int .i64 R.offer.sender, .int .i64 R.offer.epoch, .int .i64 R.offer.edit, .string R.offer.target.name, .string R.offer.target.tool, .string R.offer.target.arg, .slice s0 R.offer.target.ins.length t0, .slice s1 R.offer.target.outs.length t1, .slice s2 R.offer.seen.length t2, .int .i64 R.offer.count, .bool R.offer.turn.over, .int .i64 R.offer.turn.code, .string R.offer.turn.text, .int .i64 R.offer.turn.kind, .string R.offer.turn.name, .int .i64 R.offer.turn.steps, .slice s3 R.offer.turn.files.length t3, .slice s4 R.offer.turn.said.length t4])) := hid (below_setRow HZ.out.lo (Nat.le_refl _) _)
    go_upto_region 12 with (first | (refine wpList_store_row rfl 43 _ _ rfl (wD.heap.size) #[.int .i64 R.number, .bool R.up, .bool R.has, .int .i64 R.offer.kind, .int .i64 R.offer.to, .int .i64 R.offer.sender, .int .i64 R.offer.epoch, .int .i64 R.offer.edit, .string R.offer.target.name, .string R.offer.target.tool, .string R.offer.target.arg, .slice s0 R.offer.target.ins.length t0, .slice s1 R.offer.target.outs.length t1, .slice s2 R.offer.seen.length t2, .int .i64 R.offer.count, .bool R.offer.turn.over, .int .i64 R.offer.turn.code, .string R.offer.turn.text, .int .i64 R.offer.turn.kind, .string R.offer.turn.name, .int .i64 R.offer.turn.steps, .slice s3 R.offer.turn.files.length t3, .slice s4 R.offer.turn.said.length t4] rfl rfl 43 _ HZ.out.e (by kernel_rfl) rfl (by simp [Value.oneCell']) ?_))
    obtain ⟨wE, hW⟩ : ∃ W, (wD.alloc (.cells #[.int .i64 0, .bool false, .bool false, .int .i64 0, .int .i64 0, .int .i64 0, .int .i64 0, .int .i64 0, .string ⟨#[]⟩, .string ⟨#[]⟩, .string ⟨#[]⟩, .slice none 0 0, .slice none 0 0, .slice none 0 0, .int .i64 0, .bool false, .int .i64 0, .string ⟨#[]⟩, .int .i64 0, .string ⟨#[]⟩, .int .i64 0, .slice none 0 0, .slice none 0 0] 43)).setRow wD.heap.size #[.int .i64 R.number, .bool R.up, .bool R.has, .int .i64 R.offer.kind, .int .i64 R.offer.to, .int .i64 R.offer.sender, .int .i64 R.offer.epoch, .int .i64 R.offer.edit, .string R.offer.target.name, .string R.offer.target.tool, .string R.offer.target.arg, .slice s0 R.offer.target.ins.length t0, .slice s1 R.offer.target.outs.length t1, .slice s2 R.offer.seen.length t2, .int .i64 R.offer.count, .bool R.offer.turn.over, .int .i64 R.offer.turn.code, .string R.offer.turn.text, .int .i64 R.offer.turn.kind, .string R.offer.turn.name, .int .i64 R.offer.turn.steps, .slice s3 R.offer.turn.files.length t3, .slice s4 R.offer.turn.said.length t4] = W := ⟨_, rfl⟩
    rw [hW] at HSR HBL ⊢
    clear hW HZ
    have B8_E := hid (B8_D.out.trans (HBL.out.mono B8_D.out.size))
    have BA_E := hid (BA_D.out.trans (HBL.out.mono BA_D.out.size))
    have BC_E := hid (BC_D.out.trans (HBL.out.mono BC_D.out.size))
    have HG := hid HSR.out
    have HOG := hid (HO.out.next HBL.out)
    have HSG := hid ((HO.out.sh (Nat.le_refl wD.heap.size)).mk' (.of_below HBL.out))
    have TCD : Hid (wC.heap.size ≤ wD.heap.size) := hid BC_D.out.size
    have BE_E := hid (Below.refl wE.heap.size wE)
    clear HSR HO HBL B8_C B8_D BA_C BA_D BC_C BC_D
    go_wp2_with (first | (refine wpList_load_row rfl 43 _ rfl (wD.heap.size) rfl 43 #[.int .i64 R.number, .bool R.up, .bool R.has, .int .i64 R.offer.kind, .int .i64 R.offer.to, .int .i64 R.offer.sender, .int .i64 R.offer.epoch, .int .i64 R.offer.edit, .string R.offer.target.name, .string R.offer.target.tool, .string R.offer.target.arg, .slice s0 R.offer.target.ins.length t0, .slice s1 R.offer.target.outs.length t1, .slice s2 R.offer.seen.length t2, .int .i64 R.offer.count, .bool R.offer.turn.over, .int .i64 R.offer.turn.code, .string R.offer.turn.text, .int .i64 R.offer.turn.kind, .string R.offer.turn.name, .int .i64 R.offer.turn.steps, .slice s3 R.offer.turn.files.length t3, .slice s4 R.offer.turn.said.length t4] (0, 0) _ HG.out Tryz.underlying43 rfl (by kernel_rfl) ?_) | (refine wpList_load_row rfl 43 _ rfl (g8) rfl 43 #[.int .i64 R.number, .bool R.up, .bool R.has, .int .i64 R.offer.kind, .int .i64 R.offer.to, .int .i64 R.offer.sender, .int .i64 R.offer.epoch, .int .i64 R.offer.edit, .string R.offer.target.name, .string R.offer.target.tool, .string R.offer.target.arg, .slice y0 R.offer.target.ins.length z0, .slice y1 R.offer.target.outs.length z1, .slice y2 R.offer.seen.length z2, .int .i64 R.offer.count, .bool R.offer.turn.over, .int .i64 R.offer.turn.code, .string R.offer.turn.text, .int .i64 R.offer.turn.kind, .string R.offer.turn.name, .int .i64 R.offer.turn.steps, .slice y3 R.offer.turn.files.length z3, .slice y4 R.offer.turn.said.length z4] (0, 0) _ (hp_next HG8.out B8_E.out) Tryz.underlying43 rfl (by kernel_rfl) ?_))
    refine (eqWk_any R wE HKR.out.lo (HOG.out.rd).r0 (HR8.out.next B8_E.out).r0 (HOG.out.rd).r1 (HR8.out.next B8_E.out).r1 (HOG.out.rd).r2 (HR8.out.next B8_E.out).r2 (HOG.out.rd).r3 (HR8.out.next B8_E.out).r3 (HOG.out.rd).r4 (HR8.out.next B8_E.out).r4).mono ?_
    rintro e w12 ⟨rfl, hb⟩
    have B8_F := hid (B8_E.out.trans (hb.mono B8_E.out.size))
    have BA_F := hid (BA_E.out.trans (hb.mono BA_E.out.size))
    have BC_F := hid (BC_E.out.trans (hb.mono BC_E.out.size))
    have BE_F := hid (BE_E.out.trans (hb.mono BE_E.out.size))
    clear hb B8_E BA_E BC_E BE_E
    go_upto_region 14 with fail
    have HS := hid (show ∀ V, Below w12.heap.size w12 V → (V.heap[w.heap.size]? = some (.cells #[.int .i64 x.number, .bool x.up, .bool x.has, .int .i64 x.offer.kind, .int .i64 x.offer.to, .int .i64 x.offer.sender, .int .i64 x.offer.epoch, .int .i64 x.offer.edit, .string x.offer.target.name, .string x.offer.target.tool, .string x.offer.target.arg, .slice a0 x.offer.target.ins.length c0, .slice a1 x.offer.target.outs.length c1, .slice a2 x.offer.seen.length c2, .int .i64 x.offer.count, .bool x.offer.turn.over, .int .i64 x.offer.turn.code, .string x.offer.turn.text, .int .i64 x.offer.turn.kind, .string x.offer.turn.name, .int .i64 x.offer.turn.steps, .slice a3 x.offer.turn.files.length c3, .slice a4 x.offer.turn.said.length c4] 32 (0, 0)) ∧ V.heap[w9.heap.size]? = some (.cells #[.int .i64 x.number, .bool x.up, .bool x.has, .int .i64 x.offer.kind, .int .i64 x.offer.to, .int .i64 x.offer.sender, .int .i64 x.offer.epoch, .int .i64 x.offer.edit, .string x.offer.target.name, .string x.offer.target.tool, .string x.offer.target.arg, .slice (some ⟨i0, 0, none⟩) x.offer.target.ins.length x.offer.target.ins.length, .slice (some ⟨i1, 0, none⟩) x.offer.target.outs.length x.offer.target.outs.length, .slice (some ⟨i2, 0, none⟩) x.offer.seen.length x.offer.seen.length, .int .i64 x.offer.count, .bool x.offer.turn.over, .int .i64 x.offer.turn.code, .string x.offer.turn.text, .int .i64 x.offer.turn.kind, .string x.offer.turn.name, .int .i64 x.offer.turn.steps, .slice (some ⟨i3, 0, none⟩) x.offer.turn.files.length x.offer.turn.files.length, .slice (some ⟨i4, 0, none⟩) x.offer.turn.said.length x.offer.turn.said.length] 43 (0, 0))) from fun V h => ⟨((HX8.out.next B8_F.out).next h).e, hp_next (hp_next HA.out BA_F.out) h⟩)
    have HB := hid ((Below.refl w12.heap.size w12).drew)
    refine wp_region_held_drew (S := fun V => V.heap[w.heap.size]? = some (.cells #[.int .i64 x.number, .bool x.up, .bool x.has, .int .i64 x.offer.kind, .int .i64 x.offer.to, .int .i64 x.offer.sender, .int .i64 x.offer.epoch, .int .i64 x.offer.edit, .string x.offer.target.name, .string x.offer.target.tool, .string x.offer.target.arg, .slice a0 x.offer.target.ins.length c0, .slice a1 x.offer.target.outs.length c1, .slice a2 x.offer.seen.length c2, .int .i64 x.offer.count, .bool x.offer.turn.over, .int .i64 x.offer.turn.code, .string x.offer.turn.text, .int .i64 x.offer.turn.kind, .string x.offer.turn.name, .int .i64 x.offer.turn.steps, .slice a3 x.offer.turn.files.length c3, .slice a4 x.offer.turn.said.length c4] 32 (0, 0)) ∧ V.heap[w9.heap.size]? = some (.cells #[.int .i64 x.number, .bool x.up, .bool x.has, .int .i64 x.offer.kind, .int .i64 x.offer.to, .int .i64 x.offer.sender, .int .i64 x.offer.epoch, .int .i64 x.offer.edit, .string x.offer.target.name, .string x.offer.target.tool, .string x.offer.target.arg, .slice (some ⟨i0, 0, none⟩) x.offer.target.ins.length x.offer.target.ins.length, .slice (some ⟨i1, 0, none⟩) x.offer.target.outs.length x.offer.target.outs.length, .slice (some ⟨i2, 0, none⟩) x.offer.seen.length x.offer.seen.length, .int .i64 x.offer.count, .bool x.offer.turn.over, .int .i64 x.offer.turn.code, .string x.offer.turn.text, .int .i64 x.offer.turn.kind, .string x.offer.turn.name, .int .i64 x.offer.turn.steps, .slice (some ⟨i3, 0, none⟩) x.offer.turn.files.length x.offer.turn.files.length, .slice (some ⟨i4, 0, none⟩) x.offer.turn.said.length x.offer.turn.said.length] 43 (0, 0))) (by kernel_rfl) (HS.out _ HB.out) (fun hHeld => ?_)
    refine wpAnyH_take (i := 0) (v := .agg #[.int .i64 x.number, .bool x.up, .bool x.has, .int .i64 x.offer.kind, .int .i64 x.offer.to, .int .i64 x.offer.sender, .int .i64 x.offer.epoch, .int .i64 x.offer.edit, .string x.offer.target.name, .string x.offer.target.tool, .string x.offer.target.arg, .slice (some ⟨i0, 0, none⟩) x.offer.target.ins.length x.offer.target.ins.length, .slice (some ⟨i1, 0, none⟩) x.offer.target.outs.length x.offer.target.outs.length, .slice (some ⟨i2, 0, none⟩) x.offer.seen.length x.offer.seen.length, .int .i64 x.offer.count, .bool x.offer.turn.over, .int .i64 x.offer.turn.code, .string x.offer.turn.text, .int .i64 x.offer.turn.kind, .string x.offer.turn.name, .int .i64 x.offer.turn.steps, .slice (some ⟨i3, 0, none⟩) x.offer.turn.files.length x.offer.turn.files.length, .slice (some ⟨i4, 0, none⟩) x.offer.turn.said.length x.offer.turn.said.length]) rfl (by kernel_rfl) (by kernel_rfl) (by kernel_rfl) (fun _ _ _ h => h) (yieldsIf_load_mid (by rfl) 43 _ rfl (w9.heap.size) 0 rfl [.int .i64 x.number, .bool x.up, .bool x.has, .int .i64 x.offer.kind, .int .i64 x.offer.to, .int .i64 x.offer.sender, .int .i64 x.offer.epoch, .int .i64 x.offer.edit, .string x.offer.target.name, .string x.offer.target.tool, .string x.offer.target.arg, .slice (some ⟨i0, 0, none⟩) x.offer.target.ins.length x.offer.target.ins.length, .slice (some ⟨i1, 0, none⟩) x.offer.target.outs.length x.offer.target.outs.length, .slice (some ⟨i2, 0, none⟩) x.offer.seen.length x.offer.seen.length, .int .i64 x.offer.count, .bool x.offer.turn.over, .int .i64 x.offer.turn.code, .string x.offer.turn.text, .int .i64 x.offer.turn.kind, .string x.offer.turn.name, .int .i64 x.offer.turn.steps, .slice (some ⟨i3, 0, none⟩) x.offer.turn.files.length x.offer.turn.files.length, .slice (some ⟨i4, 0, none⟩) x.offer.turn.said.length x.offer.turn.said.length] _ (fun V h => range_mid [] _ [] h.2 rfl) Tryz.underlying43 rfl (by kernel_rfl)) hHeld ?_
    simp only [Act.put, List.getElem_toArray, List.getElem_cons_zero, List.setIfInBounds_toArray, List.set_cons_zero, List.set_cons_succ]
    refine wpAnyH_take (i := 1) (v := .agg #[.int .i64 x.number, .bool x.up, .bool x.has, .int .i64 x.offer.kind, .int .i64 x.offer.to, .int .i64 x.offer.sender, .int .i64 x.offer.epoch, .int .i64 x.offer.edit, .string x.offer.target.name, .string x.offer.target.tool, .string x.offer.target.arg, .slice a0 x.offer.target.ins.length c0, .slice a1 x.offer.target.outs.length c1, .slice a2 x.offer.seen.length c2, .int .i64 x.offer.count, .bool x.offer.turn.over, .int .i64 x.offer.turn.code, .string x.offer.turn.text, .int .i64 x.offer.turn.kind, .string x.offer.turn.name, .int .i64 x.offer.turn.steps, .slice a3 x.offer.turn.files.length c3, .slice a4 x.offer.turn.said.length c4]) rfl (by kernel_rfl) (by kernel_rfl) (by kernel_rfl) (fun _ _ _ h => h) (yieldsIf_load_mid (by rfl) 32 _ rfl (w.heap.size) 0 rfl [.int .i64 x.number, .bool x.up, .bool x.has, .int .i64 x.offer.kind, .int .i64 x.offer.to, .int .i64 x.offer.sender, .int .i64 x.offer.epoch, .int .i64 x.offer.edit, .string x.offer.target.name, .string x.offer.target.tool, .string x.offer.target.arg, .slice a0 x.offer.target.ins.length c0, .slice a1 x.offer.target.outs.length c1, .slice a2 x.offer.seen.length c2, .int .i64 x.offer.count, .bool x.offer.turn.over, .int .i64 x.offer.turn.code, .string x.offer.turn.text, .int .i64 x.offer.turn.kind, .string x.offer.turn.name, .int .i64 x.offer.turn.steps, .slice a3 x.offer.turn.files.length c3, .slice a4 x.offer.turn.said.length c4] _ (fun V h => range_mid [] _ [] h.1 rfl) Tryz.underlying32 rfl (by kernel_rfl)) hHeld ?_
    simp only [Act.put, List.getElem_toArray, List.getElem_cons_zero, List.getElem_cons_succ, List.setIfInBounds_toArray, List.set_cons_zero, List.set_cons_succ]
    refine held_call (i := 2) (by kernel_rfl) rfl rfl (by kernel_rfl) (toWk_any x _ HKX.out.lo (K0.out.next (HX8.out.next (B8_F.out.trans (HB.out.mono B8_F.out.size))).lo) (K1.out.next (HX8.out.next (B8_F.out.trans (HB.out.mono B8_F.out.size))).lo) (K2.out.next (HX8.out.next (B8_F.out.trans (HB.out.mono B8_F.out.size))).lo) (K3.out.next (HX8.out.next (B8_F.out.trans (HB.out.mono B8_F.out.size))).lo) (K4.out.next (HX8.out.next (B8_F.out.trans (HB.out.mono B8_F.out.size))).lo)) ?_
    rintro e w13 ⟨u0, u1, u2, u3, u4, rfl, r0, r1, r2, r3, r4, hb⟩
    obtain ⟨v0, q0⟩ := r0.sl
    subst q0
    obtain ⟨v1, q1⟩ := r1.sl
    subst q1
    obtain ⟨v2, q2⟩ := r2.sl
    subst q2
    obtain ⟨v3, q3⟩ := r3.sl
    subst q3
    obtain ⟨v4, q4⟩ := r4.sl
    subst q4
    have HV := hid (RdMs.ofR r0 r1 r2 r3 r4)
    have HB2 := hid (HB.out.trans hb)
    clear r0 r1 r2 r3 r4 hb
    refine ⟨_, rfl, HS.out _ HB2.out, ?_⟩
    simp only [Act.put, List.getElem_toArray, List.getElem_cons_zero, List.getElem_cons_succ, List.setIfInBounds_toArray, List.set_cons_zero, List.set_cons_succ]
    refine held_call (i := 3) (by kernel_rfl) rfl rfl (by kernel_rfl) (eqWk_any x _ HKX.out.lo ((HPA.out.next BA_F.out).next HB2.out).r0 HV.out.r0 ((HPA.out.next BA_F.out).next HB2.out).r1 HV.out.r1 ((HPA.out.next BA_F.out).next HB2.out).r2 HV.out.r2 ((HPA.out.next BA_F.out).next HB2.out).r3 HV.out.r3 ((HPA.out.next BA_F.out).next HB2.out).r4 HV.out.r4) ?_
    rintro e w14 ⟨rfl, hb⟩
    have HB3 := hid (HB2.out.trans (hb.mono HB2.out.size))
    clear hb
    refine ⟨_, rfl, HS.out _ HB3.out, ?_⟩
    simp only [Act.put, List.getElem_toArray, List.getElem_cons_zero, List.getElem_cons_succ, List.setIfInBounds_toArray, List.set_cons_zero, List.set_cons_succ]
    refine wpAnyH_take (i := 4) (v := .bool false) rfl (by kernel_rfl) (by kernel_rfl) (by kernel_rfl) (fun _ _ _ h => h) (Or.inl ⟨by rfl, fun V _ => by kernel_rfl⟩) (HS.out _ HB3.out) ?_
    simp only [Act.put, List.getElem_toArray, List.getElem_cons_zero, List.getElem_cons_succ, List.setIfInBounds_toArray, List.set_cons_zero, List.set_cons_succ]
    refine wpAnyH_done (by kernel_rfl) ?_ _
    have B8_G := hid (B8_F.out.trans (HB3.out.mono B8_F.out.size))
    have BA_G := hid (BA_F.out.trans (HB3.out.mono BA_F.out.size))
    have BC_G := hid (BC_F.out.trans (HB3.out.mono BC_F.out.size))
    have BE_G := hid (BE_F.out.trans (HB3.out.mono BE_F.out.size))
    clear HS HB HB2 HB3 HV hHeld B8_F BA_F BC_F BE_F
    go_upto_region 16 with fail
    have HS := hid (show ∀ V, Below w14.heap.size w14 V → (V.heap[w.heap.size + 1]? = some (.cells #[.int .i64 m.kind, .int .i64 m.to, .int .i64 m.sender, .int .i64 m.epoch, .int .i64 m.edit, .string m.target.name, .string m.target.tool, .string m.target.arg, .slice e0 m.target.ins.length f0, .slice e1 m.target.outs.length f1, .slice e2 m.seen.length f2, .int .i64 m.count, .bool m.turn.over, .int .i64 m.turn.code, .string m.turn.text, .int .i64 m.turn.kind, .string m.turn.name, .int .i64 m.turn.steps, .slice e3 m.turn.files.length f3, .slice e4 m.turn.said.length f4] 30 (0, 0)) ∧ V.heap[wB.heap.size]? = some (.cells #[.int .i64 m.kind, .int .i64 m.to, .int .i64 m.sender, .int .i64 m.epoch, .int .i64 m.edit, .string m.target.name, .string m.target.tool, .string m.target.arg, .slice (some ⟨j0, 0, none⟩) m.target.ins.length m.target.ins.length, .slice (some ⟨j1, 0, none⟩) m.target.outs.length m.target.outs.length, .slice (some ⟨j2, 0, none⟩) m.seen.length m.seen.length, .int .i64 m.count, .bool m.turn.over, .int .i64 m.turn.code, .string m.turn.text, .int .i64 m.turn.kind, .string m.turn.name, .int .i64 m.turn.steps, .slice (some ⟨j3, 0, none⟩) m.turn.files.length m.turn.files.length, .slice (some ⟨j4, 0, none⟩) m.turn.said.length m.turn.said.length] 41 (0, 0))) from fun V h => ⟨((HX8.out.next B8_G.out).next h).m, hp_next (hp_next HM.out BC_G.out) h⟩)
    have HB := hid ((Below.refl w14.heap.size w14).drew)
    refine wp_region_held_drew (S := fun V => V.heap[w.heap.size + 1]? = some (.cells #[.int .i64 m.kind, .int .i64 m.to, .int .i64 m.sender, .int .i64 m.epoch, .int .i64 m.edit, .string m.target.name, .string m.target.tool, .string m.target.arg, .slice e0 m.target.ins.length f0, .slice e1 m.target.outs.length f1, .slice e2 m.seen.length f2, .int .i64 m.count, .bool m.turn.over, .int .i64 m.turn.code, .string m.turn.text, .int .i64 m.turn.kind, .string m.turn.name, .int .i64 m.turn.steps, .slice e3 m.turn.files.length f3, .slice e4 m.turn.said.length f4] 30 (0, 0)) ∧ V.heap[wB.heap.size]? = some (.cells #[.int .i64 m.kind, .int .i64 m.to, .int .i64 m.sender, .int .i64 m.epoch, .int .i64 m.edit, .string m.target.name, .string m.target.tool, .string m.target.arg, .slice (some ⟨j0, 0, none⟩) m.target.ins.length m.target.ins.length, .slice (some ⟨j1, 0, none⟩) m.target.outs.length m.target.outs.length, .slice (some ⟨j2, 0, none⟩) m.seen.length m.seen.length, .int .i64 m.count, .bool m.turn.over, .int .i64 m.turn.code, .string m.turn.text, .int .i64 m.turn.kind, .string m.turn.name, .int .i64 m.turn.steps, .slice (some ⟨j3, 0, none⟩) m.turn.files.length m.turn.files.length, .slice (some ⟨j4, 0, none⟩) m.turn.said.length m.turn.said.length] 41 (0, 0))) (by kernel_rfl) (HS.out _ HB.out) (fun hHeld => ?_)
    refine wpAnyH_take (i := 0) (v := .agg #[.int .i64 m.kind, .int .i64 m.to, .int .i64 m.sender, .int .i64 m.epoch, .int .i64 m.edit, .string m.target.name, .string m.target.tool, .string m.target.arg, .slice (some ⟨j0, 0, none⟩) m.target.ins.length m.target.ins.length, .slice (some ⟨j1, 0, none⟩) m.target.outs.length m.target.outs.length, .slice (some ⟨j2, 0, none⟩) m.seen.length m.seen.length, .int .i64 m.count, .bool m.turn.over, .int .i64 m.turn.code, .string m.turn.text, .int .i64 m.turn.kind, .string m.turn.name, .int .i64 m.turn.steps, .slice (some ⟨j3, 0, none⟩) m.turn.files.length m.turn.files.length, .slice (some ⟨j4, 0, none⟩) m.turn.said.length m.turn.said.length]) rfl (by kernel_rfl) (by kernel_rfl) (by kernel_rfl) (fun _ _ _ h => h) (yieldsIf_load_mid (by rfl) 41 _ rfl (wB.heap.size) 0 rfl [.int .i64 m.kind, .int .i64 m.to, .int .i64 m.sender, .int .i64 m.epoch, .int .i64 m.edit, .string m.target.name, .string m.target.tool, .string m.target.arg, .slice (some ⟨j0, 0, none⟩) m.target.ins.length m.target.ins.length, .slice (some ⟨j1, 0, none⟩) m.target.outs.length m.target.outs.length, .slice (some ⟨j2, 0, none⟩) m.seen.length m.seen.length, .int .i64 m.count, .bool m.turn.over, .int .i64 m.turn.code, .string m.turn.text, .int .i64 m.turn.kind, .string m.turn.name, .int .i64 m.turn.steps, .slice (some ⟨j3, 0, none⟩) m.turn.files.length m.turn.files.length, .slice (some ⟨j4, 0, none⟩) m.turn.said.length m.turn.said.length] _ (fun V h => range_mid [] _ [] h.2 rfl) Tryz.underlying41 rfl (by kernel_rfl)) hHeld ?_
    simp only [Act.put, List.getElem_toArray, List.getElem_cons_zero, List.setIfInBounds_toArray, List.set_cons_zero, List.set_cons_succ]
    refine wpAnyH_take (i := 1) (v := .agg #[.int .i64 m.kind, .int .i64 m.to, .int .i64 m.sender, .int .i64 m.epoch, .int .i64 m.edit, .string m.target.name, .string m.target.tool, .string m.target.arg, .slice e0 m.target.ins.length f0, .slice e1 m.target.outs.length f1, .slice e2 m.seen.length f2, .int .i64 m.count, .bool m.turn.over, .int .i64 m.turn.code, .string m.turn.text, .int .i64 m.turn.kind, .string m.turn.name, .int .i64 m.turn.steps, .slice e3 m.turn.files.length f3, .slice e4 m.turn.said.length f4]) rfl (by kernel_rfl) (by kernel_rfl) (by kernel_rfl) (fun _ _ _ h => h) (yieldsIf_load_mid (by rfl) 30 _ rfl (w.heap.size + 1) 0 rfl [.int .i64 m.kind, .int .i64 m.to, .int .i64 m.sender, .int .i64 m.epoch, .int .i64 m.edit, .string m.target.name, .string m.target.tool, .string m.target.arg, .slice e0 m.target.ins.length f0, .slice e1 m.target.outs.length f1, .slice e2 m.seen.length f2, .int .i64 m.count, .bool m.turn.over, .int .i64 m.turn.code, .string m.turn.text, .int .i64 m.turn.kind, .string m.turn.name, .int .i64 m.turn.steps, .slice e3 m.turn.files.length f3, .slice e4 m.turn.said.length f4] _ (fun V h => range_mid [] _ [] h.1 rfl) Tryz.underlying30 rfl (by kernel_rfl)) hHeld ?_
    simp only [Act.put, List.getElem_toArray, List.getElem_cons_zero, List.getElem_cons_succ, List.setIfInBounds_toArray, List.set_cons_zero, List.set_cons_succ]
    refine held_call (i := 2) (by kernel_rfl) rfl rfl (by kernel_rfl) (toMs_any m _ HKM.out.lo (N0.out.next (HX8.out.next (B8_G.out.trans (HB.out.mono B8_G.out.size))).lo) (N1.out.next (HX8.out.next (B8_G.out.trans (HB.out.mono B8_G.out.size))).lo) (N2.out.next (HX8.out.next (B8_G.out.trans (HB.out.mono B8_G.out.size))).lo) (N3.out.next (HX8.out.next (B8_G.out.trans (HB.out.mono B8_G.out.size))).lo) (N4.out.next (HX8.out.next (B8_G.out.trans (HB.out.mono B8_G.out.size))).lo)) ?_
    rintro e w15 ⟨u0, u1, u2, u3, u4, rfl, r0, r1, r2, r3, r4, hb⟩
    obtain ⟨v0, q0⟩ := r0.sl
    subst q0
    obtain ⟨v1, q1⟩ := r1.sl
    subst q1
    obtain ⟨v2, q2⟩ := r2.sl
    subst q2
    obtain ⟨v3, q3⟩ := r3.sl
    subst q3
    obtain ⟨v4, q4⟩ := r4.sl
    subst q4
    have HV := hid (RdMs.ofR r0 r1 r2 r3 r4)
    have HB2 := hid (HB.out.trans hb)
    clear r0 r1 r2 r3 r4 hb
    refine ⟨_, rfl, HS.out _ HB2.out, ?_⟩
    simp only [Act.put, List.getElem_toArray, List.getElem_cons_zero, List.getElem_cons_succ, List.setIfInBounds_toArray, List.set_cons_zero, List.set_cons_succ]
    refine held_call (i := 3) (by kernel_rfl) rfl rfl (by kernel_rfl) (eqMs_any m _ HKM.out.lo ((HPM.out.next BC_G.out).next HB2.out).r0 HV.out.r0 ((HPM.out.next BC_G.out).next HB2.out).r1 HV.out.r1 ((HPM.out.next BC_G.out).next HB2.out).r2 HV.out.r2 ((HPM.out.next BC_G.out).next HB2.out).r3 HV.out.r3 ((HPM.out.next BC_G.out).next HB2.out).r4 HV.out.r4) ?_
    rintro e w16 ⟨rfl, hb⟩
    have HB3 := hid (HB2.out.trans (hb.mono HB2.out.size))
    clear hb
    refine ⟨_, rfl, HS.out _ HB3.out, ?_⟩
    simp only [Act.put, List.getElem_toArray, List.getElem_cons_zero, List.getElem_cons_succ, List.setIfInBounds_toArray, List.set_cons_zero, List.set_cons_succ]
    refine wpAnyH_take (i := 4) (v := .bool false) rfl (by kernel_rfl) (by kernel_rfl) (by kernel_rfl) (fun _ _ _ h => h) (Or.inl ⟨by rfl, fun V _ => by kernel_rfl⟩) (HS.out _ HB3.out) ?_
    simp only [Act.put, List.getElem_toArray, List.getElem_cons_zero, List.getElem_cons_succ, List.setIfInBounds_toArray, List.set_cons_zero, List.set_cons_succ]
    refine wpAnyH_done (by kernel_rfl) ?_ _
    have B8_H := hid (B8_G.out.trans (HB3.out.mono B8_G.out.size))
    have BA_H := hid (BA_G.out.trans (HB3.out.mono BA_G.out.size))
    have BC_H := hid (BC_G.out.trans (HB3.out.mono BC_G.out.size))
    have BE_H := hid (BE_G.out.trans (HB3.out.mono BE_G.out.size))
    clear HS HB HB2 HB3 HV hHeld B8_G BA_G BC_G BE_G
    go_upto_region 19 with fail
    obtain ⟨kx, hkx⟩ : ∃ k, 1 + 1 * x.offer.target.ins.length + 1 * x.offer.target.outs.length + 4 * x.offer.seen.length + 2 * x.offer.turn.files.length + 1 * x.offer.turn.said.length = k := ⟨_, rfl⟩
    obtain ⟨km, hkm⟩ : ∃ k, kx + 1 * m.target.ins.length + 1 * m.target.outs.length + 4 * m.seen.length + 2 * m.turn.files.length + 1 * m.turn.said.length = k := ⟨_, rfl⟩
    have hct := HCT.out
    unfold cntMs at hct
    have HS1 := hid (HSA.out.mk' (.of_below BA_H.out))
    go_wp2_with (first | (refine wpList_load_row rfl 43 _ rfl (w9.heap.size) rfl 43 #[.int .i64 x.number, .bool x.up, .bool x.has, .int .i64 x.offer.kind, .int .i64 x.offer.to, .int .i64 x.offer.sender, .int .i64 x.offer.epoch, .int .i64 x.offer.edit, .string x.offer.target.name, .string x.offer.target.tool, .string x.offer.target.arg, .slice (some ⟨i0, 0, none⟩) x.offer.target.ins.length x.offer.target.ins.length, .slice (some ⟨i1, 0, none⟩) x.offer.target.outs.length x.offer.target.outs.length, .slice (some ⟨i2, 0, none⟩) x.offer.seen.length x.offer.seen.length, .int .i64 x.offer.count, .bool x.offer.turn.over, .int .i64 x.offer.turn.code, .string x.offer.turn.text, .int .i64 x.offer.turn.kind, .string x.offer.turn.name, .int .i64 x.offer.turn.steps, .slice (some ⟨i3, 0, none⟩) x.offer.turn.files.length x.offer.turn.files.length, .slice (some ⟨i4, 0, none⟩) x.offer.turn.said.length x.offer.turn.said.length] (0, 0) _ (hp_next HA.out BA_H.out) Tryz.underlying43 rfl (by kernel_rfl) ?_))
    refine (markWk_k x (B := w8.heap.size) (T := w9.heap.size) (K := 1) w16  HS1.out.h0 HS1.out.h1 HS1.out.h2 HS1.out.h3 HS1.out.h4 (Nat.le_trans T9A.out BA_H.out.size) HKX.out.ln.n0 HKX.out.ln.n1 HKX.out.ln.n2 HKX.out.ln.n3 HKX.out.ln.n4 (by omega) rfl rfl rfl rfl hkx (by omega)).mono ?_
    rintro e w19 ⟨rfl, hm⟩
    have HL1 := hid (hm.lm HS1.out.h0 HS1.out.h1 HS1.out.h2 HS1.out.h3 HS1.out.h4 B8_H.out.size)
    clear hm HS1
    have B8_I := hid (B8_H.out.trans HL1.out.lo)
    have HM1 := hid ((HL1.out.hi wB.heap.size (Nat.le_trans T9A.out TAB.out) (lt_hp (hp_next HM.out BC_H.out))).trans (hp_next HM.out BC_H.out))
    have HS2 := hid (HSM.out.mk' ((Mk.of_below BC_H.out).trans HL1.out.km))
    go_upto_region 20 with fail
    go_wp2_with (first | (refine wpList_load_row rfl 41 _ rfl (wB.heap.size) rfl 41 #[.int .i64 m.kind, .int .i64 m.to, .int .i64 m.sender, .int .i64 m.epoch, .int .i64 m.edit, .string m.target.name, .string m.target.tool, .string m.target.arg, .slice (some ⟨j0, 0, none⟩) m.target.ins.length m.target.ins.length, .slice (some ⟨j1, 0, none⟩) m.target.outs.length m.target.outs.length, .slice (some ⟨j2, 0, none⟩) m.seen.length m.seen.length, .int .i64 m.count, .bool m.turn.over, .int .i64 m.turn.code, .string m.turn.text, .int .i64 m.turn.kind, .string m.turn.name, .int .i64 m.turn.steps, .slice (some ⟨j3, 0, none⟩) m.turn.files.length m.turn.files.length, .slice (some ⟨j4, 0, none⟩) m.turn.said.length m.turn.said.length] (0, 0) _ HM1.out Tryz.underlying41 rfl (by kernel_rfl) ?_))
    refine (markMs_k m (B := w8.heap.size) (T := wC.heap.size) (K := kx) w19  HS2.out.h0 HS2.out.h1 HS2.out.h2 HS2.out.h3 HS2.out.h4 (Nat.le_trans BC_H.out.size HL1.out.lo.size) HKM.out.ln.n0 HKM.out.ln.n1 HKM.out.ln.n2 HKM.out.ln.n3 HKM.out.ln.n4 (by omega) rfl rfl rfl rfl hkm (by omega)).mono ?_
    rintro e w20 ⟨rfl, hm, _⟩
    have HL2 := hid (hm.lm HS2.out.h0 HS2.out.h1 HS2.out.h2 HS2.out.h3 HS2.out.h4 B8_I.out.size)
    clear hm HS2 HM1
    have B8_J := hid (B8_I.out.trans HL2.out.lo)
    have HI := hid (show ∀ i, wC.heap.size ≤ i → i < wE.heap.size → w20.heap[i]? = wE.heap[i]? from fun i h1 h2 => (HL2.out.hi i h1 (Nat.lt_of_lt_of_le h2 (Nat.le_trans BE_H.out.size HL1.out.lo.size))).trans ((HL1.out.hi i (Nat.le_trans T9A.out (Nat.le_trans TAC.out h1)) (Nat.lt_of_lt_of_le h2 BE_H.out.size)).trans (BE_H.out.block i h2)))
    have HG2 := hid ((HI.out _ TCD.out (lt_hp HG.out)).trans HG.out)
    have HO2 := hid (HOG.out.hp HI.out)
    have HS3 := hid (HSG.out.mk' (((Mk.of_below BE_H.out).trans HL1.out.km).trans HL2.out.km))
    have TD2 : Hid (wD.heap.size ≤ w20.heap.size) := hid (Nat.le_of_lt (lt_hp HG2.out))
    have T8C : Hid (w8.heap.size ≤ wC.heap.size) := hid T8C0.out
    have BJ_J := hid (Below.refl w20.heap.size w20)
    clear HI HL1 HL2 HSG HOG HG HSM HSA HM HA HPA HPM B8_H BA_H BC_H BE_H B8_I hct
    have hkm : ¬ ((km : Int) < 0) := by omega
    go_upto_region 21 with fail
    go_wp2_with (first | (refine wpList_taken rfl fun K hK => ?_; refine wp_load_row 43 _ rfl (wD.heap.size) rfl 43 #[.int .i64 R.number, .bool R.up, .bool R.has, .int .i64 R.offer.kind, .int .i64 R.offer.to, .int .i64 R.offer.sender, .int .i64 R.offer.epoch, .int .i64 R.offer.edit, .string R.offer.target.name, .string R.offer.target.tool, .string R.offer.target.arg, .slice s0 R.offer.target.ins.length t0, .slice s1 R.offer.target.outs.length t1, .slice s2 R.offer.seen.length t2, .int .i64 R.offer.count, .bool R.offer.turn.over, .int .i64 R.offer.turn.code, .string R.offer.turn.text, .int .i64 R.offer.turn.kind, .string R.offer.turn.name, .int .i64 R.offer.turn.steps, .slice s3 R.offer.turn.files.length t3, .slice s4 R.offer.turn.said.length t4] (0, 0) _ HG2.out Tryz.underlying43 rfl (by kernel_rfl) ?_; refine hK _ _ ?_; clear hK K) | (refine wpList_taken rfl fun K hK => ?_; refine wp_load_row 43 _ rfl (g8) rfl 43 #[.int .i64 R.number, .bool R.up, .bool R.has, .int .i64 R.offer.kind, .int .i64 R.offer.to, .int .i64 R.offer.sender, .int .i64 R.offer.epoch, .int .i64 R.offer.edit, .string R.offer.target.name, .string R.offer.target.tool, .string R.offer.target.arg, .slice y0 R.offer.target.ins.length z0, .slice y1 R.offer.target.outs.length z1, .slice y2 R.offer.seen.length z2, .int .i64 R.offer.count, .bool R.offer.turn.over, .int .i64 R.offer.turn.code, .string R.offer.turn.text, .int .i64 R.offer.turn.kind, .string R.offer.turn.name, .int .i64 R.offer.turn.steps, .slice y3 R.offer.turn.files.length z3, .slice y4 R.offer.turn.said.length z4] (0, 0) _ (hp_next HG8.out B8_J.out) Tryz.underlying43 rfl (by kernel_rfl) ?_; refine hK _ _ ?_; clear hK K))
    refine (eqWk_any R w20 HKR.out.lo (HO2.out.rd).r0 (HR8.out.next B8_J.out).r0 (HO2.out.rd).r1 (HR8.out.next B8_J.out).r1 (HO2.out.rd).r2 (HR8.out.next B8_J.out).r2 (HO2.out.rd).r3 (HR8.out.next B8_J.out).r3 (HO2.out.rd).r4 (HR8.out.next B8_J.out).r4).mono ?_
    rintro e w21 ⟨rfl, hb⟩
    have B8_K := hid (B8_J.out.trans (hb.mono B8_J.out.size))
    have BJ_K := hid (BJ_J.out.trans (hb.mono BJ_J.out.size))
    clear hb B8_J BJ_J
    go_upto_region 24 with fail
    obtain ⟨kr, hkr⟩ : ∃ k, 1 + 1 * R.offer.target.ins.length + 1 * R.offer.target.outs.length + 4 * R.offer.seen.length + 2 * R.offer.turn.files.length + 1 * R.offer.turn.said.length = k := ⟨_, rfl⟩
    have hct := HCR.out
    unfold cntMs at hct
    have HS4 := hid (HS3.out.mk' (.of_below BJ_K.out))
    go_wp2_with (first | (refine wpList_load_row rfl 43 _ rfl (wD.heap.size) rfl 43 #[.int .i64 R.number, .bool R.up, .bool R.has, .int .i64 R.offer.kind, .int .i64 R.offer.to, .int .i64 R.offer.sender, .int .i64 R.offer.epoch, .int .i64 R.offer.edit, .string R.offer.target.name, .string R.offer.target.tool, .string R.offer.target.arg, .slice s0 R.offer.target.ins.length t0, .slice s1 R.offer.target.outs.length t1, .slice s2 R.offer.seen.length t2, .int .i64 R.offer.count, .bool R.offer.turn.over, .int .i64 R.offer.turn.code, .string R.offer.turn.text, .int .i64 R.offer.turn.kind, .string R.offer.turn.name, .int .i64 R.offer.turn.steps, .slice s3 R.offer.turn.files.length t3, .slice s4 R.offer.turn.said.length t4] (0, 0) _ (hp_next HG2.out BJ_K.out) Tryz.underlying43 rfl (by kernel_rfl) ?_))
    refine (markWk_k R (B := wC.heap.size) (T := wD.heap.size) (K := 1) w21  HS4.out.h0 HS4.out.h1 HS4.out.h2 HS4.out.h3 HS4.out.h4 (Nat.le_trans TD2.out BJ_K.out.size) HKR.out.ln.n0 HKR.out.ln.n1 HKR.out.ln.n2 HKR.out.ln.n3 HKR.out.ln.n4 (by omega) rfl rfl rfl rfl hkr (by omega)).mono ?_
    rintro e w24 ⟨rfl, hm⟩
    have HL3 := hid (hm.lm HS4.out.h0 HS4.out.h1 HS4.out.h2 HS4.out.h3 HS4.out.h4 (Nat.le_trans TCD.out (Nat.le_trans TD2.out BJ_K.out.size)))
    obtain ⟨kk1, kk2, kk3, kk4, ⟨q1, q2, q3, q4⟩, m0, m1, m2, m3, m4⟩ := hm.marked HS4.out.h0 HS4.out.h1 HS4.out.h2 HS4.out.h3 HS4.out.h4 HO2.out.a01.symm HO2.out.a04.symm HO2.out.a14.symm
    have q5 : kk4 + 1 * R.offer.turn.said.length = kr := by omega
    have HMV := hid (And.intro m0 (And.intro m1 (And.intro m2 (And.intro m3 m4))))
    have HG3 := hid ((HL3.out.hi _ (Nat.le_refl wD.heap.size) (lt_hp (hp_next HG2.out BJ_K.out))).trans (hp_next HG2.out BJ_K.out))
    have B8_L := hid (B8_K.out.trans (HL3.out.lo.mono T8C.out))
    have BL_L := hid (Below.refl w24.heap.size w24)
    have hkr : ¬ ((kr : Int) < 0) := by omega
    have hkr2 : ((kr : Int) != (kr : Int)) = false := by simp
    have hkr3 : kr ≤ 5000000 := by omega
    clear hm m0 m1 m2 m3 m4 HL3 HS4 HS3 HG2 HO2 B8_K BJ_K hct
    go_upto_region 26 with fail
    go_wp2_with (first | (refine wpList_load_row rfl 43 _ rfl (wD.heap.size) rfl 43 #[.int .i64 R.number, .bool R.up, .bool R.has, .int .i64 R.offer.kind, .int .i64 R.offer.to, .int .i64 R.offer.sender, .int .i64 R.offer.epoch, .int .i64 R.offer.edit, .string R.offer.target.name, .string R.offer.target.tool, .string R.offer.target.arg, .slice s0 R.offer.target.ins.length t0, .slice s1 R.offer.target.outs.length t1, .slice s2 R.offer.seen.length t2, .int .i64 R.offer.count, .bool R.offer.turn.over, .int .i64 R.offer.turn.code, .string R.offer.turn.text, .int .i64 R.offer.turn.kind, .string R.offer.turn.name, .int .i64 R.offer.turn.steps, .slice s3 R.offer.turn.files.length t3, .slice s4 R.offer.turn.said.length t4] (0, 0) _ (hp_next HG3.out BL_L.out) Tryz.underlying43 rfl (by kernel_rfl) ?_))
    refine (heldWk_k R (K := 1) w24 (HMV.out.1.next BL_L.out) (HMV.out.2.1.next BL_L.out) (HMV.out.2.2.1.next BL_L.out) (HMV.out.2.2.2.1.next BL_L.out) (HMV.out.2.2.2.2.next BL_L.out) HKR.out.ln.n0 HKR.out.ln.n1 HKR.out.ln.n2 HKR.out.ln.n3 HKR.out.ln.n4 (by omega) q1 q2 q3 q4 q5 hkr3).mono ?_
    rintro e w26 ⟨rfl, hb⟩
    have B8_M := hid (B8_L.out.trans (hb.mono B8_L.out.size))
    have BL_M := hid (BL_L.out.trans (hb.mono BL_L.out.size))
    clear hb B8_L BL_L
    have HXV := hid (HX8.out.next B8_M.out)
    go_upto_region 31 with fail
    go_cut [13] (fun v W' => ∃ g R, v = .pointer (some ⟨g, 0, none⟩) ∧ w26.heap.size ≤ g ∧ TakeIs x m R ∧ (∃ b0 d0 b1 d1 b2 d2 b3 d3 b4 d4, W'.heap[g]? = some (.cells #[.int .i64 R.number, .bool R.up, .bool R.has, .int .i64 R.offer.kind, .int .i64 R.offer.to, .int .i64 R.offer.sender, .int .i64 R.offer.epoch, .int .i64 R.offer.edit, .string R.offer.target.name, .string R.offer.target.tool, .string R.offer.target.arg, .slice b0 R.offer.target.ins.length d0, .slice b1 R.offer.target.outs.length d1, .slice b2 R.offer.seen.length d2, .int .i64 R.offer.count, .bool R.offer.turn.over, .int .i64 R.offer.turn.code, .string R.offer.turn.text, .int .i64 R.offer.turn.kind, .string R.offer.turn.name, .int .i64 R.offer.turn.steps, .slice b3 R.offer.turn.files.length d3, .slice b4 R.offer.turn.said.length d4] 43 (0, 0)) ∧ OwnMs w26.heap.size W' R.offer (.slice b0 R.offer.target.ins.length d0) (.slice b1 R.offer.target.outs.length d1) (.slice b2 R.offer.seen.length d2) (.slice b3 R.offer.turn.files.length d3) (.slice b4 R.offer.turn.said.length d4)) ∧ Below w26.heap.size w26 W')
    case first =>
      have HS := hid (show ∀ V, Below w26.heap.size w26 V → (V.heap[w.heap.size]? = some (.cells #[.int .i64 x.number, .bool x.up, .bool x.has, .int .i64 x.offer.kind, .int .i64 x.offer.to, .int .i64 x.offer.sender, .int .i64 x.offer.epoch, .int .i64 x.offer.edit, .string x.offer.target.name, .string x.offer.target.tool, .string x.offer.target.arg, .slice a0 x.offer.target.ins.length c0, .slice a1 x.offer.target.outs.length c1, .slice a2 x.offer.seen.length c2, .int .i64 x.offer.count, .bool x.offer.turn.over, .int .i64 x.offer.turn.code, .string x.offer.turn.text, .int .i64 x.offer.turn.kind, .string x.offer.turn.name, .int .i64 x.offer.turn.steps, .slice a3 x.offer.turn.files.length c3, .slice a4 x.offer.turn.said.length c4] 32 (0, 0)) ∧ V.heap[w.heap.size + 1]? = some (.cells #[.int .i64 m.kind, .int .i64 m.to, .int .i64 m.sender, .int .i64 m.epoch, .int .i64 m.edit, .string m.target.name, .string m.target.tool, .string m.target.arg, .slice e0 m.target.ins.length f0, .slice e1 m.target.outs.length f1, .slice e2 m.seen.length f2, .int .i64 m.count, .bool m.turn.over, .int .i64 m.turn.code, .string m.turn.text, .int .i64 m.turn.kind, .string m.turn.name, .int .i64 m.turn.steps, .slice e3 m.turn.files.length f3, .slice e4 m.turn.said.length f4] 30 (0, 0))) from fun V h => ⟨(HXV.out.next h).e, (HXV.out.next h).m⟩)
      have HB := hid ((Below.refl w26.heap.size w26).drew)
      refine wp_region_held_drew (S := fun V => V.heap[w.heap.size]? = some (.cells #[.int .i64 x.number, .bool x.up, .bool x.has, .int .i64 x.offer.kind, .int .i64 x.offer.to, .int .i64 x.offer.sender, .int .i64 x.offer.epoch, .int .i64 x.offer.edit, .string x.offer.target.name, .string x.offer.target.tool, .string x.offer.target.arg, .slice a0 x.offer.target.ins.length c0, .slice a1 x.offer.target.outs.length c1, .slice a2 x.offer.seen.length c2, .int .i64 x.offer.count, .bool x.offer.turn.over, .int .i64 x.offer.turn.code, .string x.offer.turn.text, .int .i64 x.offer.turn.kind, .string x.offer.turn.name, .int .i64 x.offer.turn.steps, .slice a3 x.offer.turn.files.length c3, .slice a4 x.offer.turn.said.length c4] 32 (0, 0)) ∧ V.heap[w.heap.size + 1]? = some (.cells #[.int .i64 m.kind, .int .i64 m.to, .int .i64 m.sender, .int .i64 m.epoch, .int .i64 m.edit, .string m.target.name, .string m.target.tool, .string m.target.arg, .slice e0 m.target.ins.length f0, .slice e1 m.target.outs.length f1, .slice e2 m.seen.length f2, .int .i64 m.count, .bool m.turn.over, .int .i64 m.turn.code, .string m.turn.text, .int .i64 m.turn.kind, .string m.turn.name, .int .i64 m.turn.steps, .slice e3 m.turn.files.length f3, .slice e4 m.turn.said.length f4] 30 (0, 0))) (by kernel_rfl) (HS.out _ HB.out) (fun hHeld => ?_)
      refine wpAnyH_take (i := 0) (v := .agg #[.int .i64 x.number, .bool x.up, .bool x.has, .int .i64 x.offer.kind, .int .i64 x.offer.to, .int .i64 x.offer.sender, .int .i64 x.offer.epoch, .int .i64 x.offer.edit, .string x.offer.target.name, .string x.offer.target.tool, .string x.offer.target.arg, .slice a0 x.offer.target.ins.length c0, .slice a1 x.offer.target.outs.length c1, .slice a2 x.offer.seen.length c2, .int .i64 x.offer.count, .bool x.offer.turn.over, .int .i64 x.offer.turn.code, .string x.offer.turn.text, .int .i64 x.offer.turn.kind, .string x.offer.turn.name, .int .i64 x.offer.turn.steps, .slice a3 x.offer.turn.files.length c3, .slice a4 x.offer.turn.said.length c4]) rfl (by kernel_rfl) (by kernel_rfl) (by kernel_rfl) (fun _ _ _ h => h) (yieldsIf_load_mid (by rfl) 32 _ rfl (w.heap.size) 0 rfl [.int .i64 x.number, .bool x.up, .bool x.has, .int .i64 x.offer.kind, .int .i64 x.offer.to, .int .i64 x.offer.sender, .int .i64 x.offer.epoch, .int .i64 x.offer.edit, .string x.offer.target.name, .string x.offer.target.tool, .string x.offer.target.arg, .slice a0 x.offer.target.ins.length c0, .slice a1 x.offer.target.outs.length c1, .slice a2 x.offer.seen.length c2, .int .i64 x.offer.count, .bool x.offer.turn.over, .int .i64 x.offer.turn.code, .string x.offer.turn.text, .int .i64 x.offer.turn.kind, .string x.offer.turn.name, .int .i64 x.offer.turn.steps, .slice a3 x.offer.turn.files.length c3, .slice a4 x.offer.turn.said.length c4] _ (fun V h => range_mid [] _ [] h.1 rfl) Tryz.underlying32 rfl (by kernel_rfl)) hHeld ?_
      simp only [Act.put, List.getElem_toArray, List.getElem_cons_zero, List.setIfInBounds_toArray, List.set_cons_zero, List.set_cons_succ]
      refine wpAnyH_take (i := 2) (v := .agg #[.int .i64 m.kind, .int .i64 m.to, .int .i64 m.sender, .int .i64 m.epoch, .int .i64 m.edit, .string m.target.name, .string m.target.tool, .string m.target.arg, .slice e0 m.target.ins.length f0, .slice e1 m.target.outs.length f1, .slice e2 m.seen.length f2, .int .i64 m.count, .bool m.turn.over, .int .i64 m.turn.code, .string m.turn.text, .int .i64 m.turn.kind, .string m.turn.name, .int .i64 m.turn.steps, .slice e3 m.turn.files.length f3, .slice e4 m.turn.said.length f4]) rfl (by kernel_rfl) (by kernel_rfl) (by kernel_rfl) (fun _ _ _ h => h) (yieldsIf_load_mid (by rfl) 30 _ rfl (w.heap.size + 1) 0 rfl [.int .i64 m.kind, .int .i64 m.to, .int .i64 m.sender, .int .i64 m.epoch, .int .i64 m.edit, .string m.target.name, .string m.target.tool, .string m.target.arg, .slice e0 m.target.ins.length f0, .slice e1 m.target.outs.length f1, .slice e2 m.seen.length f2, .int .i64 m.count, .bool m.turn.over, .int .i64 m.turn.code, .string m.turn.text, .int .i64 m.turn.kind, .string m.turn.name, .int .i64 m.turn.steps, .slice e3 m.turn.files.length f3, .slice e4 m.turn.said.length f4] _ (fun V h => range_mid [] _ [] h.2 rfl) Tryz.underlying30 rfl (by kernel_rfl)) hHeld ?_
      simp only [Act.put, List.getElem_toArray, List.getElem_cons_zero, List.getElem_cons_succ, List.setIfInBounds_toArray, List.set_cons_zero, List.set_cons_succ]
      refine held_two (i := 1) (j := 5) (w2 := (w26.drew).alloc (.cells #[.int .i64 0, .bool false, .bool false, .int .i64 0, .int .i64 0, .int .i64 0, .int .i64 0, .int .i64 0, .string ⟨#[]⟩, .string ⟨#[]⟩, .string ⟨#[]⟩, .slice none 0 0, .slice none 0 0, .slice none 0 0, .int .i64 0, .bool false, .int .i64 0, .string ⟨#[]⟩, .int .i64 0, .string ⟨#[]⟩, .int .i64 0, .slice none 0 0, .slice none 0 0] 43)) (v := .pointer (some ⟨(w26.drew).heap.size, 0, none⟩)) (by kernel_rfl) rfl rfl rfl rfl (by kernel_rfl) (toWk_any x _ HKX.out.lo (K0.out.next (HXV.out.next HB.out).lo) (K1.out.next (HXV.out.next HB.out).lo) (K2.out.next (HXV.out.next HB.out).lo) (K3.out.next (HXV.out.next HB.out).lo) (K4.out.next (HXV.out.next HB.out).lo)) (by kernel_rfl) (HS.out _ ((show Below w26.heap.size w26 w26.drew from HB.out).alloc (HB.out).size (.cells #[.int .i64 0, .bool false, .bool false, .int .i64 0, .int .i64 0, .int .i64 0, .int .i64 0, .int .i64 0, .string ⟨#[]⟩, .string ⟨#[]⟩, .string ⟨#[]⟩, .slice none 0 0, .slice none 0 0, .slice none 0 0, .int .i64 0, .bool false, .int .i64 0, .string ⟨#[]⟩, .int .i64 0, .string ⟨#[]⟩, .int .i64 0, .slice none 0 0, .slice none 0 0] 43))) ?_ ?_
      · rintro e wc ⟨u0, u1, u2, u3, u4, rfl, r0, r1, r2, r3, r4, hb⟩
        obtain ⟨p0, q0⟩ := r0.sl
        obtain ⟨p1, q1⟩ := r1.sl
        obtain ⟨p2, q2⟩ := r2.sl
        obtain ⟨p3, q3⟩ := r3.sl
        obtain ⟨p4, q4⟩ := r4.sl
        have HRW0 := hid (RdMs.ofR r0 r1 r2 r3 r4)
        subst q0 q1 q2 q3 q4
        have HRW := hid HRW0.out
        clear r0 r1 r2 r3 r4 HRW0
        have HB1 := hid ((HB.out).trans (hb.mono (HB.out).size))
        clear hb
        refine ⟨_, rfl, HS.out _ HB1.out, ?_⟩
        simp only [Act.put, List.getElem_toArray, List.getElem_cons_zero, List.getElem_cons_succ, List.setIfInBounds_toArray, List.set_cons_zero, List.set_cons_succ]
        refine held_two (i := 3) (j := 5) (w2 := (wc).alloc (.cells #[.int .i64 0, .bool false, .bool false, .int .i64 0, .int .i64 0, .int .i64 0, .int .i64 0, .int .i64 0, .string ⟨#[]⟩, .string ⟨#[]⟩, .string ⟨#[]⟩, .slice none 0 0, .slice none 0 0, .slice none 0 0, .int .i64 0, .bool false, .int .i64 0, .string ⟨#[]⟩, .int .i64 0, .string ⟨#[]⟩, .int .i64 0, .slice none 0 0, .slice none 0 0] 43)) (v := .pointer (some ⟨(wc).heap.size, 0, none⟩)) (by kernel_rfl) rfl rfl rfl rfl (by kernel_rfl) (toMs_any m _ HKM.out.lo (N0.out.next (HXV.out.next HB1.out).lo) (N1.out.next (HXV.out.next HB1.out).lo) (N2.out.next (HXV.out.next HB1.out).lo) (N3.out.next (HXV.out.next HB1.out).lo) (N4.out.next (HXV.out.next HB1.out).lo)) (by kernel_rfl) (HS.out _ ((show Below w26.heap.size w26 wc from HB1.out).alloc (HB1.out).size (.cells #[.int .i64 0, .bool false, .bool false, .int .i64 0, .int .i64 0, .int .i64 0, .int .i64 0, .int .i64 0, .string ⟨#[]⟩, .string ⟨#[]⟩, .string ⟨#[]⟩, .slice none 0 0, .slice none 0 0, .slice none 0 0, .int .i64 0, .bool false, .int .i64 0, .string ⟨#[]⟩, .int .i64 0, .string ⟨#[]⟩, .int .i64 0, .slice none 0 0, .slice none 0 0] 43))) ?_ ?_
        · rintro e wd ⟨u0, u1, u2, u3, u4, rfl, r0, r1, r2, r3, r4, hb⟩
          obtain ⟨s0, q0⟩ := r0.sl
          obtain ⟨s1, q1⟩ := r1.sl
          obtain ⟨s2, q2⟩ := r2.sl
          obtain ⟨s3, q3⟩ := r3.sl
          obtain ⟨s4, q4⟩ := r4.sl
          have HRM := hid (RdMs.ofR r0 r1 r2 r3 r4)
          subst q0 q1 q2 q3 q4
          clear r0 r1 r2 r3 r4
          have HRW := hid (HRW.out.next hb)
          have HB2 := hid ((HB1.out).trans (hb.mono (HB1.out).size))
          clear hb
          refine ⟨_, rfl, HS.out _ HB2.out, ?_⟩
          simp only [Act.put, List.getElem_toArray, List.getElem_cons_zero, List.getElem_cons_succ, List.setIfInBounds_toArray, List.set_cons_zero, List.set_cons_succ]
          refine held_two (i := 4) (j := 5) (w2 := (wd).alloc (.cells #[.int .i64 0, .bool false, .bool false, .int .i64 0, .int .i64 0, .int .i64 0, .int .i64 0, .int .i64 0, .string ⟨#[]⟩, .string ⟨#[]⟩, .string ⟨#[]⟩, .slice none 0 0, .slice none 0 0, .slice none 0 0, .int .i64 0, .bool false, .int .i64 0, .string ⟨#[]⟩, .int .i64 0, .string ⟨#[]⟩, .int .i64 0, .slice none 0 0, .slice none 0 0] 43)) (v := .pointer (some ⟨(wd).heap.size, 0, none⟩)) (by kernel_rfl) rfl rfl rfl rfl (by kernel_rfl) (implTake_any x m _ HRW.out HRM.out HKX.out.sm HKM.out.sm HKX.out.sz HKM.out.sz) (by kernel_rfl) (HS.out _ ((show Below w26.heap.size w26 wd from HB2.out).alloc (HB2.out).size (.cells #[.int .i64 0, .bool false, .bool false, .int .i64 0, .int .i64 0, .int .i64 0, .int .i64 0, .int .i64 0, .string ⟨#[]⟩, .string ⟨#[]⟩, .string ⟨#[]⟩, .slice none 0 0, .slice none 0 0, .slice none 0 0, .int .i64 0, .bool false, .int .i64 0, .string ⟨#[]⟩, .int .i64 0, .string ⟨#[]⟩, .int .i64 0, .slice none 0 0, .slice none 0 0] 43))) ?_ ?_
          · rintro e we ⟨R, hT, u0, u1, u2, u3, u4, rfl, ho, hb⟩
            obtain ⟨b0, d0, rfl⟩ := own_formK ho.o0
            obtain ⟨b1, d1, rfl⟩ := own_formK ho.o1
            obtain ⟨b2, d2, rfl⟩ := own_formK ho.o2
            obtain ⟨b3, d3, rfl⟩ := own_formK ho.o3
            obtain ⟨b4, d4, rfl⟩ := own_formK ho.o4
            have HT := hid hT
            have HO := hid (ho.mono (B' := w26.heap.size) (HB2.out).size)
            have HB3 := hid ((HB2.out).trans (hb.mono (HB2.out).size))
            clear hT ho
            clear hb
            refine ⟨_, rfl, HS.out _ HB3.out, ?_⟩
            simp only [Act.put, List.getElem_toArray, List.getElem_cons_zero, List.getElem_cons_succ, List.setIfInBounds_toArray, List.set_cons_zero, List.set_cons_succ]
            refine held_value (j := 5) (w2 := (we).alloc (.cells #[.int .i64 0, .bool false, .bool false, .int .i64 0, .int .i64 0, .int .i64 0, .int .i64 0, .int .i64 0, .string ⟨#[]⟩, .string ⟨#[]⟩, .string ⟨#[]⟩, .slice none 0 0, .slice none 0 0, .slice none 0 0, .int .i64 0, .bool false, .int .i64 0, .string ⟨#[]⟩, .int .i64 0, .string ⟨#[]⟩, .int .i64 0, .slice none 0 0, .slice none 0 0] 43)) (v := .pointer (some ⟨(we).heap.size, 0, none⟩)) (by kernel_rfl) rfl rfl (by kernel_rfl) (HS.out _ ((show Below w26.heap.size w26 we from HB3.out).alloc (HB3.out).size (.cells #[.int .i64 0, .bool false, .bool false, .int .i64 0, .int .i64 0, .int .i64 0, .int .i64 0, .int .i64 0, .string ⟨#[]⟩, .string ⟨#[]⟩, .string ⟨#[]⟩, .slice none 0 0, .slice none 0 0, .slice none 0 0, .int .i64 0, .bool false, .int .i64 0, .string ⟨#[]⟩, .int .i64 0, .string ⟨#[]⟩, .int .i64 0, .slice none 0 0, .slice none 0 0] 43))) ?_
            simp only [Act.put, List.getElem_toArray, List.getElem_cons_zero, List.getElem_cons_succ, List.setIfInBounds_toArray, List.set_cons_zero, List.set_cons_succ]
            have HWA := hid ((Below.refl (we).heap.size (we)).alloc (Nat.le_refl _) (.cells #[.int .i64 0, .bool false, .bool false, .int .i64 0, .int .i64 0, .int .i64 0, .int .i64 0, .int .i64 0, .string ⟨#[]⟩, .string ⟨#[]⟩, .string ⟨#[]⟩, .slice none 0 0, .slice none 0 0, .slice none 0 0, .int .i64 0, .bool false, .int .i64 0, .string ⟨#[]⟩, .int .i64 0, .string ⟨#[]⟩, .int .i64 0, .slice none 0 0, .slice none 0 0] 43))
            have HB4 := hid ((show Below w26.heap.size w26 we from HB3.out).alloc (HB3.out).size (.cells #[.int .i64 0, .bool false, .bool false, .int .i64 0, .int .i64 0, .int .i64 0, .int .i64 0, .int .i64 0, .string ⟨#[]⟩, .string ⟨#[]⟩, .string ⟨#[]⟩, .slice none 0 0, .slice none 0 0, .slice none 0 0, .int .i64 0, .bool false, .int .i64 0, .string ⟨#[]⟩, .int .i64 0, .string ⟨#[]⟩, .int .i64 0, .slice none 0 0, .slice none 0 0] 43))
            have HGA := hid (heap_alloc_new we (.cells #[.int .i64 0, .bool false, .bool false, .int .i64 0, .int .i64 0, .int .i64 0, .int .i64 0, .int .i64 0, .string ⟨#[]⟩, .string ⟨#[]⟩, .string ⟨#[]⟩, .slice none 0 0, .slice none 0 0, .slice none 0 0, .int .i64 0, .bool false, .int .i64 0, .string ⟨#[]⟩, .int .i64 0, .string ⟨#[]⟩, .int .i64 0, .slice none 0 0, .slice none 0 0] 43))
            obtain ⟨g, hg⟩ : ∃ g, (we).heap.size = g := ⟨_, rfl⟩
            have HGG : Hid (w26.heap.size ≤ g) := hid (by rw [← hg]; exact (HB3.out).size)
            rw [hg] at HGA ⊢
            obtain ⟨wa, hwa⟩ : ∃ V, (we).alloc (.cells #[.int .i64 0, .bool false, .bool false, .int .i64 0, .int .i64 0, .int .i64 0, .int .i64 0, .int .i64 0, .string ⟨#[]⟩, .string ⟨#[]⟩, .string ⟨#[]⟩, .slice none 0 0, .slice none 0 0, .slice none 0 0, .int .i64 0, .bool false, .int .i64 0, .string ⟨#[]⟩, .int .i64 0, .string ⟨#[]⟩, .int .i64 0, .slice none 0 0, .slice none 0 0] 43) = V := ⟨_, rfl⟩
            rw [hwa] at HGA HB4 HWA ⊢
            clear hg hwa
            have HO2 := hid (OwnMs.setRowT (HO.out.next HWA.out) HGA.out #[.int .i64 R.number, .bool R.up, .bool R.has, .int .i64 R.offer.kind, .int .i64 R.offer.to, .int .i64 R.offer.sender, .int .i64 R.offer.epoch, .int .i64 R.offer.edit, .string R.offer.target.name, .string R.offer.target.tool, .string R.offer.target.arg, .slice b0 R.offer.target.ins.length d0, .slice b1 R.offer.target.outs.length d1, .slice b2 R.offer.seen.length d2, .int .i64 R.offer.count, .bool R.offer.turn.over, .int .i64 R.offer.turn.code, .string R.offer.turn.text, .int .i64 R.offer.turn.kind, .string R.offer.turn.name, .int .i64 R.offer.turn.steps, .slice b3 R.offer.turn.files.length d3, .slice b4 R.offer.turn.said.length d4])
            have HSR := hid (setRow_heap wa g _ #[.int .i64 R.number, .bool R.up, .bool R.has, .int .i64 R.offer.kind, .int .i64 R.offer.to, .int .i64 R.offer.sender, .int .i64 R.offer.epoch, .int .i64 R.offer.edit, .string R.offer.target.name, .string R.offer.target.tool, .string R.offer.target.arg, .slice b0 R.offer.target.ins.length d0, .slice b1 R.offer.target.outs.length d1, .slice b2 R.offer.seen.length d2, .int .i64 R.offer.count, .bool R.offer.turn.over, .int .i64 R.offer.turn.code, .string R.offer.turn.text, .int .i64 R.offer.turn.kind, .string R.offer.turn.name, .int .i64 R.offer.turn.steps, .slice b3 R.offer.turn.files.length d3, .slice b4 R.offer.turn.said.length d4] _ _ HGA.out)
            have HBL := hid (below_setRow (show Below w26.heap.size w26 wa from HB4.out) HGG.out #[.int .i64 R.number, .bool R.up, .bool R.has, .int .i64 R.offer.kind, .int .i64 R.offer.to, .int .i64 R.offer.sender, .int .i64 R.offer.epoch, .int .i64 R.offer.edit, .string R.offer.target.name, .string R.offer.target.tool, .string R.offer.target.arg, .slice b0 R.offer.target.ins.length d0, .slice b1 R.offer.target.outs.length d1, .slice b2 R.offer.seen.length d2, .int .i64 R.offer.count, .bool R.offer.turn.over, .int .i64 R.offer.turn.code, .string R.offer.turn.text, .int .i64 R.offer.turn.kind, .string R.offer.turn.name, .int .i64 R.offer.turn.steps, .slice b3 R.offer.turn.files.length d3, .slice b4 R.offer.turn.said.length d4])
            have HS9 := hid (HS.out _ HBL.out)
            refine held_store_row (i := 6) (by kernel_rfl) rfl rfl 43 _ _ rfl g #[.int .i64 R.number, .bool R.up, .bool R.has, .int .i64 R.offer.kind, .int .i64 R.offer.to, .int .i64 R.offer.sender, .int .i64 R.offer.epoch, .int .i64 R.offer.edit, .string R.offer.target.name, .string R.offer.target.tool, .string R.offer.target.arg, .slice b0 R.offer.target.ins.length d0, .slice b1 R.offer.target.outs.length d1, .slice b2 R.offer.seen.length d2, .int .i64 R.offer.count, .bool R.offer.turn.over, .int .i64 R.offer.turn.code, .string R.offer.turn.text, .int .i64 R.offer.turn.kind, .string R.offer.turn.name, .int .i64 R.offer.turn.steps, .slice b3 R.offer.turn.files.length d3, .slice b4 R.offer.turn.said.length d4] rfl rfl 43 _ (HGA.out) (by kernel_rfl) rfl (by simp [Value.oneCell']) HS9.out ?_
            simp only [Act.put, List.getElem_toArray, List.getElem_cons_zero, List.getElem_cons_succ]
            refine wpAnyH_done (by kernel_rfl) ?_ _
            go_wp2_with fail
            go_meet
            exact ⟨g, R, rfl, HGG.out, HT.out, ⟨b0, d0, b1, d1, b2, d2, b3, d3, b4, d4, HSR.out, HO2.out⟩, HBL.out⟩
          · simp only [Act.put, List.getElem_toArray, List.getElem_cons_zero, List.getElem_cons_succ, List.setIfInBounds_toArray, List.set_cons_zero, List.set_cons_succ]
            have HWA := hid ((Below.refl (wd).heap.size (wd)).alloc (Nat.le_refl _) (.cells #[.int .i64 0, .bool false, .bool false, .int .i64 0, .int .i64 0, .int .i64 0, .int .i64 0, .int .i64 0, .string ⟨#[]⟩, .string ⟨#[]⟩, .string ⟨#[]⟩, .slice none 0 0, .slice none 0 0, .slice none 0 0, .int .i64 0, .bool false, .int .i64 0, .string ⟨#[]⟩, .int .i64 0, .string ⟨#[]⟩, .int .i64 0, .slice none 0 0, .slice none 0 0] 43))
            have HB3 := hid ((show Below w26.heap.size w26 wd from HB2.out).alloc (HB2.out).size (.cells #[.int .i64 0, .bool false, .bool false, .int .i64 0, .int .i64 0, .int .i64 0, .int .i64 0, .int .i64 0, .string ⟨#[]⟩, .string ⟨#[]⟩, .string ⟨#[]⟩, .slice none 0 0, .slice none 0 0, .slice none 0 0, .int .i64 0, .bool false, .int .i64 0, .string ⟨#[]⟩, .int .i64 0, .string ⟨#[]⟩, .int .i64 0, .slice none 0 0, .slice none 0 0] 43))
            have HGA := hid (heap_alloc_new wd (.cells #[.int .i64 0, .bool false, .bool false, .int .i64 0, .int .i64 0, .int .i64 0, .int .i64 0, .int .i64 0, .string ⟨#[]⟩, .string ⟨#[]⟩, .string ⟨#[]⟩, .slice none 0 0, .slice none 0 0, .slice none 0 0, .int .i64 0, .bool false, .int .i64 0, .string ⟨#[]⟩, .int .i64 0, .string ⟨#[]⟩, .int .i64 0, .slice none 0 0, .slice none 0 0] 43))
            obtain ⟨g, hg⟩ : ∃ g, (wd).heap.size = g := ⟨_, rfl⟩
            have HGG : Hid (w26.heap.size ≤ g) := hid (by rw [← hg]; exact (HB2.out).size)
            rw [hg] at HGA ⊢
            obtain ⟨wa, hwa⟩ : ∃ V, (wd).alloc (.cells #[.int .i64 0, .bool false, .bool false, .int .i64 0, .int .i64 0, .int .i64 0, .int .i64 0, .int .i64 0, .string ⟨#[]⟩, .string ⟨#[]⟩, .string ⟨#[]⟩, .slice none 0 0, .slice none 0 0, .slice none 0 0, .int .i64 0, .bool false, .int .i64 0, .string ⟨#[]⟩, .int .i64 0, .string ⟨#[]⟩, .int .i64 0, .slice none 0 0, .slice none 0 0] 43) = V := ⟨_, rfl⟩
            rw [hwa] at HGA HB3 HWA ⊢
            clear hg hwa
            have HRW := hid (HRW.out.next (show Below (wd).heap.size wd wa from HWA.out))
            have HRM := hid (HRM.out.next (show Below (wd).heap.size wd wa from HWA.out))
            refine held_call (i := 4) (by kernel_rfl) rfl rfl (by kernel_rfl) (implTake_any x m _ HRW.out HRM.out HKX.out.sm HKM.out.sm HKX.out.sz HKM.out.sz) ?_
            rintro e we ⟨R, hT, u0, u1, u2, u3, u4, rfl, ho, hb⟩
            obtain ⟨b0, d0, rfl⟩ := own_formK ho.o0
            obtain ⟨b1, d1, rfl⟩ := own_formK ho.o1
            obtain ⟨b2, d2, rfl⟩ := own_formK ho.o2
            obtain ⟨b3, d3, rfl⟩ := own_formK ho.o3
            obtain ⟨b4, d4, rfl⟩ := own_formK ho.o4
            have HT := hid hT
            have HO := hid (ho.mono (B' := w26.heap.size) (HB3.out).size)
            have HB4 := hid ((HB3.out).trans (hb.mono (HB3.out).size))
            clear hT ho
            have HGA := hid (hp_next HGA.out hb)
            clear hb
            refine ⟨_, rfl, HS.out _ HB4.out, ?_⟩
            simp only [Act.put, List.getElem_toArray, List.getElem_cons_zero, List.getElem_cons_succ, List.setIfInBounds_toArray, List.set_cons_zero, List.set_cons_succ]
            have HO2 := hid (OwnMs.setRowT HO.out HGA.out #[.int .i64 R.number, .bool R.up, .bool R.has, .int .i64 R.offer.kind, .int .i64 R.offer.to, .int .i64 R.offer.sender, .int .i64 R.offer.epoch, .int .i64 R.offer.edit, .string R.offer.target.name, .string R.offer.target.tool, .string R.offer.target.arg, .slice b0 R.offer.target.ins.length d0, .slice b1 R.offer.target.outs.length d1, .slice b2 R.offer.seen.length d2, .int .i64 R.offer.count, .bool R.offer.turn.over, .int .i64 R.offer.turn.code, .string R.offer.turn.text, .int .i64 R.offer.turn.kind, .string R.offer.turn.name, .int .i64 R.offer.turn.steps, .slice b3 R.offer.turn.files.length d3, .slice b4 R.offer.turn.said.length d4])
            have HSR := hid (setRow_heap we g _ #[.int .i64 R.number, .bool R.up, .bool R.has, .int .i64 R.offer.kind, .int .i64 R.offer.to, .int .i64 R.offer.sender, .int .i64 R.offer.epoch, .int .i64 R.offer.edit, .string R.offer.target.name, .string R.offer.target.tool, .string R.offer.target.arg, .slice b0 R.offer.target.ins.length d0, .slice b1 R.offer.target.outs.length d1, .slice b2 R.offer.seen.length d2, .int .i64 R.offer.count, .bool R.offer.turn.over, .int .i64 R.offer.turn.code, .string R.offer.turn.text, .int .i64 R.offer.turn.kind, .string R.offer.turn.name, .int .i64 R.offer.turn.steps, .slice b3 R.offer.turn.files.length d3, .slice b4 R.offer.turn.said.length d4] _ _ HGA.out)
            have HBL := hid (below_setRow (show Below w26.heap.size w26 we from HB4.out) HGG.out #[.int .i64 R.number, .bool R.up, .bool R.has, .int .i64 R.offer.kind, .int .i64 R.offer.to, .int .i64 R.offer.sender, .int .i64 R.offer.epoch, .int .i64 R.offer.edit, .string R.offer.target.name, .string R.offer.target.tool, .string R.offer.target.arg, .slice b0 R.offer.target.ins.length d0, .slice b1 R.offer.target.outs.length d1, .slice b2 R.offer.seen.length d2, .int .i64 R.offer.count, .bool R.offer.turn.over, .int .i64 R.offer.turn.code, .string R.offer.turn.text, .int .i64 R.offer.turn.kind, .string R.offer.turn.name, .int .i64 R.offer.turn.steps, .slice b3 R.offer.turn.files.length d3, .slice b4 R.offer.turn.said.length d4])
            have HS9 := hid (HS.out _ HBL.out)
            refine held_store_row (i := 6) (by kernel_rfl) rfl rfl 43 _ _ rfl g #[.int .i64 R.number, .bool R.up, .bool R.has, .int .i64 R.offer.kind, .int .i64 R.offer.to, .int .i64 R.offer.sender, .int .i64 R.offer.epoch, .int .i64 R.offer.edit, .string R.offer.target.name, .string R.offer.target.tool, .string R.offer.target.arg, .slice b0 R.offer.target.ins.length d0, .slice b1 R.offer.target.outs.length d1, .slice b2 R.offer.seen.length d2, .int .i64 R.offer.count, .bool R.offer.turn.over, .int .i64 R.offer.turn.code, .string R.offer.turn.text, .int .i64 R.offer.turn.kind, .string R.offer.turn.name, .int .i64 R.offer.turn.steps, .slice b3 R.offer.turn.files.length d3, .slice b4 R.offer.turn.said.length d4] rfl rfl 43 _ (HGA.out) (by kernel_rfl) rfl (by simp [Value.oneCell']) HS9.out ?_
            simp only [Act.put, List.getElem_toArray, List.getElem_cons_zero, List.getElem_cons_succ]
            refine wpAnyH_done (by kernel_rfl) ?_ _
            go_wp2_with fail
            go_meet
            exact ⟨g, R, rfl, HGG.out, HT.out, ⟨b0, d0, b1, d1, b2, d2, b3, d3, b4, d4, HSR.out, HO2.out⟩, HBL.out⟩
        · simp only [Act.put, List.getElem_toArray, List.getElem_cons_zero, List.getElem_cons_succ, List.setIfInBounds_toArray, List.set_cons_zero, List.set_cons_succ]
          have HWA := hid ((Below.refl (wc).heap.size (wc)).alloc (Nat.le_refl _) (.cells #[.int .i64 0, .bool false, .bool false, .int .i64 0, .int .i64 0, .int .i64 0, .int .i64 0, .int .i64 0, .string ⟨#[]⟩, .string ⟨#[]⟩, .string ⟨#[]⟩, .slice none 0 0, .slice none 0 0, .slice none 0 0, .int .i64 0, .bool false, .int .i64 0, .string ⟨#[]⟩, .int .i64 0, .string ⟨#[]⟩, .int .i64 0, .slice none 0 0, .slice none 0 0] 43))
          have HB2 := hid ((show Below w26.heap.size w26 wc from HB1.out).alloc (HB1.out).size (.cells #[.int .i64 0, .bool false, .bool false, .int .i64 0, .int .i64 0, .int .i64 0, .int .i64 0, .int .i64 0, .string ⟨#[]⟩, .string ⟨#[]⟩, .string ⟨#[]⟩, .slice none 0 0, .slice none 0 0, .slice none 0 0, .int .i64 0, .bool false, .int .i64 0, .string ⟨#[]⟩, .int .i64 0, .string ⟨#[]⟩, .int .i64 0, .slice none 0 0, .slice none 0 0] 43))
          have HGA := hid (heap_alloc_new wc (.cells #[.int .i64 0, .bool false, .bool false, .int .i64 0, .int .i64 0, .int .i64 0, .int .i64 0, .int .i64 0, .string ⟨#[]⟩, .string ⟨#[]⟩, .string ⟨#[]⟩, .slice none 0 0, .slice none 0 0, .slice none 0 0, .int .i64 0, .bool false, .int .i64 0, .string ⟨#[]⟩, .int .i64 0, .string ⟨#[]⟩, .int .i64 0, .slice none 0 0, .slice none 0 0] 43))
          obtain ⟨g, hg⟩ : ∃ g, (wc).heap.size = g := ⟨_, rfl⟩
          have HGG : Hid (w26.heap.size ≤ g) := hid (by rw [← hg]; exact (HB1.out).size)
          rw [hg] at HGA ⊢
          obtain ⟨wa, hwa⟩ : ∃ V, (wc).alloc (.cells #[.int .i64 0, .bool false, .bool false, .int .i64 0, .int .i64 0, .int .i64 0, .int .i64 0, .int .i64 0, .string ⟨#[]⟩, .string ⟨#[]⟩, .string ⟨#[]⟩, .slice none 0 0, .slice none 0 0, .slice none 0 0, .int .i64 0, .bool false, .int .i64 0, .string ⟨#[]⟩, .int .i64 0, .string ⟨#[]⟩, .int .i64 0, .slice none 0 0, .slice none 0 0] 43) = V := ⟨_, rfl⟩
          rw [hwa] at HGA HB2 HWA ⊢
          clear hg hwa
          have HRW := hid (HRW.out.next (show Below (wc).heap.size wc wa from HWA.out))
          refine held_call (i := 3) (by kernel_rfl) rfl rfl (by kernel_rfl) (toMs_any m _ HKM.out.lo (N0.out.next (HXV.out.next HB2.out).lo) (N1.out.next (HXV.out.next HB2.out).lo) (N2.out.next (HXV.out.next HB2.out).lo) (N3.out.next (HXV.out.next HB2.out).lo) (N4.out.next (HXV.out.next HB2.out).lo)) ?_
          rintro e wd ⟨u0, u1, u2, u3, u4, rfl, r0, r1, r2, r3, r4, hb⟩
          obtain ⟨s0, q0⟩ := r0.sl
          obtain ⟨s1, q1⟩ := r1.sl
          obtain ⟨s2, q2⟩ := r2.sl
          obtain ⟨s3, q3⟩ := r3.sl
          obtain ⟨s4, q4⟩ := r4.sl
          have HRM := hid (RdMs.ofR r0 r1 r2 r3 r4)
          subst q0 q1 q2 q3 q4
          clear r0 r1 r2 r3 r4
          have HRW := hid (HRW.out.next hb)
          have HB3 := hid ((HB2.out).trans (hb.mono (HB2.out).size))
          have HGA := hid (hp_next HGA.out hb)
          clear hb
          refine ⟨_, rfl, HS.out _ HB3.out, ?_⟩
          simp only [Act.put, List.getElem_toArray, List.getElem_cons_zero, List.getElem_cons_succ, List.setIfInBounds_toArray, List.set_cons_zero, List.set_cons_succ]
          refine held_call (i := 4) (by kernel_rfl) rfl rfl (by kernel_rfl) (implTake_any x m _ HRW.out HRM.out HKX.out.sm HKM.out.sm HKX.out.sz HKM.out.sz) ?_
          rintro e we ⟨R, hT, u0, u1, u2, u3, u4, rfl, ho, hb⟩
          obtain ⟨b0, d0, rfl⟩ := own_formK ho.o0
          obtain ⟨b1, d1, rfl⟩ := own_formK ho.o1
          obtain ⟨b2, d2, rfl⟩ := own_formK ho.o2
          obtain ⟨b3, d3, rfl⟩ := own_formK ho.o3
          obtain ⟨b4, d4, rfl⟩ := own_formK ho.o4
          have HT := hid hT
          have HO := hid (ho.mono (B' := w26.heap.size) (HB3.out).size)
          have HB4 := hid ((HB3.out).trans (hb.mono (HB3.out).size))
          clear hT ho
          have HGA := hid (hp_next HGA.out hb)
          clear hb
          refine ⟨_, rfl, HS.out _ HB4.out, ?_⟩
          simp only [Act.put, List.getElem_toArray, List.getElem_cons_zero, List.getElem_cons_succ, List.setIfInBounds_toArray, List.set_cons_zero, List.set_cons_succ]
          have HO2 := hid (OwnMs.setRowT HO.out HGA.out #[.int .i64 R.number, .bool R.up, .bool R.has, .int .i64 R.offer.kind, .int .i64 R.offer.to, .int .i64 R.offer.sender, .int .i64 R.offer.epoch, .int .i64 R.offer.edit, .string R.offer.target.name, .string R.offer.target.tool, .string R.offer.target.arg, .slice b0 R.offer.target.ins.length d0, .slice b1 R.offer.target.outs.length d1, .slice b2 R.offer.seen.length d2, .int .i64 R.offer.count, .bool R.offer.turn.over, .int .i64 R.offer.turn.code, .string R.offer.turn.text, .int .i64 R.offer.turn.kind, .string R.offer.turn.name, .int .i64 R.offer.turn.steps, .slice b3 R.offer.turn.files.length d3, .slice b4 R.offer.turn.said.length d4])
          have HSR := hid (setRow_heap we g _ #[.int .i64 R.number, .bool R.up, .bool R.has, .int .i64 R.offer.kind, .int .i64 R.offer.to, .int .i64 R.offer.sender, .int .i64 R.offer.epoch, .int .i64 R.offer.edit, .string R.offer.target.name, .string R.offer.target.tool, .string R.offer.target.arg, .slice b0 R.offer.target.ins.length d0, .slice b1 R.offer.target.outs.length d1, .slice b2 R.offer.seen.length d2, .int .i64 R.offer.count, .bool R.offer.turn.over, .int .i64 R.offer.turn.code, .string R.offer.turn.text, .int .i64 R.offer.turn.kind, .string R.offer.turn.name, .int .i64 R.offer.turn.steps, .slice b3 R.offer.turn.files.length d3, .slice b4 R.offer.turn.said.length d4] _ _ HGA.out)
          have HBL := hid (below_setRow (show Below w26.heap.size w26 we from HB4.out) HGG.out #[.int .i64 R.number, .bool R.up, .bool R.has, .int .i64 R.offer.kind, .int .i64 R.offer.to, .int .i64 R.offer.sender, .int .i64 R.offer.epoch, .int .i64 R.offer.edit, .string R.offer.target.name, .string R.offer.target.tool, .string R.offer.target.arg, .slice b0 R.offer.target.ins.length d0, .slice b1 R.offer.target.outs.length d1, .slice b2 R.offer.seen.length d2, .int .i64 R.offer.count, .bool R.offer.turn.over, .int .i64 R.offer.turn.code, .string R.offer.turn.text, .int .i64 R.offer.turn.kind, .string R.offer.turn.name, .int .i64 R.offer.turn.steps, .slice b3 R.offer.turn.files.length d3, .slice b4 R.offer.turn.said.length d4])
          have HS9 := hid (HS.out _ HBL.out)
          refine held_store_row (i := 6) (by kernel_rfl) rfl rfl 43 _ _ rfl g #[.int .i64 R.number, .bool R.up, .bool R.has, .int .i64 R.offer.kind, .int .i64 R.offer.to, .int .i64 R.offer.sender, .int .i64 R.offer.epoch, .int .i64 R.offer.edit, .string R.offer.target.name, .string R.offer.target.tool, .string R.offer.target.arg, .slice b0 R.offer.target.ins.length d0, .slice b1 R.offer.target.outs.length d1, .slice b2 R.offer.seen.length d2, .int .i64 R.offer.count, .bool R.offer.turn.over, .int .i64 R.offer.turn.code, .string R.offer.turn.text, .int .i64 R.offer.turn.kind, .string R.offer.turn.name, .int .i64 R.offer.turn.steps, .slice b3 R.offer.turn.files.length d3, .slice b4 R.offer.turn.said.length d4] rfl rfl 43 _ (HGA.out) (by kernel_rfl) rfl (by simp [Value.oneCell']) HS9.out ?_
          simp only [Act.put, List.getElem_toArray, List.getElem_cons_zero, List.getElem_cons_succ]
          refine wpAnyH_done (by kernel_rfl) ?_ _
          go_wp2_with fail
          go_meet
          exact ⟨g, R, rfl, HGG.out, HT.out, ⟨b0, d0, b1, d1, b2, d2, b3, d3, b4, d4, HSR.out, HO2.out⟩, HBL.out⟩
      · simp only [Act.put, List.getElem_toArray, List.getElem_cons_zero, List.getElem_cons_succ, List.setIfInBounds_toArray, List.set_cons_zero, List.set_cons_succ]
        have HWA := hid ((Below.refl (w26.drew).heap.size (w26.drew)).alloc (Nat.le_refl _) (.cells #[.int .i64 0, .bool false, .bool false, .int .i64 0, .int .i64 0, .int .i64 0, .int .i64 0, .int .i64 0, .string ⟨#[]⟩, .string ⟨#[]⟩, .string ⟨#[]⟩, .slice none 0 0, .slice none 0 0, .slice none 0 0, .int .i64 0, .bool false, .int .i64 0, .string ⟨#[]⟩, .int .i64 0, .string ⟨#[]⟩, .int .i64 0, .slice none 0 0, .slice none 0 0] 43))
        have HB1 := hid ((show Below w26.heap.size w26 w26.drew from HB.out).alloc (HB.out).size (.cells #[.int .i64 0, .bool false, .bool false, .int .i64 0, .int .i64 0, .int .i64 0, .int .i64 0, .int .i64 0, .string ⟨#[]⟩, .string ⟨#[]⟩, .string ⟨#[]⟩, .slice none 0 0, .slice none 0 0, .slice none 0 0, .int .i64 0, .bool false, .int .i64 0, .string ⟨#[]⟩, .int .i64 0, .string ⟨#[]⟩, .int .i64 0, .slice none 0 0, .slice none 0 0] 43))
        have HGA := hid (heap_alloc_new w26.drew (.cells #[.int .i64 0, .bool false, .bool false, .int .i64 0, .int .i64 0, .int .i64 0, .int .i64 0, .int .i64 0, .string ⟨#[]⟩, .string ⟨#[]⟩, .string ⟨#[]⟩, .slice none 0 0, .slice none 0 0, .slice none 0 0, .int .i64 0, .bool false, .int .i64 0, .string ⟨#[]⟩, .int .i64 0, .string ⟨#[]⟩, .int .i64 0, .slice none 0 0, .slice none 0 0] 43))
        obtain ⟨g, hg⟩ : ∃ g, (w26.drew).heap.size = g := ⟨_, rfl⟩
        have HGG : Hid (w26.heap.size ≤ g) := hid (by rw [← hg]; exact (HB.out).size)
        rw [hg] at HGA ⊢
        obtain ⟨wa, hwa⟩ : ∃ V, (w26.drew).alloc (.cells #[.int .i64 0, .bool false, .bool false, .int .i64 0, .int .i64 0, .int .i64 0, .int .i64 0, .int .i64 0, .string ⟨#[]⟩, .string ⟨#[]⟩, .string ⟨#[]⟩, .slice none 0 0, .slice none 0 0, .slice none 0 0, .int .i64 0, .bool false, .int .i64 0, .string ⟨#[]⟩, .int .i64 0, .string ⟨#[]⟩, .int .i64 0, .slice none 0 0, .slice none 0 0] 43) = V := ⟨_, rfl⟩
        rw [hwa] at HGA HB1 HWA ⊢
        clear hg hwa
        refine held_call (i := 1) (by kernel_rfl) rfl rfl (by kernel_rfl) (toWk_any x _ HKX.out.lo (K0.out.next (HXV.out.next HB1.out).lo) (K1.out.next (HXV.out.next HB1.out).lo) (K2.out.next (HXV.out.next HB1.out).lo) (K3.out.next (HXV.out.next HB1.out).lo) (K4.out.next (HXV.out.next HB1.out).lo)) ?_
        rintro e wc ⟨u0, u1, u2, u3, u4, rfl, r0, r1, r2, r3, r4, hb⟩
        obtain ⟨p0, q0⟩ := r0.sl
        obtain ⟨p1, q1⟩ := r1.sl
        obtain ⟨p2, q2⟩ := r2.sl
        obtain ⟨p3, q3⟩ := r3.sl
        obtain ⟨p4, q4⟩ := r4.sl
        have HRW0 := hid (RdMs.ofR r0 r1 r2 r3 r4)
        subst q0 q1 q2 q3 q4
        have HRW := hid HRW0.out
        clear r0 r1 r2 r3 r4 HRW0
        have HB2 := hid ((HB1.out).trans (hb.mono (HB1.out).size))
        have HGA := hid (hp_next HGA.out hb)
        clear hb
        refine ⟨_, rfl, HS.out _ HB2.out, ?_⟩
        simp only [Act.put, List.getElem_toArray, List.getElem_cons_zero, List.getElem_cons_succ, List.setIfInBounds_toArray, List.set_cons_zero, List.set_cons_succ]
        refine held_call (i := 3) (by kernel_rfl) rfl rfl (by kernel_rfl) (toMs_any m _ HKM.out.lo (N0.out.next (HXV.out.next HB2.out).lo) (N1.out.next (HXV.out.next HB2.out).lo) (N2.out.next (HXV.out.next HB2.out).lo) (N3.out.next (HXV.out.next HB2.out).lo) (N4.out.next (HXV.out.next HB2.out).lo)) ?_
        rintro e wd ⟨u0, u1, u2, u3, u4, rfl, r0, r1, r2, r3, r4, hb⟩
        obtain ⟨s0, q0⟩ := r0.sl
        obtain ⟨s1, q1⟩ := r1.sl
        obtain ⟨s2, q2⟩ := r2.sl
        obtain ⟨s3, q3⟩ := r3.sl
        obtain ⟨s4, q4⟩ := r4.sl
        have HRM := hid (RdMs.ofR r0 r1 r2 r3 r4)
        subst q0 q1 q2 q3 q4
        clear r0 r1 r2 r3 r4
        have HRW := hid (HRW.out.next hb)
        have HB3 := hid ((HB2.out).trans (hb.mono (HB2.out).size))
        have HGA := hid (hp_next HGA.out hb)
        clear hb
        refine ⟨_, rfl, HS.out _ HB3.out, ?_⟩
        simp only [Act.put, List.getElem_toArray, List.getElem_cons_zero, List.getElem_cons_succ, List.setIfInBounds_toArray, List.set_cons_zero, List.set_cons_succ]
        refine held_call (i := 4) (by kernel_rfl) rfl rfl (by kernel_rfl) (implTake_any x m _ HRW.out HRM.out HKX.out.sm HKM.out.sm HKX.out.sz HKM.out.sz) ?_
        rintro e we ⟨R, hT, u0, u1, u2, u3, u4, rfl, ho, hb⟩
        obtain ⟨b0, d0, rfl⟩ := own_formK ho.o0
        obtain ⟨b1, d1, rfl⟩ := own_formK ho.o1
        obtain ⟨b2, d2, rfl⟩ := own_formK ho.o2
        obtain ⟨b3, d3, rfl⟩ := own_formK ho.o3
        obtain ⟨b4, d4, rfl⟩ := own_formK ho.o4
        have HT := hid hT
        have HO := hid (ho.mono (B' := w26.heap.size) (HB3.out).size)
        have HB4 := hid ((HB3.out).trans (hb.mono (HB3.out).size))
        clear hT ho
        have HGA := hid (hp_next HGA.out hb)
        clear hb
        refine ⟨_, rfl, HS.out _ HB4.out, ?_⟩
        simp only [Act.put, List.getElem_toArray, List.getElem_cons_zero, List.getElem_cons_succ, List.setIfInBounds_toArray, List.set_cons_zero, List.set_cons_succ]
        have HO2 := hid (OwnMs.setRowT HO.out HGA.out #[.int .i64 R.number, .bool R.up, .bool R.has, .int .i64 R.offer.kind, .int .i64 R.offer.to, .int .i64 R.offer.sender, .int .i64 R.offer.epoch, .int .i64 R.offer.edit, .string R.offer.target.name, .string R.offer.target.tool, .string R.offer.target.arg, .slice b0 R.offer.target.ins.length d0, .slice b1 R.offer.target.outs.length d1, .slice b2 R.offer.seen.length d2, .int .i64 R.offer.count, .bool R.offer.turn.over, .int .i64 R.offer.turn.code, .string R.offer.turn.text, .int .i64 R.offer.turn.kind, .string R.offer.turn.name, .int .i64 R.offer.turn.steps, .slice b3 R.offer.turn.files.length d3, .slice b4 R.offer.turn.said.length d4])
        have HSR := hid (setRow_heap we g _ #[.int .i64 R.number, .bool R.up, .bool R.has, .int .i64 R.offer.kind, .int .i64 R.offer.to, .int .i64 R.offer.sender, .int .i64 R.offer.epoch, .int .i64 R.offer.edit, .string R.offer.target.name, .string R.offer.target.tool, .string R.offer.target.arg, .slice b0 R.offer.target.ins.length d0, .slice b1 R.offer.target.outs.length d1, .slice b2 R.offer.seen.length d2, .int .i64 R.offer.count, .bool R.offer.turn.over, .int .i64 R.offer.turn.code, .string R.offer.turn.text, .int .i64 R.offer.turn.kind, .string R.offer.turn.name, .int .i64 R.offer.turn.steps, .slice b3 R.offer.turn.files.length d3, .slice b4 R.offer.turn.said.length d4] _ _ HGA.out)
        have HBL := hid (below_setRow (show Below w26.heap.size w26 we from HB4.out) HGG.out #[.int .i64 R.number, .bool R.up, .bool R.has, .int .i64 R.offer.kind, .int .i64 R.offer.to, .int .i64 R.offer.sender, .int .i64 R.offer.epoch, .int .i64 R.offer.edit, .string R.offer.target.name, .string R.offer.target.tool, .string R.offer.target.arg, .slice b0 R.offer.target.ins.length d0, .slice b1 R.offer.target.outs.length d1, .slice b2 R.offer.seen.length d2, .int .i64 R.offer.count, .bool R.offer.turn.over, .int .i64 R.offer.turn.code, .string R.offer.turn.text, .int .i64 R.offer.turn.kind, .string R.offer.turn.name, .int .i64 R.offer.turn.steps, .slice b3 R.offer.turn.files.length d3, .slice b4 R.offer.turn.said.length d4])
        have HS9 := hid (HS.out _ HBL.out)
        refine held_store_row (i := 6) (by kernel_rfl) rfl rfl 43 _ _ rfl g #[.int .i64 R.number, .bool R.up, .bool R.has, .int .i64 R.offer.kind, .int .i64 R.offer.to, .int .i64 R.offer.sender, .int .i64 R.offer.epoch, .int .i64 R.offer.edit, .string R.offer.target.name, .string R.offer.target.tool, .string R.offer.target.arg, .slice b0 R.offer.target.ins.length d0, .slice b1 R.offer.target.outs.length d1, .slice b2 R.offer.seen.length d2, .int .i64 R.offer.count, .bool R.offer.turn.over, .int .i64 R.offer.turn.code, .string R.offer.turn.text, .int .i64 R.offer.turn.kind, .string R.offer.turn.name, .int .i64 R.offer.turn.steps, .slice b3 R.offer.turn.files.length d3, .slice b4 R.offer.turn.said.length d4] rfl rfl 43 _ (HGA.out) (by kernel_rfl) rfl (by simp [Value.oneCell']) HS9.out ?_
        simp only [Act.put, List.getElem_toArray, List.getElem_cons_zero, List.getElem_cons_succ]
        refine wpAnyH_done (by kernel_rfl) ?_ _
        go_wp2_with fail
        go_meet
        exact ⟨g, R, rfl, HGG.out, HT.out, ⟨b0, d0, b1, d1, b2, d2, b3, d3, b4, d4, HSR.out, HO2.out⟩, HBL.out⟩
    case rest =>
      obtain ⟨g9, S, rfl, hg, hT, ⟨y5, z5, y6, z6, y7, z7, y8, z8, y9, z9, hgc, ho⟩, hb⟩ := hcut
      obtain ⟨w31, hw31⟩ : ∃ W', wc = W' := ⟨_, rfl⟩
      rw [hw31] at hgc ho hb ⊢
      obtain rfl := (take_same HT.out hT).symm
      have B8_N := hid (B8_M.out.trans (hb.mono B8_M.out.size))
      have BL_N := hid (BL_M.out.trans (hb.mono BL_M.out.size))
      have HG4 := hid hgc
      have HR4 := hid ho.rd
      clear hw31 hg hT hgc ho hb B8_M BL_M
      go_wp2_with (first | (refine wpList_load_row rfl 43 _ rfl (g9) rfl 43 #[.int .i64 R.number, .bool R.up, .bool R.has, .int .i64 R.offer.kind, .int .i64 R.offer.to, .int .i64 R.offer.sender, .int .i64 R.offer.epoch, .int .i64 R.offer.edit, .string R.offer.target.name, .string R.offer.target.tool, .string R.offer.target.arg, .slice y5 R.offer.target.ins.length z5, .slice y6 R.offer.target.outs.length z6, .slice y7 R.offer.seen.length z7, .int .i64 R.offer.count, .bool R.offer.turn.over, .int .i64 R.offer.turn.code, .string R.offer.turn.text, .int .i64 R.offer.turn.kind, .string R.offer.turn.name, .int .i64 R.offer.turn.steps, .slice y8 R.offer.turn.files.length z8, .slice y9 R.offer.turn.said.length z9] (0, 0) _ HG4.out Tryz.underlying43 rfl (by kernel_rfl) ?_) | (refine wpList_load_row rfl 43 _ rfl (g8) rfl 43 #[.int .i64 R.number, .bool R.up, .bool R.has, .int .i64 R.offer.kind, .int .i64 R.offer.to, .int .i64 R.offer.sender, .int .i64 R.offer.epoch, .int .i64 R.offer.edit, .string R.offer.target.name, .string R.offer.target.tool, .string R.offer.target.arg, .slice y0 R.offer.target.ins.length z0, .slice y1 R.offer.target.outs.length z1, .slice y2 R.offer.seen.length z2, .int .i64 R.offer.count, .bool R.offer.turn.over, .int .i64 R.offer.turn.code, .string R.offer.turn.text, .int .i64 R.offer.turn.kind, .string R.offer.turn.name, .int .i64 R.offer.turn.steps, .slice y3 R.offer.turn.files.length z3, .slice y4 R.offer.turn.said.length z4] (0, 0) _ (hp_next HG8.out B8_N.out) Tryz.underlying43 rfl (by kernel_rfl) ?_))
      refine (eqWk_any R w31 HKR.out.lo (HR4.out).r0 (HR8.out.next B8_N.out).r0 (HR4.out).r1 (HR8.out.next B8_N.out).r1 (HR4.out).r2 (HR8.out.next B8_N.out).r2 (HR4.out).r3 (HR8.out.next B8_N.out).r3 (HR4.out).r4 (HR8.out.next B8_N.out).r4).mono ?_
      rintro e w32 ⟨rfl, hb⟩
      have B8_O := hid (B8_N.out.trans (hb.mono B8_N.out.size))
      have BL_O := hid (BL_N.out.trans (hb.mono BL_N.out.size))
      clear hb B8_N BL_N
      go_upto_region 35 with fail
      go_wp2_with (first | (refine wpList_load_row rfl 43 _ rfl (wD.heap.size) rfl 43 #[.int .i64 R.number, .bool R.up, .bool R.has, .int .i64 R.offer.kind, .int .i64 R.offer.to, .int .i64 R.offer.sender, .int .i64 R.offer.epoch, .int .i64 R.offer.edit, .string R.offer.target.name, .string R.offer.target.tool, .string R.offer.target.arg, .slice s0 R.offer.target.ins.length t0, .slice s1 R.offer.target.outs.length t1, .slice s2 R.offer.seen.length t2, .int .i64 R.offer.count, .bool R.offer.turn.over, .int .i64 R.offer.turn.code, .string R.offer.turn.text, .int .i64 R.offer.turn.kind, .string R.offer.turn.name, .int .i64 R.offer.turn.steps, .slice s3 R.offer.turn.files.length t3, .slice s4 R.offer.turn.said.length t4] (0, 0) _ (hp_next HG3.out BL_O.out) Tryz.underlying43 rfl (by kernel_rfl) ?_))
      refine (heldWk_k R (K := 1) w32 (HMV.out.1.next BL_O.out) (HMV.out.2.1.next BL_O.out) (HMV.out.2.2.1.next BL_O.out) (HMV.out.2.2.2.1.next BL_O.out) (HMV.out.2.2.2.2.next BL_O.out) HKR.out.ln.n0 HKR.out.ln.n1 HKR.out.ln.n2 HKR.out.ln.n3 HKR.out.ln.n4 (by omega) q1 q2 q3 q4 q5 hkr3).mono ?_
      rintro e w35 ⟨rfl, hb⟩
      have B8_P := hid (B8_O.out.trans (hb.mono B8_O.out.size))
      have BL_P := hid (BL_O.out.trans (hb.mono BL_O.out.size))
      clear hb B8_O BL_O
      go_wp2
      go_ret
      exact ⟨rfl, (HX8.out.next B8_P.out).lo⟩
end Go.Proofs.YtlopcjhipajdcaaGreatDoor.Y
