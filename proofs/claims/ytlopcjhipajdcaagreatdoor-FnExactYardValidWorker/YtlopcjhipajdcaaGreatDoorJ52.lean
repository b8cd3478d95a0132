import Derived.Deep.RegionHeld3
import Derived.Laws.CopyOwn
import Derived.Test.YtlopcjhipajdcaaGreatDoorJ49
import Derived.Test.YtlopcjhipajdcaaGreatDoorJ50
import Derived.Test.YtlopcjhipajdcaaGreatDoorJ36
import Derived.Test.YtlopcjhipajdcaaGreatDoorJ51
/-! The law of YardValidWorker. Printed by gen_ylaw.py. -/
namespace Go.Proofs.YtlopcjhipajdcaaGreatDoor.Y
open Go.RowKit R
open Go.Proofs.YtlopcjhipajdcaaGreatDoor.J (FileOk BegOk RepOk ltB Says says_t says_f)
set_option maxRecDepth 20000
theorem says_val {b c : Bool} {P : Prop} (h : b = true ↔ P) (h' : c = true ↔ P) : b = c := by rw [Bool.eq_iff_iff]; exact h.trans h'.symm
set_option maxHeartbeats 16000000 in
theorem law_validW (x : Wk) {v0 v1 v2 v3 v4 : Value} (w : World) (hO : OkWk x) (k0 : SStrA w v0 x.offer.target.ins) (k1 : SStrA w v1 x.offer.target.outs) (k2 : SSnA w v2 x.offer.seen) (k3 : SFlA w v3 x.offer.turn.files) (k4 : SStrA w v4 x.offer.turn.said) :
    Calls Tryz.prog 3 #[.agg #[.int .i64 x.number, .bool x.up, .bool x.has, .int .i64 x.offer.kind, .int .i64 x.offer.to, .int .i64 x.offer.sender, .int .i64 x.offer.epoch, .int .i64 x.offer.edit, .string x.offer.target.name, .string x.offer.target.tool, .string x.offer.target.arg, v0, v1, v2, .int .i64 x.offer.count, .bool x.offer.turn.over, .int .i64 x.offer.turn.code, .string x.offer.turn.text, .int .i64 x.offer.turn.kind, .string x.offer.turn.name, .int .i64 x.offer.turn.steps, v3, v4]] w fun e w' => e = .returned (.bool true) ∧ Below w.heap.size w w' := by
  have HO := hid hO
  clear hO
  have K0 := hid k0
  obtain ⟨ad0, cp0, rfl⟩ := k0.sl
  have K1 := hid k1
  obtain ⟨ad1, cp1, rfl⟩ := k1.sl
  have K2 := hid k2
  obtain ⟨ad2, cp2, rfl⟩ := k2.sl
  have K3 := hid k3
  obtain ⟨ad3, cp3, rfl⟩ := k3.sl
  have K4 := hid k4
  obtain ⟨ad4, cp4, rfl⟩ := k4.sl
  clear k0 k1 k2 k3 k4
  have HX0 := hid (B1.start w (.cells #[.int .i64 x.number, .bool x.up, .bool x.has, .int .i64 x.offer.kind, .int .i64 x.offer.to, .int .i64 x.offer.sender, .int .i64 x.offer.epoch, .int .i64 x.offer.edit, .string x.offer.target.name, .string x.offer.target.tool, .string x.offer.target.arg, .slice ad0 x.offer.target.ins.length cp0, .slice ad1 x.offer.target.outs.length cp1, .slice ad2 x.offer.seen.length cp2, .int .i64 x.offer.count, .bool x.offer.turn.over, .int .i64 x.offer.turn.code, .string x.offer.turn.text, .int .i64 x.offer.turn.kind, .string x.offer.turn.name, .int .i64 x.offer.turn.steps, .slice ad3 x.offer.turn.files.length cp3, .slice ad4 x.offer.turn.said.length cp4] 32))
  obtain ⟨w0, hW0⟩ : ∃ W, w.alloc (.cells #[.int .i64 x.number, .bool x.up, .bool x.has, .int .i64 x.offer.kind, .int .i64 x.offer.to, .int .i64 x.offer.sender, .int .i64 x.offer.epoch, .int .i64 x.offer.edit, .string x.offer.target.name, .string x.offer.target.tool, .string x.offer.target.arg, .slice ad0 x.offer.target.ins.length cp0, .slice ad1 x.offer.target.outs.length cp1, .slice ad2 x.offer.seen.length cp2, .int .i64 x.offer.count, .bool x.offer.turn.over, .int .i64 x.offer.turn.code, .string x.offer.turn.text, .int .i64 x.offer.turn.kind, .string x.offer.turn.name, .int .i64 x.offer.turn.steps, .slice ad3 x.offer.turn.files.length cp3, .slice ad4 x.offer.turn.said.length cp4] 32) = W := ⟨_, rfl⟩
  rw [hW0] at HX0
  have N0 := hid HX0.out.lo
  go_enter Tryz.func3, Tryz.ntmps3
  go_upto_region 2 with fail
  clear hW0
  go_wp2_with (first | (refine wpList_load_row rfl 32 _ rfl (w.heap.size) rfl 32 #[.int .i64 x.number, .bool x.up, .bool x.has, .int .i64 x.offer.kind, .int .i64 x.offer.to, .int .i64 x.offer.sender, .int .i64 x.offer.epoch, .int .i64 x.offer.edit, .string x.offer.target.name, .string x.offer.target.tool, .string x.offer.target.arg, .slice ad0 x.offer.target.ins.length cp0, .slice ad1 x.offer.target.outs.length cp1, .slice ad2 x.offer.seen.length cp2, .int .i64 x.offer.count, .bool x.offer.turn.over, .int .i64 x.offer.turn.code, .string x.offer.turn.text, .int .i64 x.offer.turn.kind, .string x.offer.turn.name, .int .i64 x.offer.turn.steps, .slice ad3 x.offer.turn.files.length cp3, .slice ad4 x.offer.turn.said.length cp4] (0, 0) _ HX0.out.e Tryz.underlying32 rfl (by kernel_rfl) ?_))
  refine (szWk_any x 1048576 w0 (by omega) (by omega) HO.out (K0.out.next N0.out) (K1.out.next N0.out) (K2.out.next N0.out) (K3.out.next N0.out) (K4.out.next N0.out)).mono ?_
  rintro e w1 ⟨⟨r, rfl, _, _, h3⟩, hb⟩
  have HX1 := hid (HX0.out.next hb)
  have N1 := hid (N0.out.trans (hb.mono N0.out.size))
  have H3 := hid h3
  clear hb h3
  by_cases hr : r < 0
  · go_wp2
    go_ret
    exact ⟨rfl, HX1.out.lo⟩
  have HWT : Hid (wWk x ≤ 1048576) := by
    have h9 := H3.out (by omega)
    show _ ≤ _
    omega
  have HLO := hid (loWk_of HWT.out)
  have HSM := hid (smMs_of HWT.out)
  clear H3
  go_wp2_with (first | (refine wpList_load_row rfl 32 _ rfl (w.heap.size) rfl 32 #[.int .i64 x.number, .bool x.up, .bool x.has, .int .i64 x.offer.kind, .int .i64 x.offer.to, .int .i64 x.offer.sender, .int .i64 x.offer.epoch, .int .i64 x.offer.edit, .string x.offer.target.name, .string x.offer.target.tool, .string x.offer.target.arg, .slice ad0 x.offer.target.ins.length cp0, .slice ad1 x.offer.target.outs.length cp1, .slice ad2 x.offer.seen.length cp2, .int .i64 x.offer.count, .bool x.offer.turn.over, .int .i64 x.offer.turn.code, .string x.offer.turn.text, .int .i64 x.offer.turn.kind, .string x.offer.turn.name, .int .i64 x.offer.turn.steps, .slice ad3 x.offer.turn.files.length cp3, .slice ad4 x.offer.turn.said.length cp4] (0, 0) _ HX1.out.e Tryz.underlying32 rfl (by kernel_rfl) ?_))
  refine (toWk_any x w1 HLO.out (K0.out.next N1.out) (K1.out.next N1.out) (K2.out.next N1.out) (K3.out.next N1.out) (K4.out.next N1.out)).mono ?_
  rintro e w2 ⟨u0, u1, u2, u3, u4, rfl, r0, r1, r2, r3, r4, hb⟩
  have R20 := hid (r0.mono (B' := 0) (Nat.zero_le _))
  obtain ⟨g20, rfl⟩ := r0.sl
  clear r0
  have R21 := hid (r1.mono (B' := 0) (Nat.zero_le _))
  obtain ⟨g21, rfl⟩ := r1.sl
  clear r1
  have R22 := hid (r2.mono (B' := 0) (Nat.zero_le _))
  obtain ⟨g22, rfl⟩ := r2.sl
  clear r2
  have R23 := hid (r3.mono (B' := 0) (Nat.zero_le _))
  obtain ⟨g23, rfl⟩ := r3.sl
  clear r3
  have R24 := hid (r4.mono (B' := 0) (Nat.zero_le _))
  obtain ⟨g24, rfl⟩ := r4.sl
  clear r4
  have HX2 := hid (HX1.out.next hb)
  have N2 := hid (N1.out.trans (hb.mono N1.out.size))
  clear hb
  go_wp2_with fail
  refine (specW_any x w2 HSM.out (aStr R20.out) (aStr R21.out) (aSn R22.out) (aFl R23.out) (aStr R24.out)).mono ?_
  rintro e w3 ⟨⟨b3, rfl, hv3⟩, hb⟩
  have HX3 := hid (HX2.out.next hb)
  have N3 := hid (N2.out.trans (hb.mono N2.out.size))
  have HV3 := hid hv3
  clear hb hv3
  go_wp2_with (first | (refine wpList_load_row rfl 32 _ rfl (w.heap.size) rfl 32 #[.int .i64 x.number, .bool x.up, .bool x.has, .int .i64 x.offer.kind, .int .i64 x.offer.to, .int .i64 x.offer.sender, .int .i64 x.offer.epoch, .int .i64 x.offer.edit, .string x.offer.target.name, .string x.offer.target.tool, .string x.offer.target.arg, .slice ad0 x.offer.target.ins.length cp0, .slice ad1 x.offer.target.outs.length cp1, .slice ad2 x.offer.seen.length cp2, .int .i64 x.offer.count, .bool x.offer.turn.over, .int .i64 x.offer.turn.code, .string x.offer.turn.text, .int .i64 x.offer.turn.kind, .string x.offer.turn.name, .int .i64 x.offer.turn.steps, .slice ad3 x.offer.turn.files.length cp3, .slice ad4 x.offer.turn.said.length cp4] (0, 0) _ HX3.out.e Tryz.underlying32 rfl (by kernel_rfl) ?_))
  refine (toWk_any x w3 HLO.out (K0.out.next N3.out) (K1.out.next N3.out) (K2.out.next N3.out) (K3.out.next N3.out) (K4.out.next N3.out)).mono ?_
  rintro e w4 ⟨u0, u1, u2, u3, u4, rfl, r0, r1, r2, r3, r4, hb⟩
  have R40 := hid (r0.mono (B' := 0) (Nat.zero_le _))
  obtain ⟨g40, rfl⟩ := r0.sl
  clear r0
  have R41 := hid (r1.mono (B' := 0) (Nat.zero_le _))
  obtain ⟨g41, rfl⟩ := r1.sl
  clear r1
  have R42 := hid (r2.mono (B' := 0) (Nat.zero_le _))
  obtain ⟨g42, rfl⟩ := r2.sl
  clear r2
  have R43 := hid (r3.mono (B' := 0) (Nat.zero_le _))
  obtain ⟨g43, rfl⟩ := r3.sl
  clear r3
  have R44 := hid (r4.mono (B' := 0) (Nat.zero_le _))
  obtain ⟨g44, rfl⟩ := r4.sl
  clear r4
  have HX4 := hid (HX3.out.next hb)
  have N4 := hid (N3.out.trans (hb.mono N3.out.size))
  clear hb
  have HZ := hid (B1.start w4 (.cells #[.int .i64 0, .bool false, .bool false, .int .i64 0, .int .i64 0, .int .i64 0, .int .i64 0, .int .i64 0, .string ⟨#[]⟩, .string ⟨#[]⟩, .string ⟨#[]⟩, .slice none 0 0, .slice none 0 0, .slice none 0 0, .int .i64 0, .bool false, .int .i64 0, .string ⟨#[]⟩, .int .i64 0, .string ⟨#[]⟩, .int .i64 0, .slice none 0 0, .slice none 0 0] 43))
  have HSR := hid (setRow_heap (w4.alloc (.cells #[.int .i64 0, .bool false, .bool false, .int .i64 0, .int .i64 0, .int .i64 0, .int .i64 0, .int .i64 0, .string ⟨#[]⟩, .string ⟨#[]⟩, .string ⟨#[]⟩, .slice none 0 0, .slice none 0 0, .slice none 0 0, .int .i64 0, .bool false, .int .i64 0, .string ⟨#[]⟩, .int .i64 0, .string ⟨#[]⟩, .int .i64 0, .slice none 0 0, .slice none 0 0] 43)) w4.heap.size _ #[.int .i64 x.number, .bool x.up, .bool x.has, .int .i64 x.offer.kind, .int .i64 x.offer.to, .int .i64 x.offer.sender, .int .i64 x.offer.epoch, .int .i64 x.offer.edit, .string x.offer.target.name, .string x.offer.target.tool, .string x.offer.target.arg, .slice (some ⟨g40, 0, none⟩) x.offer.target.ins.length x.offer.target.ins.length, .slice (some ⟨g41, 0, none⟩) x.offer.target.outs.length x.offer.target.outs.length, .slice (some ⟨g42, 0, none⟩) x.offer.seen.length x.offer.seen.length, .int .i64 x.offer.count, .bool x.offer.turn.over, .int .i64 x.offer.turn.code, .string x.offer.turn.text, .int .i64 x.offer.turn.kind, .string x.offer.turn.name, .int .i64 x.offer.turn.steps, .slice (some ⟨g43, 0, none⟩) x.offer.turn.files.length x.offer.turn.files.length, .slice (some ⟨g44, 0, none⟩) x.offer.turn.said.length x.offer.turn.said.length] _ _ HZ.out.e)
  have HBL : Hid (Below w4.heap.size w4 ((w4.alloc (.cells #[.int .i64 0, .bool false, .bool false, .int .i64 0, .int .i64 0, .int .i64 0, .int .i64 0, .int .i64 0, .string ⟨#[]⟩, .string ⟨#[]⟩, .string ⟨#[]⟩, .slice none 0 0, .slice none 0 0, .slice none 0 0, .int .i64 0, .bool false, .int .i64 0, .string ⟨#[]⟩, .int .i64 0, .string ⟨#[]⟩, .int .i64 0, .slice none 0 0, .slice none 0 0] 43)).setRow w4.heap.size #[.int .i64 x.number, .bool x.up, .bool x.has, .int .i64 x.offer.kind, .int .i64 x.offer.to, .int .i64 x.offer.sender, .int .i64 x.offer.epoch, .int .i64 x.offer.edit, .string x.offer.target.name, .string x.offer.target.tool, .string x.offer.target.arg, .slice (some ⟨g40, 0, none⟩) x.offer.target.ins.length x.offer.target.ins.length, .slice (some ⟨g41, 0, none⟩) x.offer.target.outs.length x.offer.target.outs.length, .slice (some ⟨g42, 0, none⟩) x.offer.seen.length x.offer.seen.length, .int .i64 x.offer.count, .bool x.offer.turn.over, .int .i64 x.offer.turn.code, .string x.offer.turn.text, .int .i64 x.offer.turn.kind, .string x.offer.turn.name, .int .i64 x.offer.turn.steps, .slice (some ⟨g43, 0, none⟩) x.offer.turn.files.length x.offer.turn.files.length, .slice (some ⟨g44, 0, none⟩) x.offer.turn.said.length x.offer.turn.said.length])) := hid (below_setRow HZ.out.lo (Nat.le_refl _) _)
  go_upto_region 7 with (first | (refine wpList_store_row rfl 43 _ _ rfl w4.heap.size #[.int .i64 x.number, .bool x.up, .bool x.has, .int .i64 x.offer.kind, .int .i64 x.offer.to, .int .i64 x.offer.sender, .int .i64 x.offer.epoch, .int .i64 x.offer.edit, .string x.offer.target.name, .string x.offer.target.tool, .string x.offer.target.arg, .slice (some ⟨g40, 0, none⟩) x.offer.target.ins.length x.offer.target.ins.length, .slice (some ⟨g41, 0, none⟩) x.offer.target.outs.length x.offer.target.outs.length, .slice (some ⟨g42, 0, none⟩) x.offer.seen.length x.offer.seen.length, .int .i64 x.offer.count, .bool x.offer.turn.over, .int .i64 x.offer.turn.code, .string x.offer.turn.text, .int .i64 x.offer.turn.kind, .string x.offer.turn.name, .int .i64 x.offer.turn.steps, .slice (some ⟨g43, 0, none⟩) x.offer.turn.files.length x.offer.turn.files.length, .slice (some ⟨g44, 0, none⟩) x.offer.turn.said.length x.offer.turn.said.length] rfl rfl 43 _ HZ.out.e (by kernel_rfl) rfl (by simp [Value.oneCell']) ?_))
  obtain ⟨w5, hW5⟩ : ∃ W, (w4.alloc (.cells #[.int .i64 0, .bool false, .bool false, .int .i64 0, .int .i64 0, .int .i64 0, .int .i64 0, .int .i64 0, .string ⟨#[]⟩, .string ⟨#[]⟩, .string ⟨#[]⟩, .slice none 0 0, .slice none 0 0, .slice none 0 0, .int .i64 0, .bool false, .int .i64 0, .string ⟨#[]⟩, .int .i64 0, .string ⟨#[]⟩, .int .i64 0, .slice none 0 0, .slice none 0 0] 43)).setRow w4.heap.size #[.int .i64 x.number, .bool x.up, .bool x.has, .int .i64 x.offer.kind, .int .i64 x.offer.to, .int .i64 x.offer.sender, .int .i64 x.offer.epoch, .int .i64 x.offer.edit, .string x.offer.target.name, .string x.offer.target.tool, .string x.offer.target.arg, .slice (some ⟨g40, 0, none⟩) x.offer.target.ins.length x.offer.target.ins.length, .slice (some ⟨g41, 0, none⟩) x.offer.target.outs.length x.offer.target.outs.length, .slice (some ⟨g42, 0, none⟩) x.offer.seen.length x.offer.seen.length, .int .i64 x.offer.count, .bool x.offer.turn.over, .int .i64 x.offer.turn.code, .string x.offer.turn.text, .int .i64 x.offer.turn.kind, .string x.offer.turn.name, .int .i64 x.offer.turn.steps, .slice (some ⟨g43, 0, none⟩) x.offer.turn.files.length x.offer.turn.files.length, .slice (some ⟨g44, 0, none⟩) x.offer.turn.said.length x.offer.turn.said.length] = W := ⟨_, rfl⟩
  rw [hW5] at HSR HBL ⊢
  have HX5 := hid (HX4.out.next HBL.out)
  have N5 := hid (N4.out.trans (HBL.out.mono N4.out.size))
  have R50 := hid (R40.out.next HBL.out)
  have R51 := hid (R41.out.next HBL.out)
  have R52 := hid (R42.out.next HBL.out)
  have R53 := hid (R43.out.next HBL.out)
  have R54 := hid (R44.out.next HBL.out)
  clear hW5 HZ HBL
  go_wp2_with (first | (refine wpList_load_row rfl 43 _ rfl (w4.heap.size) rfl 43 #[.int .i64 x.number, .bool x.up, .bool x.has, .int .i64 x.offer.kind, .int .i64 x.offer.to, .int .i64 x.offer.sender, .int .i64 x.offer.epoch, .int .i64 x.offer.edit, .string x.offer.target.name, .string x.offer.target.tool, .string x.offer.target.arg, .slice (some ⟨g40, 0, none⟩) x.offer.target.ins.length x.offer.target.ins.length, .slice (some ⟨g41, 0, none⟩) x.offer.target.outs.length x.offer.target.outs.length, .slice (some ⟨g42, 0, none⟩) x.offer.seen.length x.offer.seen.length, .int .i64 x.offer.count, .bool x.offer.turn.over, .int .i64 x.offer.turn.code, .string x.offer.turn.text, .int .i64 x.offer.turn.kind, .string x.offer.turn.name, .int .i64 x.offer.turn.steps, .slice (some ⟨g43, 0, none⟩) x.offer.turn.files.length x.offer.turn.files.length, .slice (some ⟨g44, 0, none⟩) x.offer.turn.said.length x.offer.turn.said.length] (0, 0) _ HSR.out Tryz.underlying43 rfl (by kernel_rfl) ?_))
  refine (implW_any x w5 HSM.out (aStr R50.out) (aStr R51.out) (aSn R52.out) (aFl R53.out) (aStr R54.out)).mono ?_
  rintro e w6 ⟨⟨b6, rfl, hv6⟩, hb⟩
  obtain rfl := says_val hv6 HV3.out
  have HX6 := hid (HX5.out.next hb)
  have N6 := hid (N5.out.trans (hb.mono N5.out.size))
  have HG6 := hid (hp_next HSR.out hb)
  have R60 := hid (R50.out.next hb)
  have R61 := hid (R51.out.next hb)
  have R62 := hid (R52.out.next hb)
  have R63 := hid (R53.out.next hb)
  have R64 := hid (R54.out.next hb)
  clear hb hv6 HSR HX5 N5 R50 R51 R52 R53 R54 HV3
  have h0 : (b6 != b6) = false := by simp
  go_upto_region 10 with fail
  have HS6 : Hid (∀ W, Below w6.heap.size w6 W → W.heap[w.heap.size]? = some (.cells #[.int .i64 x.number, .bool x.up, .bool x.has, .int .i64 x.offer.kind, .int .i64 x.offer.to, .int .i64 x.offer.sender, .int .i64 x.offer.epoch, .int .i64 x.offer.edit, .string x.offer.target.name, .string x.offer.target.tool, .string x.offer.target.arg, .slice ad0 x.offer.target.ins.length cp0, .slice ad1 x.offer.target.outs.length cp1, .slice ad2 x.offer.seen.length cp2, .int .i64 x.offer.count, .bool x.offer.turn.over, .int .i64 x.offer.turn.code, .string x.offer.turn.text, .int .i64 x.offer.turn.kind, .string x.offer.turn.name, .int .i64 x.offer.turn.steps, .slice ad3 x.offer.turn.files.length cp3, .slice ad4 x.offer.turn.said.length cp4] 32 (0, 0)) ∧ W.heap[w4.heap.size]? = some (.cells #[.int .i64 x.number, .bool x.up, .bool x.has, .int .i64 x.offer.kind, .int .i64 x.offer.to, .int .i64 x.offer.sender, .int .i64 x.offer.epoch, .int .i64 x.offer.edit, .string x.offer.target.name, .string x.offer.target.tool, .string x.offer.target.arg, .slice (some ⟨g40, 0, none⟩) x.offer.target.ins.length x.offer.target.ins.length, .slice (some ⟨g41, 0, none⟩) x.offer.target.outs.length x.offer.target.outs.length, .slice (some ⟨g42, 0, none⟩) x.offer.seen.length x.offer.seen.length, .int .i64 x.offer.count, .bool x.offer.turn.over, .int .i64 x.offer.turn.code, .string x.offer.turn.text, .int .i64 x.offer.turn.kind, .string x.offer.turn.name, .int .i64 x.offer.turn.steps, .slice (some ⟨g43, 0, none⟩) x.offer.turn.files.length x.offer.turn.files.length, .slice (some ⟨g44, 0, none⟩) x.offer.turn.said.length x.offer.turn.said.length] 43 (0, 0))) := hid fun W h => ⟨(HX6.out.next h).e, hp_next HG6.out h⟩
  refine wp_region_held_drew (S := fun W => W.heap[w.heap.size]? = some (.cells #[.int .i64 x.number, .bool x.up, .bool x.has, .int .i64 x.offer.kind, .int .i64 x.offer.to, .int .i64 x.offer.sender, .int .i64 x.offer.epoch, .int .i64 x.offer.edit, .string x.offer.target.name, .string x.offer.target.tool, .string x.offer.target.arg, .slice ad0 x.offer.target.ins.length cp0, .slice ad1 x.offer.target.outs.length cp1, .slice ad2 x.offer.seen.length cp2, .int .i64 x.offer.count, .bool x.offer.turn.over, .int .i64 x.offer.turn.code, .string x.offer.turn.text, .int .i64 x.offer.turn.kind, .string x.offer.turn.name, .int .i64 x.offer.turn.steps, .slice ad3 x.offer.turn.files.length cp3, .slice ad4 x.offer.turn.said.length cp4] 32 (0, 0)) ∧ W.heap[w4.heap.size]? = some (.cells #[.int .i64 x.number, .bool x.up, .bool x.has, .int .i64 x.offer.kind, .int .i64 x.offer.to, .int .i64 x.offer.sender, .int .i64 x.offer.epoch, .int .i64 x.offer.edit, .string x.offer.target.name, .string x.offer.target.tool, .string x.offer.target.arg, .slice (some ⟨g40, 0, none⟩) x.offer.target.ins.length x.offer.target.ins.length, .slice (some ⟨g41, 0, none⟩) x.offer.target.outs.length x.offer.target.outs.length, .slice (some ⟨g42, 0, none⟩) x.offer.seen.length x.offer.seen.length, .int .i64 x.offer.count, .bool x.offer.turn.over, .int .i64 x.offer.turn.code, .string x.offer.turn.text, .int .i64 x.offer.turn.kind, .string x.offer.turn.name, .int .i64 x.offer.turn.steps, .slice (some ⟨g43, 0, none⟩) x.offer.turn.files.length x.offer.turn.files.length, .slice (some ⟨g44, 0, none⟩) x.offer.turn.said.length x.offer.turn.said.length] 43 (0, 0))) (by kernel_rfl) (HS6.out _ (Below.refl _ _).drew) (fun hHeld => ?_)
  refine wpAnyH_take (i := 0) (v := .agg #[.int .i64 x.number, .bool x.up, .bool x.has, .int .i64 x.offer.kind, .int .i64 x.offer.to, .int .i64 x.offer.sender, .int .i64 x.offer.epoch, .int .i64 x.offer.edit, .string x.offer.target.name, .string x.offer.target.tool, .string x.offer.target.arg, .slice (some ⟨g40, 0, none⟩) x.offer.target.ins.length x.offer.target.ins.length, .slice (some ⟨g41, 0, none⟩) x.offer.target.outs.length x.offer.target.outs.length, .slice (some ⟨g42, 0, none⟩) x.offer.seen.length x.offer.seen.length, .int .i64 x.offer.count, .bool x.offer.turn.over, .int .i64 x.offer.turn.code, .string x.offer.turn.text, .int .i64 x.offer.turn.kind, .string x.offer.turn.name, .int .i64 x.offer.turn.steps, .slice (some ⟨g43, 0, none⟩) x.offer.turn.files.length x.offer.turn.files.length, .slice (some ⟨g44, 0, none⟩) x.offer.turn.said.length x.offer.turn.said.length]) rfl (by kernel_rfl) (by kernel_rfl) (by kernel_rfl) (fun _ _ _ h => h) (yieldsIf_load_mid (by rfl) 43 _ rfl (w4.heap.size) 0 rfl [.int .i64 x.number, .bool x.up, .bool x.has, .int .i64 x.offer.kind, .int .i64 x.offer.to, .int .i64 x.offer.sender, .int .i64 x.offer.epoch, .int .i64 x.offer.edit, .string x.offer.target.name, .string x.offer.target.tool, .string x.offer.target.arg, .slice (some ⟨g40, 0, none⟩) x.offer.target.ins.length x.offer.target.ins.length, .slice (some ⟨g41, 0, none⟩) x.offer.target.outs.length x.offer.target.outs.length, .slice (some ⟨g42, 0, none⟩) x.offer.seen.length x.offer.seen.length, .int .i64 x.offer.count, .bool x.offer.turn.over, .int .i64 x.offer.turn.code, .string x.offer.turn.text, .int .i64 x.offer.turn.kind, .string x.offer.turn.name, .int .i64 x.offer.turn.steps, .slice (some ⟨g43, 0, none⟩) x.offer.turn.files.length x.offer.turn.files.length, .slice (some ⟨g44, 0, none⟩) x.offer.turn.said.length x.offer.turn.said.length] _ (fun W h => range_mid [] _ [] h.2 rfl) Tryz.underlying43 rfl (by kernel_rfl)) (hHeld) ?_
  simp only [Act.put, List.setIfInBounds_toArray]
  refine wpAnyH_take (i := 1) (v := .agg #[.int .i64 x.number, .bool x.up, .bool x.has, .int .i64 x.offer.kind, .int .i64 x.offer.to, .int .i64 x.offer.sender, .int .i64 x.offer.epoch, .int .i64 x.offer.edit, .string x.offer.target.name, .string x.offer.target.tool, .string x.offer.target.arg, .slice ad0 x.offer.target.ins.length cp0, .slice ad1 x.offer.target.outs.length cp1, .slice ad2 x.offer.seen.length cp2, .int .i64 x.offer.count, .bool x.offer.turn.over, .int .i64 x.offer.turn.code, .string x.offer.turn.text, .int .i64 x.offer.turn.kind, .string x.offer.turn.name, .int .i64 x.offer.turn.steps, .slice ad3 x.offer.turn.files.length cp3, .slice ad4 x.offer.turn.said.length cp4]) rfl (by kernel_rfl) (by kernel_rfl) (by kernel_rfl) (fun _ _ _ h => h) (yieldsIf_load_mid (by rfl) 32 _ rfl (w.heap.size) 0 rfl [.int .i64 x.number, .bool x.up, .bool x.has, .int .i64 x.offer.kind, .int .i64 x.offer.to, .int .i64 x.offer.sender, .int .i64 x.offer.epoch, .int .i64 x.offer.edit, .string x.offer.target.name, .string x.offer.target.tool, .string x.offer.target.arg, .slice ad0 x.offer.target.ins.length cp0, .slice ad1 x.offer.target.outs.length cp1, .slice ad2 x.offer.seen.length cp2, .int .i64 x.offer.count, .bool x.offer.turn.over, .int .i64 x.offer.turn.code, .string x.offer.turn.text, .int .i64 x.offer.turn.kind, .string x.offer.turn.name, .int .i64 x.offer.turn.steps, .slice ad3 x.offer.turn.files.length cp3, .slice ad4 x.offer.turn.said.length cp4] _ (fun W h => range_mid [] _ [] h.1 rfl) Tryz.underlying32 rfl (by kernel_rfl)) (hHeld) ?_
  simp only [Act.put]
  refine held_call (i := 2) (by kernel_rfl) rfl rfl (by kernel_rfl) (toWk_any x _ HLO.out (K0.out.next N6.out.drew) (K1.out.next N6.out.drew) (K2.out.next N6.out.drew) (K3.out.next N6.out.drew) (K4.out.next N6.out.drew)) ?_
  rintro e w7 ⟨u0, u1, u2, u3, u4, rfl, r0, r1, r2, r3, r4, hb⟩
  have HC7 := hid ((Below.refl w6.heap.size w6).drew.trans hb)
  have R70 := hid (r0.mono (B' := 0) (Nat.zero_le _))
  obtain ⟨g70, rfl⟩ := r0.sl
  clear r0
  have R71 := hid (r1.mono (B' := 0) (Nat.zero_le _))
  obtain ⟨g71, rfl⟩ := r1.sl
  clear r1
  have R72 := hid (r2.mono (B' := 0) (Nat.zero_le _))
  obtain ⟨g72, rfl⟩ := r2.sl
  clear r2
  have R73 := hid (r3.mono (B' := 0) (Nat.zero_le _))
  obtain ⟨g73, rfl⟩ := r3.sl
  clear r3
  have R74 := hid (r4.mono (B' := 0) (Nat.zero_le _))
  obtain ⟨g74, rfl⟩ := r4.sl
  clear r4
  clear hb
  refine ⟨_, rfl, HS6.out _ HC7.out, ?_⟩
  simp only [Act.put]
  refine held_call (i := 3) (by kernel_rfl) rfl rfl (by kernel_rfl) (eqWk_same x _ HLO.out (R60.out.next HC7.out) R70.out (R61.out.next HC7.out) R71.out (R62.out.next HC7.out) R72.out (R63.out.next HC7.out) R73.out (R64.out.next HC7.out) R74.out) ?_
  rintro e w8 ⟨rfl, hb⟩
  have HC8 := hid (HC7.out.trans (hb.mono HC7.out.size))
  clear hb
  refine ⟨_, rfl, HS6.out _ HC8.out, ?_⟩
  simp only [Act.put]
  refine wpAnyH_take (i := 4) (v := .bool false) rfl (by kernel_rfl) (by kernel_rfl) (by kernel_rfl) (fun _ _ _ h => h) (Or.inl ⟨by rfl, fun W _ => by kernel_rfl⟩) (HS6.out _ HC8.out) ?_
  simp only [Act.put]
  refine wpAnyH_done (by kernel_rfl) ?_ _
  go_wp2
  go_ret
  exact ⟨rfl, (HX6.out.next HC8.out).lo⟩
end Go.Proofs.YtlopcjhipajdcaaGreatDoor.Y
