import Derived.Test.YtlopcjhipajdcaaGreatDoorJ40
import Derived.Test.YtlopcjhipajdcaaGreatDoorJ39
/-! The model's copies. Printed by gen_yrow.py. -/
namespace Go.Proofs.YtlopcjhipajdcaaGreatDoor.Y
open Go.RowKit R
open Go.Proofs.YtlopcjhipajdcaaGreatDoor.J (FileOk BegOk RepOk ltB Says says_t says_f)
set_option maxRecDepth 20000
theorem lit_lo {W V : World} {T : TypeId} (hg : (W.alloc (.cells #[] T)).grownBy V (Value.slice (some ⟨W.heap.size, 0, none⟩) 0 0).ownBlock) : Below W.heap.size W V :=
  ((Below.refl _ _).alloc (Nat.le_refl _) _).grown hg (by simp) fun q e => by
    simp only [Value.ownBlock] at e
    injection e with e
    exact Nat.le_of_eq e
theorem lit_own (W : World) (T : TypeId) (k : Nat) : (W.alloc (.cells #[] T)).ownsRow W.heap.size T k (.slice (some ⟨W.heap.size, 0, none⟩) 0 0) 0 [] := World.ownsRow_made W #[] 0 (Nat.le_refl _) (by unfold maxLen; omega) (by simp)
/-- A message whose rows are of one's own, those of texts apart. -/
structure OwnMs (B : Nat) (W : World) (m : Ms) (u0 u1 u2 u3 u4 : Value) : Prop where
  o0 : OwnStr B W u0 m.target.ins
  o1 : OwnStr B W u1 m.target.outs
  o2 : OwnSn B W u2 m.seen
  o3 : OwnFl B W u3 m.turn.files
  o4 : OwnStr B W u4 m.turn.said
  a01 : Ap u0 u1
  a04 : Ap u0 u4
  a14 : Ap u1 u4
theorem OwnMs.hp {B : Nat} {W V : World} {m : Ms} {u0 u1 u2 u3 u4 : Value} (h : OwnMs B W m u0 u1 u2 u3 u4) (hk : ∀ i, B ≤ i → i < W.heap.size → V.heap[i]? = W.heap[i]?) : OwnMs B V m u0 u1 u2 u3 u4 := ⟨own_hp h.o0 hk, own_hp h.o1 hk, own_hp h.o2 hk, own_hp h.o3 hk, own_hp h.o4 hk, h.a01, h.a04, h.a14⟩
theorem OwnMs.next {B : Nat} {W V : World} {m : Ms} {u0 u1 u2 u3 u4 : Value} (h : OwnMs B W m u0 u1 u2 u3 u4) (hb : Below W.heap.size W V) : OwnMs B V m u0 u1 u2 u3 u4 := h.hp fun i _ hi => hb.block i hi
theorem OwnMs.mono {B B' : Nat} {W : World} {m : Ms} {u0 u1 u2 u3 u4 : Value} (h : OwnMs B W m u0 u1 u2 u3 u4) (hb : B' ≤ B) : OwnMs B' W m u0 u1 u2 u3 u4 := ⟨own_monoK h.o0 hb, own_monoK h.o1 hb, own_monoK h.o2 hb, own_monoK h.o3 hb, own_monoK h.o4 hb, h.a01, h.a04, h.a14⟩
/-- A message whose rows can be read. -/
structure RdMs (W : World) (m : Ms) (v0 v1 v2 v3 v4 : Value) : Prop where
  r0 : RdStr W v0 m.target.ins
  r1 : RdStr W v1 m.target.outs
  r2 : RdSn W v2 m.seen
  r3 : RdFl W v3 m.turn.files
  r4 : RdStr W v4 m.turn.said
theorem RdMs.next {W V : World} {m : Ms} {v0 v1 v2 v3 v4 : Value} (h : RdMs W m v0 v1 v2 v3 v4) (hb : Below W.heap.size W V) : RdMs V m v0 v1 v2 v3 v4 := ⟨h.r0.next hb, h.r1.next hb, h.r2.next hb, h.r3.next hb, h.r4.next hb⟩
theorem OwnMs.rd {B : Nat} {W : World} {m : Ms} {u0 u1 u2 u3 u4 : Value} (h : OwnMs B W m u0 u1 u2 u3 u4) : RdMs W m u0 u1 u2 u3 u4 := ⟨.own h.o0, .own h.o1, .own h.o2, .own h.o3, .own h.o4⟩
/-- The rows of a message are not too long. -/
structure LnMs (m : Ms) : Prop where
  n0 : m.target.ins.length ≤ 1048576
  n1 : m.target.outs.length ≤ 1048576
  n2 : m.seen.length ≤ 1048576
  n3 : m.turn.files.length ≤ 1048576
  n4 : m.turn.said.length ≤ 1048576
set_option maxHeartbeats 4000000 in
theorem l28Tg_any (t : Tg) {v0 v1 : Value} (w : World) (k0 : RdStr w v0 t.ins) (k1 : RdStr w v1 t.outs) (n0 : t.ins.length ≤ 1048576) (n1 : t.outs.length ≤ 1048576) :
    Calls Tryz.prog 61 #[.agg #[.string t.name, .string t.tool, .string t.arg, v0, v1]] w fun e w' => ∃ u0 u1, e = .returned (.agg #[.string t.name, .string t.tool, .string t.arg, u0, u1]) ∧ OwnStr w.heap.size w' u0 t.ins ∧ OwnStr w.heap.size w' u1 t.outs ∧ Ap u0 u1 ∧ Below w.heap.size w w' := by
  have K0 := hid k0
  have K1 := hid k1
  obtain ⟨a0, c0, rfl⟩ := k0.sl
  obtain ⟨a1, c1, rfl⟩ := k1.sl
  clear k0 k1
  have HX0 := hid (Q2.start w #[.string t.name, .string t.tool, .string t.arg, (.slice a0 t.ins.length c0), (.slice a1 t.outs.length c1)] #[.string ⟨#[]⟩, .string ⟨#[]⟩, .string ⟨#[]⟩, .slice none 0 0, .slice none 0 0] 35)
  obtain ⟨W0, hW0⟩ : ∃ W, (w.alloc (.cells #[.string t.name, .string t.tool, .string t.arg, (.slice a0 t.ins.length c0), (.slice a1 t.outs.length c1)] 35)).alloc (.cells #[.string ⟨#[]⟩, .string ⟨#[]⟩, .string ⟨#[]⟩, .slice none 0 0, .slice none 0 0] 35) = W := ⟨_, rfl⟩
  rw [hW0] at HX0
  go_enter Tryz.func61, Tryz.ntmps61
  go_upto_region 1 with fail
  clear hW0
  have HL1 := hid (lit_own W0 9 1)
  have HR1 := hid ((K0.out.next HX0.out.lo).next ((Below.refl W0.heap.size W0).alloc (Nat.le_refl _) (.cells #[] 9)))
  have x1 : (W0.alloc (.cells #[] 9)).cell? ⟨w.heap.size, 3, none⟩ = some ((.slice a0 t.ins.length c0)) := row_cell (HX0.out.next ((Below.refl W0.heap.size W0).alloc (Nat.le_refl _) (.cells #[] 9))).e 3
  go_upto_region 2 with (at_builtin; refine wpList_appStr rfl (.tmp 3) (.tmp 5) rfl W0.heap.size (.slice (some ⟨W0.heap.size, 0, none⟩) 0 0) 0 [] rfl HL1.out _ t.ins rfl HR1.out (by omega) (by simp) ?_; intro u1 z1 ho hg; have HG1 := hid (lit_lo hg); have ho2 : OwnStr W0.heap.size z1 u1 t.ins := (by simpa [OwnStr] using ho); obtain ⟨ad1, cp1, rfl⟩ := own_formK ho2; have HO1 := hid ho2; have HX1a := hid (HX0.out.next HG1.out); have y1 : z1.cell? ⟨w.heap.size, 3, none⟩ = some ((.slice a0 t.ins.length c0)) := row_cell HX1a.out.e 3; have f1 : z1.frozen? ⟨w.heap.size, 3, none⟩ = false := (row_room (i := 3) HX1a.out.e (by simp)).2; clear ho ho2 hg)
  have HX1b := hid ((HX1a.out.set 3 (.slice ad1 t.ins.length cp1)).cast (C' := #[.string t.name, .string t.tool, .string t.arg, .slice ad1 t.ins.length cp1, (.slice a1 t.outs.length c1)]) rfl)
  obtain ⟨V1, hV1⟩ : ∃ V, z1.setCell ⟨w.heap.size, 3, none⟩ (.slice ad1 t.ins.length cp1) = V := ⟨_, rfl⟩
  have HP1 : Hid (OwnStr W0.heap.size V1 (.slice ad1 t.ins.length cp1) t.ins) := hid (by rw [← hV1]; exact own_set HO1.out (by have := HX0.out.sz; omega) _ _)
  have HZ1 : Hid (∀ i, W0.heap.size ≤ i → i < z1.heap.size → V1.heap[i]? = z1.heap[i]?) := hid (by rw [← hV1]; exact fun i hi _ => set_other _ _ _ _ _ (by have := HX0.out.sz; omega))
  have HY1 : Hid (∀ i, w.heap.size + 2 ≤ i → i < W0.heap.size → V1.heap[i]? = W0.heap[i]?) := hid (by rw [← hV1]; exact fun i hi hl => (set_other _ _ _ _ _ (by omega)).trans (HG1.out.block i hl))
  rw [hV1] at HX1b ⊢
  clear hV1 x1 y1 f1 HX1a HL1 HR1
  have HL2 := hid (lit_own V1 9 1)
  have HR2 := hid ((K1.out.next HX1b.out.lo).next ((Below.refl V1.heap.size V1).alloc (Nat.le_refl _) (.cells #[] 9)))
  have x2 : (V1.alloc (.cells #[] 9)).cell? ⟨w.heap.size, 4, none⟩ = some ((.slice a1 t.outs.length c1)) := row_cell (HX1b.out.next ((Below.refl V1.heap.size V1).alloc (Nat.le_refl _) (.cells #[] 9))).e 4
  go_upto_region 3 with (at_builtin; refine wpList_appStr rfl (.tmp 8) (.tmp 10) rfl V1.heap.size (.slice (some ⟨V1.heap.size, 0, none⟩) 0 0) 0 [] rfl HL2.out _ t.outs rfl HR2.out (by omega) (by simp) ?_; intro u2 z2 ho hg; have HG2 := hid (lit_lo hg); have ho2 : OwnStr V1.heap.size z2 u2 t.outs := (by simpa [OwnStr] using ho); obtain ⟨ad2, cp2, rfl⟩ := own_formK ho2; have HO2 := hid ho2; have HX2a := hid (HX1b.out.next HG2.out); have y2 : z2.cell? ⟨w.heap.size, 4, none⟩ = some ((.slice a1 t.outs.length c1)) := row_cell HX2a.out.e 4; have f2 : z2.frozen? ⟨w.heap.size, 4, none⟩ = false := (row_room (i := 4) HX2a.out.e (by simp)).2; clear ho ho2 hg)
  have HX2b := hid ((HX2a.out.set 4 (.slice ad2 t.outs.length cp2)).cast (C' := #[.string t.name, .string t.tool, .string t.arg, .slice ad1 t.ins.length cp1, .slice ad2 t.outs.length cp2]) rfl)
  obtain ⟨V2, hV2⟩ : ∃ V, z2.setCell ⟨w.heap.size, 4, none⟩ (.slice ad2 t.outs.length cp2) = V := ⟨_, rfl⟩
  have HP2 : Hid (OwnStr V1.heap.size V2 (.slice ad2 t.outs.length cp2) t.outs) := hid (by rw [← hV2]; exact own_set HO2.out (by have := HX1b.out.sz; omega) _ _)
  have HZ2 : Hid (∀ i, V1.heap.size ≤ i → i < z2.heap.size → V2.heap[i]? = z2.heap[i]?) := hid (by rw [← hV2]; exact fun i hi _ => set_other _ _ _ _ _ (by have := HX1b.out.sz; omega))
  have HY2 : Hid (∀ i, w.heap.size + 2 ≤ i → i < V1.heap.size → V2.heap[i]? = V1.heap[i]?) := hid (by rw [← hV2]; exact fun i hi hl => (set_other _ _ _ _ _ (by omega)).trans (HG2.out.block i hl))
  rw [hV2] at HX2b ⊢
  clear hV2 x2 y2 f2 HX2a HL2 HR2
  have HR1 := hid (own_hp HP1.out fun i hi hl => HY2.out i (by have := HX0.out.sz; omega) hl)
  have HSR := hid (setRow_heap V2 (w.heap.size + 1) _ #[.string t.name, .string t.tool, .string t.arg, .slice ad1 t.ins.length cp1, .slice ad2 t.outs.length cp2] _ _ HX2b.out.r)
  go_wp2_with (first | (refine wpList_load_row rfl 35 _ rfl (w.heap.size) rfl 35 #[.string t.name, .string t.tool, .string t.arg, .slice ad1 t.ins.length cp1, .slice ad2 t.outs.length cp2] (0, 0) _ HX2b.out.e Tryz.underlying35 rfl (by kernel_rfl) ?_) | (refine wpList_store_row rfl 35 _ _ rfl (w.heap.size + 1) #[.string t.name, .string t.tool, .string t.arg, .slice ad1 t.ins.length cp1, .slice ad2 t.outs.length cp2] rfl rfl 35 _ HX2b.out.r (by kernel_rfl) rfl (by simp [Value.oneCell']) ?_))
  refine bodyPost_ret (v := .agg #[.string t.name, .string t.tool, .string t.arg, .slice ad1 t.ins.length cp1, .slice ad2 t.outs.length cp2]) ?_ rfl ⟨_, _, rfl, ?_, ?_, ?_, below_setRow HX2b.out.lo (by omega) _⟩
  · exact results_cell_row Tryz.results61 _ _ (w.heap.size + 1) 35 #[.string t.name, .string t.tool, .string t.arg, .slice ad1 t.ins.length cp1, .slice ad2 t.outs.length cp2] (0, 0) _ rfl HSR.out Tryz.underlying35 rfl (by kernel_rfl)
  · exact own_monoK (setRow_own HR1.out (by have := HX0.out.sz; omega) _) HX0.out.lo.size
  · exact own_monoK (setRow_own HP2.out (by have := HX1b.out.sz; omega) _) HX1b.out.lo.size
  · exact ap_of HP1.out HP2.out (Nat.le_refl _)
set_option maxHeartbeats 8000000 in
theorem l28Ms_any (m : Ms) {v0 v1 v2 v3 v4 : Value} (w : World) (hk : RdMs w m v0 v1 v2 v3 v4) (hn : LnMs m) :
    Calls Tryz.prog 28 #[.agg #[.int .i64 m.kind, .int .i64 m.to, .int .i64 m.sender, .int .i64 m.epoch, .int .i64 m.edit, .string m.target.name, .string m.target.tool, .string m.target.arg, v0, v1, v2, .int .i64 m.count, .bool m.turn.over, .int .i64 m.turn.code, .string m.turn.text, .int .i64 m.turn.kind, .string m.turn.name, .int .i64 m.turn.steps, v3, v4]] w fun e w' => ∃ u0 u1 u2 u3 u4, e = .returned (.agg #[.int .i64 m.kind, .int .i64 m.to, .int .i64 m.sender, .int .i64 m.epoch, .int .i64 m.edit, .string m.target.name, .string m.target.tool, .string m.target.arg, u0, u1, u2, .int .i64 m.count, .bool m.turn.over, .int .i64 m.turn.code, .string m.turn.text, .int .i64 m.turn.kind, .string m.turn.name, .int .i64 m.turn.steps, u3, u4]) ∧ OwnMs w.heap.size w' m u0 u1 u2 u3 u4 ∧ Below w.heap.size w w' := by
  obtain ⟨n0, n1, n2, n3, n4⟩ := hn
  have HK := hid hk
  obtain ⟨a0, c0, rfl⟩ := hk.r0.sl
  obtain ⟨a1, c1, rfl⟩ := hk.r1.sl
  obtain ⟨a2, c2, rfl⟩ := hk.r2.sl
  obtain ⟨a3, c3, rfl⟩ := hk.r3.sl
  obtain ⟨a4, c4, rfl⟩ := hk.r4.sl
  clear hk
  have HX0 := hid (Q2.start w #[.int .i64 m.kind, .int .i64 m.to, .int .i64 m.sender, .int .i64 m.epoch, .int .i64 m.edit, .string m.target.name, .string m.target.tool, .string m.target.arg, .slice a0 m.target.ins.length c0, .slice a1 m.target.outs.length c1, .slice a2 m.seen.length c2, .int .i64 m.count, .bool m.turn.over, .int .i64 m.turn.code, .string m.turn.text, .int .i64 m.turn.kind, .string m.turn.name, .int .i64 m.turn.steps, .slice a3 m.turn.files.length c3, .slice a4 m.turn.said.length c4] #[.int .i64 0, .int .i64 0, .int .i64 0, .int .i64 0, .int .i64 0, .string ⟨#[]⟩, .string ⟨#[]⟩, .string ⟨#[]⟩, .slice none 0 0, .slice none 0 0, .slice none 0 0, .int .i64 0, .bool false, .int .i64 0, .string ⟨#[]⟩, .int .i64 0, .string ⟨#[]⟩, .int .i64 0, .slice none 0 0, .slice none 0 0] 41)
  obtain ⟨W0, hW0⟩ : ∃ W, (w.alloc (.cells #[.int .i64 m.kind, .int .i64 m.to, .int .i64 m.sender, .int .i64 m.epoch, .int .i64 m.edit, .string m.target.name, .string m.target.tool, .string m.target.arg, .slice a0 m.target.ins.length c0, .slice a1 m.target.outs.length c1, .slice a2 m.seen.length c2, .int .i64 m.count, .bool m.turn.over, .int .i64 m.turn.code, .string m.turn.text, .int .i64 m.turn.kind, .string m.turn.name, .int .i64 m.turn.steps, .slice a3 m.turn.files.length c3, .slice a4 m.turn.said.length c4] 41)).alloc (.cells #[.int .i64 0, .int .i64 0, .int .i64 0, .int .i64 0, .int .i64 0, .string ⟨#[]⟩, .string ⟨#[]⟩, .string ⟨#[]⟩, .slice none 0 0, .slice none 0 0, .slice none 0 0, .int .i64 0, .bool false, .int .i64 0, .string ⟨#[]⟩, .int .i64 0, .string ⟨#[]⟩, .int .i64 0, .slice none 0 0, .slice none 0 0] 41) = W := ⟨_, rfl⟩
  rw [hW0] at HX0
  have HM0 : Hid (W0.rangeAt w.heap.size 5 [.string m.target.name, .string m.target.tool, .string m.target.arg, .slice a0 m.target.ins.length c0, .slice a1 m.target.outs.length c1]) := hid (range_mid [.int .i64 m.kind, .int .i64 m.to, .int .i64 m.sender, .int .i64 m.epoch, .int .i64 m.edit] _ [.slice a2 m.seen.length c2, .int .i64 m.count, .bool m.turn.over, .int .i64 m.turn.code, .string m.turn.text, .int .i64 m.turn.kind, .string m.turn.name, .int .i64 m.turn.steps, .slice a3 m.turn.files.length c3, .slice a4 m.turn.said.length c4] HX0.out.e rfl)
  go_enter Tryz.func28, Tryz.ntmps28
  go_upto_region 1 with fail
  clear hW0
  go_wp2_with (first | (refine wpList_load_mid rfl 35 _ rfl w.heap.size 5 rfl [.string m.target.name, .string m.target.tool, .string m.target.arg, .slice a0 m.target.ins.length c0, .slice a1 m.target.outs.length c1] _ HM0.out Tryz.underlying35 rfl (by kernel_rfl) ?_))
  refine (l28Tg_any m.target W0 (HK.out.r0.next HX0.out.lo) (HK.out.r1.next HX0.out.lo) n0 n1).mono ?_
  rintro e z ⟨u0, u1, rfl, ho0, ho1, ha, hb⟩
  have HO0 := hid ho0
  have HO1 := hid ho1
  have HA01 := hid ha
  have HB := hid hb
  obtain ⟨b0, d0, rfl⟩ := own_formK ho0
  obtain ⟨b1, d1, rfl⟩ := own_formK ho1
  have HXa := hid (HX0.out.next hb)
  clear ho0 ho1 ha hb HM0
  have HTH : Hid (z.there w.heap.size 5 5) := hid (there_block HXa.out.e (by simp))
  have HXb := hid ((HXa.out.mid (pre := [.int .i64 m.kind, .int .i64 m.to, .int .i64 m.sender, .int .i64 m.epoch, .int .i64 m.edit]) (old := [.string m.target.name, .string m.target.tool, .string m.target.arg, .slice a0 m.target.ins.length c0, .slice a1 m.target.outs.length c1]) (new := [.string m.target.name, .string m.target.tool, .string m.target.arg, .slice b0 m.target.ins.length d0, .slice b1 m.target.outs.length d1]) (post := [.slice a2 m.seen.length c2, .int .i64 m.count, .bool m.turn.over, .int .i64 m.turn.code, .string m.turn.text, .int .i64 m.turn.kind, .string m.turn.name, .int .i64 m.turn.steps, .slice a3 m.turn.files.length c3, .slice a4 m.turn.said.length c4]) rfl))
  go_upto_region 2 with (first | (refine wpList_store_mid rfl 35 _ _ rfl w.heap.size 5 #[.string m.target.name, .string m.target.tool, .string m.target.arg, .slice b0 m.target.ins.length d0, .slice b1 m.target.outs.length d1] rfl rfl HTH.out (by kernel_rfl) (by simp [Value.oneCell']) ?_))
  obtain ⟨V0, hV0⟩ : ∃ V, z.setCells w.heap.size 5 [.string m.target.name, .string m.target.tool, .string m.target.arg, .slice b0 m.target.ins.length d0, .slice b1 m.target.outs.length d1] = V := ⟨_, rfl⟩
  have HXc : Hid (Q2 w #[.int .i64 m.kind, .int .i64 m.to, .int .i64 m.sender, .int .i64 m.epoch, .int .i64 m.edit, .string m.target.name, .string m.target.tool, .string m.target.arg, .slice b0 m.target.ins.length d0, .slice b1 m.target.outs.length d1, .slice a2 m.seen.length c2, .int .i64 m.count, .bool m.turn.over, .int .i64 m.turn.code, .string m.turn.text, .int .i64 m.turn.kind, .string m.turn.name, .int .i64 m.turn.steps, .slice a3 m.turn.files.length c3, .slice a4 m.turn.said.length c4] #[.int .i64 0, .int .i64 0, .int .i64 0, .int .i64 0, .int .i64 0, .string ⟨#[]⟩, .string ⟨#[]⟩, .string ⟨#[]⟩, .slice none 0 0, .slice none 0 0, .slice none 0 0, .int .i64 0, .bool false, .int .i64 0, .string ⟨#[]⟩, .int .i64 0, .string ⟨#[]⟩, .int .i64 0, .slice none 0 0, .slice none 0 0] 41 V0) := hid (by rw [← hV0]; exact HXb.out)
  have HP0 : Hid (OwnStr W0.heap.size V0 (.slice b0 m.target.ins.length d0) m.target.ins ∧ OwnStr W0.heap.size V0 (.slice b1 m.target.outs.length d1) m.target.outs) := hid (by rw [← hV0]; exact ⟨setCells_own HO0.out (by have := HX0.out.sz; omega) _ _, setCells_own HO1.out (by have := HX0.out.sz; omega) _ _⟩)
  have hV1 : z.setCells w.heap.size 5 (#[.string m.target.name, .string m.target.tool, .string m.target.arg, .slice b0 m.target.ins.length d0, .slice b1 m.target.outs.length d1] : Array Value).toList = V0 := hV0
  try rw [hV0]
  try rw [hV1]
  clear hV0 hV1 HO0 HO1 HTH HXb HXa
  have HL2 := hid (lit_own V0 88 4)
  have HR2 := hid ((HK.out.r2.next HXc.out.lo).next ((Below.refl V0.heap.size V0).alloc (Nat.le_refl _) (.cells #[] 88)))
  have x2 : (V0.alloc (.cells #[] 88)).cell? ⟨w.heap.size, 10, none⟩ = some (.slice a2 m.seen.length c2) := row_cell (HXc.out.next ((Below.refl V0.heap.size V0).alloc (Nat.le_refl _) (.cells #[] 88))).e 10
  go_upto_region 3 with (at_builtin; refine wpList_appSn rfl (.tmp 7) (.tmp 9) rfl V0.heap.size (.slice (some ⟨V0.heap.size, 0, none⟩) 0 0) 0 [] rfl HL2.out _ m.seen rfl HR2.out (by omega) (by simp) ?_; intro u2 z2 ho hg; have HG2 := hid (lit_lo hg); have ho2 : OwnSn V0.heap.size z2 u2 m.seen := (by simpa [OwnSn] using ho); obtain ⟨ad2, cp2, rfl⟩ := own_formK ho2; have HO2 := hid ho2; have HX2a := hid (HXc.out.next HG2.out); have y2 : z2.cell? ⟨w.heap.size, 10, none⟩ = some (.slice a2 m.seen.length c2) := row_cell HX2a.out.e 10; have f2 : z2.frozen? ⟨w.heap.size, 10, none⟩ = false := (row_room (i := 10) HX2a.out.e (by simp)).2; clear ho ho2 hg)
  have HX2b := hid ((HX2a.out.set 10 (.slice ad2 m.seen.length cp2)).cast (C' := #[.int .i64 m.kind, .int .i64 m.to, .int .i64 m.sender, .int .i64 m.epoch, .int .i64 m.edit, .string m.target.name, .string m.target.tool, .string m.target.arg, .slice b0 m.target.ins.length d0, .slice b1 m.target.outs.length d1, .slice ad2 m.seen.length cp2, .int .i64 m.count, .bool m.turn.over, .int .i64 m.turn.code, .string m.turn.text, .int .i64 m.turn.kind, .string m.turn.name, .int .i64 m.turn.steps, .slice a3 m.turn.files.length c3, .slice a4 m.turn.said.length c4]) rfl)
  obtain ⟨V2, hV2⟩ : ∃ V, z2.setCell ⟨w.heap.size, 10, none⟩ (.slice ad2 m.seen.length cp2) = V := ⟨_, rfl⟩
  have HP2 : Hid (OwnSn V0.heap.size V2 (.slice ad2 m.seen.length cp2) m.seen) := hid (by rw [← hV2]; exact own_set HO2.out (by have := HXc.out.sz; omega) _ _)
  have HZ2 : Hid (∀ i, V0.heap.size ≤ i → i < z2.heap.size → V2.heap[i]? = z2.heap[i]?) := hid (by rw [← hV2]; exact fun i hi _ => set_other _ _ _ _ _ (by have := HXc.out.sz; omega))
  have HS2 : Hid (V0.heap.size ≤ V2.heap.size) := hid (by rw [← hV2]; exact Nat.le_trans HG2.out.size (by simp))
  have HY2 : Hid (∀ i, w.heap.size + 2 ≤ i → i < V0.heap.size → V2.heap[i]? = V0.heap[i]?) := hid (by rw [← hV2]; exact fun i hi hl => (set_other _ _ _ _ _ (by omega)).trans (HG2.out.block i hl))
  rw [hV2] at HX2b ⊢
  clear hV2 x2 y2 f2 HX2a HL2 HR2
  have HL3 := hid (lit_own V2 114 2)
  have HR3 := hid ((HK.out.r3.next HX2b.out.lo).next ((Below.refl V2.heap.size V2).alloc (Nat.le_refl _) (.cells #[] 114)))
  have x3 : (V2.alloc (.cells #[] 114)).cell? ⟨w.heap.size, 18, none⟩ = some (.slice a3 m.turn.files.length c3) := row_cell (HX2b.out.next ((Below.refl V2.heap.size V2).alloc (Nat.le_refl _) (.cells #[] 114))).e 18
  go_upto_region 4 with (at_builtin; refine wpList_appFl rfl (.tmp 12) (.tmp 15) rfl V2.heap.size (.slice (some ⟨V2.heap.size, 0, none⟩) 0 0) 0 [] rfl HL3.out _ m.turn.files rfl HR3.out (by omega) (by simp) ?_; intro u3 z3 ho hg; have HG3 := hid (lit_lo hg); have ho2 : OwnFl V2.heap.size z3 u3 m.turn.files := (by simpa [OwnFl] using ho); obtain ⟨ad3, cp3, rfl⟩ := own_formK ho2; have HO3 := hid ho2; have HX3a := hid (HX2b.out.next HG3.out); have y3 : z3.cell? ⟨w.heap.size, 18, none⟩ = some (.slice a3 m.turn.files.length c3) := row_cell HX3a.out.e 18; have f3 : z3.frozen? ⟨w.heap.size, 18, none⟩ = false := (row_room (i := 18) HX3a.out.e (by simp)).2; clear ho ho2 hg)
  have HX3b := hid ((HX3a.out.set 18 (.slice ad3 m.turn.files.length cp3)).cast (C' := #[.int .i64 m.kind, .int .i64 m.to, .int .i64 m.sender, .int .i64 m.epoch, .int .i64 m.edit, .string m.target.name, .string m.target.tool, .string m.target.arg, .slice b0 m.target.ins.length d0, .slice b1 m.target.outs.length d1, .slice ad2 m.seen.length cp2, .int .i64 m.count, .bool m.turn.over, .int .i64 m.turn.code, .string m.turn.text, .int .i64 m.turn.kind, .string m.turn.name, .int .i64 m.turn.steps, .slice ad3 m.turn.files.length cp3, .slice a4 m.turn.said.length c4]) rfl)
  obtain ⟨V3, hV3⟩ : ∃ V, z3.setCell ⟨w.heap.size, 18, none⟩ (.slice ad3 m.turn.files.length cp3) = V := ⟨_, rfl⟩
  have HP3 : Hid (OwnFl V2.heap.size V3 (.slice ad3 m.turn.files.length cp3) m.turn.files) := hid (by rw [← hV3]; exact own_set HO3.out (by have := HX2b.out.sz; omega) _ _)
  have HZ3 : Hid (∀ i, V2.heap.size ≤ i → i < z3.heap.size → V3.heap[i]? = z3.heap[i]?) := hid (by rw [← hV3]; exact fun i hi _ => set_other _ _ _ _ _ (by have := HX2b.out.sz; omega))
  have HS3 : Hid (V2.heap.size ≤ V3.heap.size) := hid (by rw [← hV3]; exact Nat.le_trans HG3.out.size (by simp))
  have HY3 : Hid (∀ i, w.heap.size + 2 ≤ i → i < V2.heap.size → V3.heap[i]? = V2.heap[i]?) := hid (by rw [← hV3]; exact fun i hi hl => (set_other _ _ _ _ _ (by omega)).trans (HG3.out.block i hl))
  rw [hV3] at HX3b ⊢
  clear hV3 x3 y3 f3 HX3a HL3 HR3
  have HL4 := hid (lit_own V3 9 1)
  have HR4 := hid ((HK.out.r4.next HX3b.out.lo).next ((Below.refl V3.heap.size V3).alloc (Nat.le_refl _) (.cells #[] 9)))
  have x4 : (V3.alloc (.cells #[] 9)).cell? ⟨w.heap.size, 19, none⟩ = some (.slice a4 m.turn.said.length c4) := row_cell (HX3b.out.next ((Below.refl V3.heap.size V3).alloc (Nat.le_refl _) (.cells #[] 9))).e 19
  go_upto_region 5 with (at_builtin; refine wpList_appStr rfl (.tmp 19) (.tmp 22) rfl V3.heap.size (.slice (some ⟨V3.heap.size, 0, none⟩) 0 0) 0 [] rfl HL4.out _ m.turn.said rfl HR4.out (by omega) (by simp) ?_; intro u4 z4 ho hg; have HG4 := hid (lit_lo hg); have ho2 : OwnStr V3.heap.size z4 u4 m.turn.said := (by simpa [OwnStr] using ho); obtain ⟨ad4, cp4, rfl⟩ := own_formK ho2; have HO4 := hid ho2; have HX4a := hid (HX3b.out.next HG4.out); have y4 : z4.cell? ⟨w.heap.size, 19, none⟩ = some (.slice a4 m.turn.said.length c4) := row_cell HX4a.out.e 19; have f4 : z4.frozen? ⟨w.heap.size, 19, none⟩ = false := (row_room (i := 19) HX4a.out.e (by simp)).2; clear ho ho2 hg)
  have HX4b := hid ((HX4a.out.set 19 (.slice ad4 m.turn.said.length cp4)).cast (C' := #[.int .i64 m.kind, .int .i64 m.to, .int .i64 m.sender, .int .i64 m.epoch, .int .i64 m.edit, .string m.target.name, .string m.target.tool, .string m.target.arg, .slice b0 m.target.ins.length d0, .slice b1 m.target.outs.length d1, .slice ad2 m.seen.length cp2, .int .i64 m.count, .bool m.turn.over, .int .i64 m.turn.code, .string m.turn.text, .int .i64 m.turn.kind, .string m.turn.name, .int .i64 m.turn.steps, .slice ad3 m.turn.files.length cp3, .slice ad4 m.turn.said.length cp4]) rfl)
  obtain ⟨V4, hV4⟩ : ∃ V, z4.setCell ⟨w.heap.size, 19, none⟩ (.slice ad4 m.turn.said.length cp4) = V := ⟨_, rfl⟩
  have HP4 : Hid (OwnStr V3.heap.size V4 (.slice ad4 m.turn.said.length cp4) m.turn.said) := hid (by rw [← hV4]; exact own_set HO4.out (by have := HX3b.out.sz; omega) _ _)
  have HZ4 : Hid (∀ i, V3.heap.size ≤ i → i < z4.heap.size → V4.heap[i]? = z4.heap[i]?) := hid (by rw [← hV4]; exact fun i hi _ => set_other _ _ _ _ _ (by have := HX3b.out.sz; omega))
  have HY4 : Hid (∀ i, w.heap.size + 2 ≤ i → i < V3.heap.size → V4.heap[i]? = V3.heap[i]?) := hid (by rw [← hV4]; exact fun i hi hl => (set_other _ _ _ _ _ (by omega)).trans (HG4.out.block i hl))
  rw [hV4] at HX4b ⊢
  clear hV4 x4 y4 f4 HX4a HL4 HR4
  have HSZ : Hid (w.heap.size + 2 ≤ W0.heap.size ∧ w.heap.size + 2 ≤ V0.heap.size ∧ w.heap.size + 2 ≤ V2.heap.size ∧ w.heap.size + 2 ≤ V3.heap.size) := hid ⟨HX0.out.sz, HXc.out.sz, HX2b.out.sz, HX3b.out.sz⟩
  have HKP : Hid (∀ (B : Nat) (i : Nat), w.heap.size + 2 ≤ B → B ≤ i → i < V0.heap.size → V4.heap[i]? = V0.heap[i]?) := hid fun B i hB hi hl => by
    have h2 := HY2.out i (by omega) hl
    have l2 : i < V2.heap.size := by
      rcases Nat.lt_or_ge i V2.heap.size with h | h
      · exact h
      · rw [Array.getElem?_eq_none h] at h2
        rw [Array.getElem?_eq_getElem hl] at h2
        cases h2
    have h3 := HY3.out i (by omega) l2
    have l3 : i < V3.heap.size := by
      rcases Nat.lt_or_ge i V3.heap.size with h | h
      · exact h
      · rw [Array.getElem?_eq_none h, Array.getElem?_eq_getElem l2] at h3
        cases h3
    exact (HY4.out i (by omega) l3).trans (h3.trans h2)
  have HKP2 : Hid (∀ (B : Nat) (i : Nat), w.heap.size + 2 ≤ B → B ≤ i → i < V2.heap.size → V4.heap[i]? = V2.heap[i]?) := hid fun B i hB hi l2 => by
    have h3 := HY3.out i (by omega) l2
    have l3 : i < V3.heap.size := by
      rcases Nat.lt_or_ge i V3.heap.size with h | h
      · exact h
      · rw [Array.getElem?_eq_none h, Array.getElem?_eq_getElem l2] at h3
        cases h3
    exact (HY4.out i (by omega) l3).trans h3
  have HAP : Hid (Ap (.slice b0 m.target.ins.length d0) (.slice ad4 m.turn.said.length cp4) ∧ Ap (.slice b1 m.target.outs.length d1) (.slice ad4 m.turn.said.length cp4)) := hid (by
    have hsz : V0.heap.size ≤ V3.heap.size := Nat.le_trans HS2.out HS3.out
    exact ⟨ap_of HP0.out.1 HP4.out hsz, ap_of HP0.out.2 HP4.out hsz⟩)
  have HSR := hid (setRow_heap V4 (w.heap.size + 1) _ #[.int .i64 m.kind, .int .i64 m.to, .int .i64 m.sender, .int .i64 m.epoch, .int .i64 m.edit, .string m.target.name, .string m.target.tool, .string m.target.arg, .slice b0 m.target.ins.length d0, .slice b1 m.target.outs.length d1, .slice ad2 m.seen.length cp2, .int .i64 m.count, .bool m.turn.over, .int .i64 m.turn.code, .string m.turn.text, .int .i64 m.turn.kind, .string m.turn.name, .int .i64 m.turn.steps, .slice ad3 m.turn.files.length cp3, .slice ad4 m.turn.said.length cp4] _ _ HX4b.out.r)
  go_wp2_with (first | (refine wpList_load_row rfl 41 _ rfl (w.heap.size) rfl 41 #[.int .i64 m.kind, .int .i64 m.to, .int .i64 m.sender, .int .i64 m.epoch, .int .i64 m.edit, .string m.target.name, .string m.target.tool, .string m.target.arg, .slice b0 m.target.ins.length d0, .slice b1 m.target.outs.length d1, .slice ad2 m.seen.length cp2, .int .i64 m.count, .bool m.turn.over, .int .i64 m.turn.code, .string m.turn.text, .int .i64 m.turn.kind, .string m.turn.name, .int .i64 m.turn.steps, .slice ad3 m.turn.files.length cp3, .slice ad4 m.turn.said.length cp4] (0, 0) _ HX4b.out.e Tryz.underlying41 rfl (by kernel_rfl) ?_) | (refine wpList_store_row rfl 41 _ _ rfl (w.heap.size + 1) #[.int .i64 m.kind, .int .i64 m.to, .int .i64 m.sender, .int .i64 m.epoch, .int .i64 m.edit, .string m.target.name, .string m.target.tool, .string m.target.arg, .slice b0 m.target.ins.length d0, .slice b1 m.target.outs.length d1, .slice ad2 m.seen.length cp2, .int .i64 m.count, .bool m.turn.over, .int .i64 m.turn.code, .string m.turn.text, .int .i64 m.turn.kind, .string m.turn.name, .int .i64 m.turn.steps, .slice ad3 m.turn.files.length cp3, .slice ad4 m.turn.said.length cp4] rfl rfl 41 _ HX4b.out.r (by kernel_rfl) rfl (by simp [Value.oneCell']) ?_))
  refine bodyPost_ret (v := .agg #[.int .i64 m.kind, .int .i64 m.to, .int .i64 m.sender, .int .i64 m.epoch, .int .i64 m.edit, .string m.target.name, .string m.target.tool, .string m.target.arg, .slice b0 m.target.ins.length d0, .slice b1 m.target.outs.length d1, .slice ad2 m.seen.length cp2, .int .i64 m.count, .bool m.turn.over, .int .i64 m.turn.code, .string m.turn.text, .int .i64 m.turn.kind, .string m.turn.name, .int .i64 m.turn.steps, .slice ad3 m.turn.files.length cp3, .slice ad4 m.turn.said.length cp4]) ?_ rfl ⟨_, _, _, _, _, rfl, OwnMs.mono (B := w.heap.size + 2) (OwnMs.hp (W := V4) ⟨?_, ?_, ?_, ?_, ?_, HA01.out, HAP.out.1, HAP.out.2⟩ fun i hi _ => setRow_other V4 _ i _ (by omega)) (by omega), below_setRow HX4b.out.lo (by omega) _⟩
  · exact results_cell_row Tryz.results28 _ _ (w.heap.size + 1) 41 #[.int .i64 m.kind, .int .i64 m.to, .int .i64 m.sender, .int .i64 m.epoch, .int .i64 m.edit, .string m.target.name, .string m.target.tool, .string m.target.arg, .slice b0 m.target.ins.length d0, .slice b1 m.target.outs.length d1, .slice ad2 m.seen.length cp2, .int .i64 m.count, .bool m.turn.over, .int .i64 m.turn.code, .string m.turn.text, .int .i64 m.turn.kind, .string m.turn.name, .int .i64 m.turn.steps, .slice ad3 m.turn.files.length cp3, .slice ad4 m.turn.said.length cp4] (0, 0) _ rfl HSR.out Tryz.underlying41 rfl (by kernel_rfl)
  · exact own_monoK (own_hp HP0.out.1 fun i hi hl => HKP.out W0.heap.size i HSZ.out.1 hi hl) HSZ.out.1
  · exact own_monoK (own_hp HP0.out.2 fun i hi hl => HKP.out W0.heap.size i HSZ.out.1 hi hl) HSZ.out.1
  · exact own_monoK (own_hp HP2.out fun i hi hl => HKP2.out V0.heap.size i HSZ.out.2.1 hi hl) HSZ.out.2.1
  · exact own_monoK (own_hp HP3.out fun i hi hl => HY4.out i (by have := HSZ.out.2.2.1; omega) hl) HSZ.out.2.2.1
  · exact own_monoK HP4.out HSZ.out.2.2.2
end Go.Proofs.YtlopcjhipajdcaaGreatDoor.Y
/-! The table of messages. Printed by gen_ymail.py. -/
namespace Go.Proofs.YtlopcjhipajdcaaGreatDoor.Y
open Go.RowKit R
open Go.Proofs.YtlopcjhipajdcaaGreatDoor.J (FileOk BegOk RepOk ltB Says says_t says_f)
set_option maxRecDepth 20000
set_option maxHeartbeats 4000000 in
theorem mails_any (w : World) : Calls Tryz.prog 84 #[] w fun e w' => e = .returned (.agg #[.string ⟨#[]⟩, .nilFunc, .nilFunc, .nilFunc, .nilFunc, .nilFunc, .string ⟨#[111, 102, 102, 101, 114]⟩, .func (.func 100) #[] #[], .func (.func 101) #[] #[], .func (.func 102) #[] #[], .func (.func 103) #[] #[], .func (.func 104) #[] #[], .string ⟨#[116, 117, 114, 110]⟩, .func (.func 105) #[] #[], .func (.func 106) #[] #[], .func (.func 107) #[] #[], .func (.func 108) #[] #[], .func (.func 109) #[] #[], .string ⟨#[104, 101, 114, 101]⟩, .func (.func 110) #[] #[], .func (.func 111) #[] #[], .func (.func 112) #[] #[], .func (.func 113) #[] #[], .func (.func 114) #[] #[]]) ∧ Below w.heap.size w w' := by
  have HB0 := hid (B1.start w (.cells #[.string ⟨#[]⟩, .nilFunc, .nilFunc, .nilFunc, .nilFunc, .nilFunc, .string ⟨#[]⟩, .nilFunc, .nilFunc, .nilFunc, .nilFunc, .nilFunc, .string ⟨#[]⟩, .nilFunc, .nilFunc, .nilFunc, .nilFunc, .nilFunc, .string ⟨#[]⟩, .nilFunc, .nilFunc, .nilFunc, .nilFunc, .nilFunc] 120))
  obtain ⟨W0, hW0⟩ : ∃ W, w.alloc (.cells #[.string ⟨#[]⟩, .nilFunc, .nilFunc, .nilFunc, .nilFunc, .nilFunc, .string ⟨#[]⟩, .nilFunc, .nilFunc, .nilFunc, .nilFunc, .nilFunc, .string ⟨#[]⟩, .nilFunc, .nilFunc, .nilFunc, .nilFunc, .nilFunc, .string ⟨#[]⟩, .nilFunc, .nilFunc, .nilFunc, .nilFunc, .nilFunc] 120) = W := ⟨_, rfl⟩
  rw [hW0] at HB0
  go_enter Tryz.func84, Tryz.ntmps84
  go_upto_region 1 with fail
  clear hW0
  have HSR : Hid ((W0.setRow w.heap.size #[.string ⟨#[]⟩, .nilFunc, .nilFunc, .nilFunc, .nilFunc, .nilFunc, .string ⟨#[111, 102, 102, 101, 114]⟩, .func (.func 100) #[] #[], .func (.func 101) #[] #[], .func (.func 102) #[] #[], .func (.func 103) #[] #[], .func (.func 104) #[] #[], .string ⟨#[116, 117, 114, 110]⟩, .func (.func 105) #[] #[], .func (.func 106) #[] #[], .func (.func 107) #[] #[], .func (.func 108) #[] #[], .func (.func 109) #[] #[], .string ⟨#[104, 101, 114, 101]⟩, .func (.func 110) #[] #[], .func (.func 111) #[] #[], .func (.func 112) #[] #[], .func (.func 113) #[] #[], .func (.func 114) #[] #[]]).heap[w.heap.size]? = some (.cells #[.string ⟨#[]⟩, .nilFunc, .nilFunc, .nilFunc, .nilFunc, .nilFunc, .string ⟨#[111, 102, 102, 101, 114]⟩, .func (.func 100) #[] #[], .func (.func 101) #[] #[], .func (.func 102) #[] #[], .func (.func 103) #[] #[], .func (.func 104) #[] #[], .string ⟨#[116, 117, 114, 110]⟩, .func (.func 105) #[] #[], .func (.func 106) #[] #[], .func (.func 107) #[] #[], .func (.func 108) #[] #[], .func (.func 109) #[] #[], .string ⟨#[104, 101, 114, 101]⟩, .func (.func 110) #[] #[], .func (.func 111) #[] #[], .func (.func 112) #[] #[], .func (.func 113) #[] #[], .func (.func 114) #[] #[]] 120 (0, 0))) := hid (setRow_heap _ _ _ _ _ _ HB0.out.e)
  go_wp2_with (refine wpList_store_row rfl 120 _ _ rfl w.heap.size #[.string ⟨#[]⟩, .nilFunc, .nilFunc, .nilFunc, .nilFunc, .nilFunc, .string ⟨#[111, 102, 102, 101, 114]⟩, .func (.func 100) #[] #[], .func (.func 101) #[] #[], .func (.func 102) #[] #[], .func (.func 103) #[] #[], .func (.func 104) #[] #[], .string ⟨#[116, 117, 114, 110]⟩, .func (.func 105) #[] #[], .func (.func 106) #[] #[], .func (.func 107) #[] #[], .func (.func 108) #[] #[], .func (.func 109) #[] #[], .string ⟨#[104, 101, 114, 101]⟩, .func (.func 110) #[] #[], .func (.func 111) #[] #[], .func (.func 112) #[] #[], .func (.func 113) #[] #[], .func (.func 114) #[] #[]] rfl rfl 120 _ HB0.out.e (by kernel_rfl) rfl (by simp [Value.oneCell']) ?_)
  refine bodyPost_ret (v := .agg #[.string ⟨#[]⟩, .nilFunc, .nilFunc, .nilFunc, .nilFunc, .nilFunc, .string ⟨#[111, 102, 102, 101, 114]⟩, .func (.func 100) #[] #[], .func (.func 101) #[] #[], .func (.func 102) #[] #[], .func (.func 103) #[] #[], .func (.func 104) #[] #[], .string ⟨#[116, 117, 114, 110]⟩, .func (.func 105) #[] #[], .func (.func 106) #[] #[], .func (.func 107) #[] #[], .func (.func 108) #[] #[], .func (.func 109) #[] #[], .string ⟨#[104, 101, 114, 101]⟩, .func (.func 110) #[] #[], .func (.func 111) #[] #[], .func (.func 112) #[] #[], .func (.func 113) #[] #[], .func (.func 114) #[] #[]]) ?_ rfl ⟨rfl, below_setRow HB0.out.lo (by omega) _⟩
  exact results_cell_row Tryz.results84 _ _ w.heap.size 120 #[.string ⟨#[]⟩, .nilFunc, .nilFunc, .nilFunc, .nilFunc, .nilFunc, .string ⟨#[111, 102, 102, 101, 114]⟩, .func (.func 100) #[] #[], .func (.func 101) #[] #[], .func (.func 102) #[] #[], .func (.func 103) #[] #[], .func (.func 104) #[] #[], .string ⟨#[116, 117, 114, 110]⟩, .func (.func 105) #[] #[], .func (.func 106) #[] #[], .func (.func 107) #[] #[], .func (.func 108) #[] #[], .func (.func 109) #[] #[], .string ⟨#[104, 101, 114, 101]⟩, .func (.func 110) #[] #[], .func (.func 111) #[] #[], .func (.func 112) #[] #[], .func (.func 113) #[] #[], .func (.func 114) #[] #[]] (0, 0) _ rfl HSR.out Tryz.underlying120 rfl (by kernel_rfl)
set_option maxHeartbeats 4000000 in
theorem mails_ix (W : World) : (Instr.index 120 (.agg #[.string ⟨#[]⟩, .nilFunc, .nilFunc, .nilFunc, .nilFunc, .nilFunc, .string ⟨#[111, 102, 102, 101, 114]⟩, .func (.func 100) #[] #[], .func (.func 101) #[] #[], .func (.func 102) #[] #[], .func (.func 103) #[] #[], .func (.func 104) #[] #[], .string ⟨#[116, 117, 114, 110]⟩, .func (.func 105) #[] #[], .func (.func 106) #[] #[], .func (.func 107) #[] #[], .func (.func 108) #[] #[], .func (.func 109) #[] #[], .string ⟨#[104, 101, 114, 101]⟩, .func (.func 110) #[] #[], .func (.func 111) #[] #[], .func (.func 112) #[] #[], .func (.func 113) #[] #[], .func (.func 114) #[] #[]]) (.int .i64 1)).run Tryz.prog W = .ok (.agg #[.string ⟨#[111, 102, 102, 101, 114]⟩, .func (.func 100) #[] #[], .func (.func 101) #[] #[], .func (.func 102) #[] #[], .func (.func 103) #[] #[], .func (.func 104) #[] #[]]) W := by
  simp [Instr.index, run_underlying Tryz.underlying120, asIntOf, go_sem]
end Go.Proofs.YtlopcjhipajdcaaGreatDoor.Y
