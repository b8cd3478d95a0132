import Derived.Deep.MidRow
import Derived.Deep.DeepCutAuto
import Derived.Test.YtlopcjhipajdcaaGreatDoorJ33
/-! The size of a worker. -/
namespace Go.Proofs.YtlopcjhipajdcaaGreatDoor.R
open Go.RowKit
set_option maxRecDepth 20000
theorem range_mid {W : World} {b o : Nat} {t : TypeId} {fr : Nat × Nat} (pre cs post : List Value) (h : W.heap[b]? = some (.cells (pre ++ (cs ++ post)).toArray t fr)) (ho : o = pre.length) : W.rangeAt b o cs := fun j v hv => by
  subst ho
  rw [cell_of_row W b (pre.length + j) _ t fr h]
  have hj := (List.getElem?_eq_some_iff.1 hv).1
  rw [List.getElem?_toArray, List.getElem?_append_right (by omega), Nat.add_sub_cancel_left, List.getElem?_append_left hj]
  exact hv
theorem there_block {W : World} {b o n : Nat} {C : Array Value} {t : TypeId} (h : W.heap[b]? = some (.cells C t (0, 0))) (hn : o + n ≤ C.size) : W.there b o n := fun j hj => by
  have h2 := row_room (i := o + j) h (by omega)
  obtain ⟨⟨v, hv⟩, hf⟩ := h2
  exact ⟨by rw [hv]; rfl, hf⟩
set_option maxHeartbeats 2000000 in
theorem szWk_any (x : Wk) {v0 v1 v2 v3 v4 : Value} (l : Int) (w : World) (hl : 0 ≤ l) (hl2 : l ≤ 1048576) (hx : OkWk x) (k0 : SStrA w v0 x.offer.target.ins) (k1 : SStrA w v1 x.offer.target.outs) (k2 : SSnA w v2 x.offer.seen) (k3 : SFlA w v3 x.offer.turn.files) (k4 : SStrA w v4 x.offer.turn.said) :
    Calls Tryz.prog 5 #[.agg #[.int .i64 x.number, .bool x.up, .bool x.has, .int .i64 x.offer.kind, .int .i64 x.offer.to, .int .i64 x.offer.sender, .int .i64 x.offer.epoch, .int .i64 x.offer.edit, .string x.offer.target.name, .string x.offer.target.tool, .string x.offer.target.arg, v0, v1, v2, .int .i64 x.offer.count, .bool x.offer.turn.over, .int .i64 x.offer.turn.code, .string x.offer.turn.text, .int .i64 x.offer.turn.kind, .string x.offer.turn.name, .int .i64 x.offer.turn.steps, v3, v4], .int .i64 l] w (SzEnd l (wWk x) w) := by
  obtain ⟨hx0, hx1, hx2, hx3⟩ := hx
  have HB0 := hid (B1.start w (.cells #[.int .i64 x.number, .bool x.up, .bool x.has, .int .i64 x.offer.kind, .int .i64 x.offer.to, .int .i64 x.offer.sender, .int .i64 x.offer.epoch, .int .i64 x.offer.edit, .string x.offer.target.name, .string x.offer.target.tool, .string x.offer.target.arg, v0, v1, v2, .int .i64 x.offer.count, .bool x.offer.turn.over, .int .i64 x.offer.turn.code, .string x.offer.turn.text, .int .i64 x.offer.turn.kind, .string x.offer.turn.name, .int .i64 x.offer.turn.steps, v3, v4] 32))
  have K0 := hid (k0.next HB0.out.lo)
  have K1 := hid (k1.next HB0.out.lo)
  have K2 := hid (k2.next HB0.out.lo)
  have K3 := hid (k3.next HB0.out.lo)
  have K4 := hid (k4.next HB0.out.lo)
  obtain ⟨ad0, cp0, rfl⟩ := k0.sl
  obtain ⟨ad1, cp1, rfl⟩ := k1.sl
  obtain ⟨ad2, cp2, rfl⟩ := k2.sl
  obtain ⟨ad3, cp3, rfl⟩ := k3.sl
  obtain ⟨ad4, cp4, rfl⟩ := k4.sl
  clear k0 k1 k2 k3 k4
  go_enter Tryz.func5, Tryz.ntmps5
  go_upto_region 1 with fail
  obtain ⟨W0, hW0⟩ : ∃ W, w.alloc (.cells #[.int .i64 x.number, .bool x.up, .bool x.has, .int .i64 x.offer.kind, .int .i64 x.offer.to, .int .i64 x.offer.sender, .int .i64 x.offer.epoch, .int .i64 x.offer.edit, .string x.offer.target.name, .string x.offer.target.tool, .string x.offer.target.arg, .slice ad0 x.offer.target.ins.length cp0, .slice ad1 x.offer.target.outs.length cp1, .slice ad2 x.offer.seen.length cp2, .int .i64 x.offer.count, .bool x.offer.turn.over, .int .i64 x.offer.turn.code, .string x.offer.turn.text, .int .i64 x.offer.turn.kind, .string x.offer.turn.name, .int .i64 x.offer.turn.steps, .slice ad3 x.offer.turn.files.length cp3, .slice ad4 x.offer.turn.said.length cp4] 32) = W := ⟨_, rfl⟩
  rw [hW0] at HB0 K0 K1 K2 K3 K4 ⊢
  clear hW0
  have HM : Hid (W0.rangeAt w.heap.size 3 [.int .i64 x.offer.kind, .int .i64 x.offer.to, .int .i64 x.offer.sender, .int .i64 x.offer.epoch, .int .i64 x.offer.edit, .string x.offer.target.name, .string x.offer.target.tool, .string x.offer.target.arg, .slice ad0 x.offer.target.ins.length cp0, .slice ad1 x.offer.target.outs.length cp1, .slice ad2 x.offer.seen.length cp2, .int .i64 x.offer.count, .bool x.offer.turn.over, .int .i64 x.offer.turn.code, .string x.offer.turn.text, .int .i64 x.offer.turn.kind, .string x.offer.turn.name, .int .i64 x.offer.turn.steps, .slice ad3 x.offer.turn.files.length cp3, .slice ad4 x.offer.turn.said.length cp4]) := range_mid [.int .i64 x.number, .bool x.up, .bool x.has] _ [] HB0.out.e rfl
  go_wp2_with (first | (refine wpList_load_mid rfl 30 _ rfl w.heap.size 3 rfl [.int .i64 x.offer.kind, .int .i64 x.offer.to, .int .i64 x.offer.sender, .int .i64 x.offer.epoch, .int .i64 x.offer.edit, .string x.offer.target.name, .string x.offer.target.tool, .string x.offer.target.arg, .slice ad0 x.offer.target.ins.length cp0, .slice ad1 x.offer.target.outs.length cp1, .slice ad2 x.offer.seen.length cp2, .int .i64 x.offer.count, .bool x.offer.turn.over, .int .i64 x.offer.turn.code, .string x.offer.turn.text, .int .i64 x.offer.turn.kind, .string x.offer.turn.name, .int .i64 x.offer.turn.steps, .slice ad3 x.offer.turn.files.length cp3, .slice ad4 x.offer.turn.said.length cp4] _ HM.out Tryz.underlying30 rfl (by kernel_rfl) ?_))
  refine (szMs_any x.offer _ _ (by omega) (by omega) hx3 (K0.out) (K1.out) (K2.out) (K3.out) (K4.out)).mono ?_
  rintro e w1 ⟨⟨r0, rfl, p0, q0, h0⟩, hb0⟩
  have HP0 := hid h0
  have HB1 := hid (HB0.out.next hb0)
  clear h0 hb0
  by_cases c3 : r0 < 0
  · go_wp2
    go_ret
    exact ⟨⟨_, rfl, by omega, by omega, fun h => by omega⟩, HB1.out.lo⟩
  · go_wp2
    go_ret
    refine ⟨⟨_, rfl, by omega, by omega, fun h => ?_⟩, HB1.out.lo⟩
    have eHP0 := HP0.out (by omega)
    simp only [wWk]
    omega
end Go.Proofs.YtlopcjhipajdcaaGreatDoor.R
