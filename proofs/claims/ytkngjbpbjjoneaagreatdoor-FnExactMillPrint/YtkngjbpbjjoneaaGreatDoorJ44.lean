import Derived.Test.YtkngjbpbjjoneaaGreatDoorJ42
import Derived.Test.YtkngjbpbjjoneaaGreatDoorJ13
import Derived.Test.YtkngjbpbjjoneaaGreatDoorJ41
import Derived.Test.YtkngjbpbjjoneaaGreatDoorJ43
/-! Printed by gen_we.py. -/
namespace Go.Proofs.YtkngjbpbjjoneaaGreatDoor.Q
open Go.RowKit Go.Shelf
set_option maxRecDepth 20000
set_option maxHeartbeats 4000000 in
theorem we_9 {nd : Nat → Nd} {O : List (List Nat)} {N : Nat} {pv : Nat → Value} {B b d : Nat} {j : Nat} {op ty n kids : Int} {t : ByteArray} {ks : List Nat} (C : PCtx nd O N j ⟨9, op, ty, n, t, kids⟩ ks) (hW : ∀ k ∈ ks, WriteOk nd O N pv B b d (pv k) (tvE nd O k)) : CallOk 58 nd O N pv B b d (pv j) (tvE nd O j) := by
  intro l W h hl
  have H := hid h
  have HC := hid C
  have hpl := (plain_9 _ _ _ _ _).1 C.plain
  have hko := (ko_9 _ _ _ _ _ _ _).1 C.kidsOk
  have hbl := h.wr.lt
  have hv := pa_9.1 (C.part h)
  have hif := C.ifs h
  obtain ⟨a, rfl⟩ := List.length_eq_one_iff.1 hko.1
  obtain ⟨T0, y0, e0⟩ : ∃ T y, pv a = .iface T y := hif a (by simp)
  have E0 := hid e0
  have hv2 : pv j = .iface 155 (.agg #[.int .i64 ty, .iface T0 y0]) := by rw [hv]; show _ = _; rw [← e0]; rfl
  rw [hv2]
  clear hif hv hv2 e0
  clear h C
  obtain ⟨rfl, rfl, _, hty1, hty2⟩ := hpl
  clear hko
  obtain ⟨P, rfl⟩ := Int.eq_ofNat_of_zero_le (show 0 ≤ ty by omega)
  have i1 : (P : Int) < 11 := by omega
  have i0 : (0 : Int) ≤ (P : Int) := by omega
  have HT : Hid (tvE nd O j = twB (P : Int) ++ [40] ++ tvE nd O a ++ [41]) := HC.out.tv.trans (by simp [eOf, joinOf])
  rw [HT.out] at hl ⊢
  simp only [List.length_append, List.length_cons, List.length_nil] at hl
  obtain ⟨Y, hY⟩ : ∃ Y : ByteArray, (⟨(twB (P : Int)).toArray⟩ : ByteArray) = Y := ⟨_, rfl⟩
  have HY : Hid (Y.data.toList = twB (P : Int)) := by show _ = _; rw [← hY]
  have HEN : Hid (∀ V, EnvP V → V.cell? ⟨0, P, none⟩ = some (.string Y)) := fun V hV => by rw [← hY]; exact hV.tw P (by omega) (by omega)
  have hYs : Y.size ≤ 4 := by rw [← len_size, HY.out]; exact twB_len _
  clear hY
  have HW := hid (hW a (by simp))
  have H0 := hid (H.out.next ((Below.refl W.heap.size W).alloc (Nat.le_refl _) (.cells #[.int .i64 (P : Int), .iface T0 y0] 155)))
  have HK0 := hid (Wk.refl B b (W.alloc (.cells #[.int .i64 (P : Int), .iface T0 y0] 155)))
  have HX : Hid (∀ V, Wk B b (W.alloc (.cells #[.int .i64 (P : Int), .iface T0 y0] 155)) V → V.cell? ⟨W.heap.size, 0, none⟩ = some (.int .i64 (P : Int)) ∧ V.cell? ⟨W.heap.size, 1, none⟩ = some (.iface T0 y0)) := fun V h => ⟨box_keep (by decide) hbl h 0, box_keep (by decide) hbl h 1⟩
  have HWK : Hid (∀ V, Wk B b (W.alloc (.cells #[.int .i64 (P : Int), .iface T0 y0] 155)) V → Wk B b W V) := fun V h => (Wk.of_below ((Below.refl W.heap.size W).alloc (Nat.le_refl _) (.cells #[.int .i64 (P : Int), .iface T0 y0] 155))).trans h
  have t1 := fun (v : Value) (W : World) => tn_1 155 v W (by decide)
  have t2 := fun (v : Value) (W : World) => tn_2 155 v W (by decide)
  have t3 := fun (v : Value) (W : World) => tn_3 155 v W (by decide)
  have t4 := fun (v : Value) (W : World) => tn_4 155 v W (by decide)
  have t5 := fun (v : Value) (W : World) => tn_5 155 v W (by decide)
  have t6 := fun (v : Value) (W : World) => tn_6 155 v W (by decide)
  have t7 := fun (v : Value) (W : World) => tn_7 155 v W (by decide)
  have t8 := fun (v : Value) (W : World) => tn_8 155 v W (by decide)
  have t9 := ta_9
  go_enter Tryz.func58, Tryz.ntmps58
  go_wp2_with fail
  obtain ⟨w0, hw0⟩ : ∃ w0, W.alloc (.cells #[.int .i64 (P : Int), .iface T0 y0] 155) = w0 := ⟨_, rfl⟩
  obtain ⟨gx, hgx⟩ : ∃ gx, W.heap.size = gx := ⟨_, rfl⟩
  have HGX := hid hgx
  have HW0 := hid hw0
  have hgl0 : gx < w0.heap.size := by rw [← hw0, ← hgx]; simp
  rw [hw0] at H0 HK0 HX HWK
  rw [hgx] at HX
  rw [hw0, hgx]
  clear hw0 hgx
  have HD0 := hid (H0.out.next (Below.refl (w0).heap.size (w0)).drew)
  have HKD0 := hid (HK0.out.trans (Wk.of_below (Below.refl (w0).heap.size (w0)).drew))
  have HKA0 := hid (fun X => HK0.out.trans (Wk.of_below (((Below.refl (w0).heap.size (w0)).alloc (Nat.le_refl _) X).drew)))
  have HSA0 := hid (fun X => H0.out.next (((Below.refl (w0).heap.size (w0)).alloc (Nat.le_refl _) X).drew))
  go_region_held3 (fun V => (V.cell? ⟨gx, 0, none⟩ = some (.int .i64 (P : Int)) ∧ V.cell? ⟨gx, 1, none⟩ = some (.iface T0 y0)) ∧ V.cell? ⟨0, P, none⟩ = some (.string Y)) (first | (exact ⟨HX.out _ HK1.out, HEN.out _ (H1.out).env⟩) | (exact ⟨HX.out _ (HKB0.out _), HEN.out _ (HSB0.out _).env⟩) | (exact ⟨HX.out _ HKM0.out, HEN.out _ (HM0.out).env⟩) | (exact ⟨HX.out _ (HKA0.out _), HEN.out _ (HSA0.out _).env⟩) | (exact ⟨HX.out _ HKD0.out, HEN.out _ (HD0.out).env⟩) | go_keep) (first
    | (go_at_call 30; refine (put1S Y _ HD0.out (by omega)).mono ?_; rintro e w1 ⟨rfl, hs, hk⟩; have H1 := hid hs; have HK1 := hid (HKD0.out.trans hk); clear hs hk)
    | fail)
  obtain ⟨x0, x1⟩ := HX.out _ HK1.out
  have HBR := hid (bracketed1 (T := tvE nd O a) a w1 H1.out ⟨_, _, E0.out⟩ HW.out (by rw [List.length_append, HY.out]; omega))
  rw [E0.out] at HBR
  go_wp2_with fail
  refine HBR.out.mono ?_
  rintro e w2 ⟨rfl, hs, hk⟩
  have H2 := hid hs
  have HK2 := hid (HK1.out.trans hk)
  clear hs hk
  go_wp2
  go_end0
  exact ⟨rfl, by have := H2.out; simpa [HY.out] using this, HWK.out _ HK2.out⟩
end Go.Proofs.YtkngjbpbjjoneaaGreatDoor.Q
/-! Printed by gen_we.py. -/
namespace Go.Proofs.YtkngjbpbjjoneaaGreatDoor.Q
open Go.RowKit Go.Shelf
set_option maxRecDepth 20000
theorem we_all {nd : Nat → Nd} {O : List (List Nat)} {N : Nat} {pv : Nat → Value} {B b d : Nat} {j : Nat} (hg : Good nd O N) (hj : j < N) (hE : mE (nd j).kind) (hW : ∀ k ∈ O.getD j [], WriteOk nd O N pv B b d (pv k) (tvE nd O k)) : CallOk 58 nd O N pv B b d (pv j) (tvE nd O j) := by
  have hf := hg.fit j hj
  obtain ⟨ks, hks⟩ : ∃ ks, O.getD j [] = ks := ⟨_, rfl⟩
  obtain ⟨x, hx⟩ : ∃ x, nd j = x := ⟨_, rfl⟩
  have hp := hf.1
  have hk := hf.2
  rw [hks] at hk hW
  rw [hx] at hp hk hE
  have C : PCtx nd O N j x ks := ⟨hg, hj, hx, hks, hp, hk⟩
  obtain ⟨kd, op, ty, n, t, kids⟩ := x
  have h19 : 1 ≤ kd ∧ kd ≤ 9 := hE
  obtain rfl | rfl | rfl | rfl | rfl | rfl | rfl | rfl | rfl : kd = 1 ∨ kd = 2 ∨ kd = 3 ∨ kd = 4 ∨ kd = 5 ∨ kd = 6 ∨ kd = 7 ∨ kd = 8 ∨ kd = 9 := by omega
  · exact we_1 C
  · exact we_2 C
  · exact we_3 C
  · exact we_4 C
  · exact we_5 C hW
  · exact we_6 C hW
  · exact we_7 C hW
  · exact we_8 C hW
  · exact we_9 C hW
/-- The type of a part that is no E. -/
def IsE (v : Value) : Prop := ∃ T y, v = .iface T y ∧ (T = 139 ∨ T = 141 ∨ T = 143 ∨ T = 145 ∨ T = 147 ∨ T = 149 ∨ T = 151 ∨ T = 153 ∨ T = 155)
def IsS (v : Value) : Prop := ∃ T y, v = .iface T y ∧ (T = 119 ∨ T = 121 ∨ T = 123 ∨ T = 125 ∨ T = 127 ∨ T = 128 ∨ T = 130 ∨ T = 132 ∨ T = 134 ∨ T = 135 ∨ T = 137)
set_option maxHeartbeats 2000000 in
theorem st_of_e {nd : Nat → Nd} {O : List (List Nat)} {N : Nat} {pv : Nat → Value} {B b d : Nat} {v : Value} {T : List UInt8} (hv : IsE v) (hC : CallOk 58 nd O N pv B b d v T) : CallOk 33 nd O N pv B b d v T := by
  intro l W h hl
  obtain ⟨U, y, rfl, hU⟩ := hv
  have H := hid (hC l W h hl)
  clear h hC
  have t10 := fun (v : Value) (W : World) => tn_10 U v W (by rcases hU with rfl | rfl | rfl | rfl | rfl | rfl | rfl | rfl | rfl <;> decide)
  have t11 := fun (v : Value) (W : World) => tn_11 U v W (by rcases hU with rfl | rfl | rfl | rfl | rfl | rfl | rfl | rfl | rfl <;> decide)
  have t12 := fun (v : Value) (W : World) => tn_12 U v W (by rcases hU with rfl | rfl | rfl | rfl | rfl | rfl | rfl | rfl | rfl <;> decide)
  have t13 := fun (v : Value) (W : World) => tn_13 U v W (by rcases hU with rfl | rfl | rfl | rfl | rfl | rfl | rfl | rfl | rfl <;> decide)
  have t14 := fun (v : Value) (W : World) => tn_14 U v W (by rcases hU with rfl | rfl | rfl | rfl | rfl | rfl | rfl | rfl | rfl <;> decide)
  have t15 := fun (v : Value) (W : World) => tn_15 U v W (by rcases hU with rfl | rfl | rfl | rfl | rfl | rfl | rfl | rfl | rfl <;> decide)
  have t16 := fun (v : Value) (W : World) => tn_16 U v W (by rcases hU with rfl | rfl | rfl | rfl | rfl | rfl | rfl | rfl | rfl <;> decide)
  have t17 := fun (v : Value) (W : World) => tn_17 U v W (by rcases hU with rfl | rfl | rfl | rfl | rfl | rfl | rfl | rfl | rfl <;> decide)
  have t18 := fun (v : Value) (W : World) => tn_18 U v W (by rcases hU with rfl | rfl | rfl | rfl | rfl | rfl | rfl | rfl | rfl <;> decide)
  have t19 := fun (v : Value) (W : World) => tn_19 U v W (by rcases hU with rfl | rfl | rfl | rfl | rfl | rfl | rfl | rfl | rfl <;> decide)
  have t20 := fun (v : Value) (W : World) => tn_20 U v W (by rcases hU with rfl | rfl | rfl | rfl | rfl | rfl | rfl | rfl | rfl <;> decide)
  clear hU
  go_enter Tryz.func33, Tryz.ntmps33
  go_wp2_with fail
  refine H.out.mono ?_
  rintro e w1 ⟨rfl, hs, hk⟩
  have H1 := hid (And.intro hs hk)
  clear hs hk
  go_wp2
  go_end0
  exact ⟨rfl, H1.out.1, H1.out.2⟩
set_option maxHeartbeats 2000000 in
theorem write_of_st {nd : Nat → Nd} {O : List (List Nat)} {N : Nat} {pv : Nat → Value} {B b d : Nat} {v : Value} {T : List UInt8} (hv : IsE v ∨ IsS v) (hC : CallOk 33 nd O N pv B b d v T) : WriteOk nd O N pv B b d v T := by
  intro l W h hl
  obtain ⟨U, y, rfl, hU⟩ : ∃ U y, v = .iface U y ∧ U ≠ 78 ∧ U ≠ 81 ∧ U ≠ 87 ∧ U ≠ 89 := by
    rcases hv with ⟨U, y, e, hU⟩ | ⟨U, y, e, hU⟩
    · exact ⟨U, y, e, by rcases hU with rfl | rfl | rfl | rfl | rfl | rfl | rfl | rfl | rfl <;> decide⟩
    · exact ⟨U, y, e, by rcases hU with rfl | rfl | rfl | rfl | rfl | rfl | rfl | rfl | rfl | rfl | rfl <;> decide⟩
  have H := hid h
  have HC := hid (hC l W h hl)
  have t24 := fun (v : Value) (W : World) => tn_24 U v W hU.1
  have t23 := fun (v : Value) (W : World) => tn_23 U v W hU.2.1
  have t22 := fun (v : Value) (W : World) => tn_22 U v W hU.2.2.1
  have t21 := fun (v : Value) (W : World) => tn_21 U v W hU.2.2.2
  clear h hC hU
  go_enter Tryz.func15, Tryz.ntmps15
  go_wp2_with fail
  refine (lenS _ H.out).mono ?_
  rintro e w1 ⟨⟨n, rfl, hn⟩, hw1⟩
  have e1 := hw1.symm
  subst e1
  by_cases h12 : 12000 < n
  · have HS := hid (hn h12 T)
    have h12' : (12000 : Int) < (n : Int) := by omega
    clear hn
    go_wp2
    go_end0
    exact ⟨rfl, HS.out, Wk.refl _ _ _⟩
  · have h12' : (n : Int) ≤ 12000 := by omega
    clear hn
    go_wp2_with fail
    refine HC.out.mono ?_
    rintro e w1 ⟨rfl, hs, hk⟩
    have H1 := hid (And.intro hs hk)
    clear hs hk
    go_wp2
    go_end0
    exact ⟨rfl, H1.out.1, H1.out.2⟩
end Go.Proofs.YtkngjbpbjjoneaaGreatDoor.Q
/-! Printed by gen_we.py. -/
namespace Go.Proofs.YtkngjbpbjjoneaaGreatDoor.Q
open Go.RowKit Go.Shelf
set_option maxRecDepth 20000
/-- The text of a node, where it stands in d blocks. -/
def txt (nd : Nat → Nd) (O : List (List Nat)) (d k : Nat) : List UInt8 :=
  if (nd k).kind ≤ 9 then tvE nd O k else if (nd k).kind = 21 then bodyOf O (svS nd O) d k else if (nd k).kind = 22 then parOf nd k else if (nd k).kind = 23 then fnT nd O k else svS nd O d k
theorem txt_E {nd : Nat → Nd} {O : List (List Nat)} {d k : Nat} (h : mE (nd k).kind) : txt nd O d k = tvE nd O k := if_pos h.2
theorem txt_21 {nd : Nat → Nd} {O : List (List Nat)} {d k : Nat} (h : (nd k).kind = 21) : txt nd O d k = bodyOf O (svS nd O) d k := by simp [txt, h]
theorem txt_22 {nd : Nat → Nd} {O : List (List Nat)} {d k : Nat} (h : (nd k).kind = 22) : txt nd O d k = parOf nd k := by simp [txt, h]
theorem txt_23 {nd : Nat → Nd} {O : List (List Nat)} {d k : Nat} (h : (nd k).kind = 23) : txt nd O d k = fnT nd O k := by simp [txt, h]
theorem txt_S {nd : Nat → Nd} {O : List (List Nat)} {d k : Nat} (h : mS (nd k).kind) : txt nd O d k = svS nd O d k := by
  unfold mS at h
  unfold txt
  rw [if_neg (by omega), if_neg (by omega), if_neg (by omega), if_neg (by omega)]
theorem PCtx.sv {nd : Nat → Nd} {O : List (List Nat)} {N j : Nat} {x : Nd} {ks : List Nat} (h : PCtx nd O N j x ks) (d : Nat) : svS nd O d j = sOf nd O (tvE nd O) (svS nd O) d j := svS_eq h.good.down d j
theorem set_heap2 {w : World} {b : Nat} {p v x q : Value} {T : TypeId} (h : w.heap[b]? = some (.cells #[p, v, x] T (0, 0))) : (w.setCell ⟨b, 2, none⟩ q).heap[b]? = some (.cells #[p, v, q] T (0, 0)) := by
  simp [World.setCell, Array.getElem?_modify, h]
theorem WrS.fz {B b d : Nat} {l : List UInt8} {w : World} (h : WrS B b d l w) : w.frozen? ⟨b, 2, none⟩ = false := by
  obtain ⟨l', ⟨p, v, _, h1⟩, _⟩ := h
  exact Lib.frozen_of_heap h1.blk 2
theorem St.setX {nd : Nat → Nd} {O : List (List Nat)} {N : Nat} {pv : Nat → Value} {B b d : Nat} {l : List UInt8} {W : World} (h : St nd O N pv B b d l W) (d' : Nat) : St nd O N pv B b d' l (W.setCell ⟨b, 2, none⟩ (.int .i64 d')) := by
  obtain ⟨l', ⟨p, v, hp, h1⟩, hl⟩ := h.wr
  exact h.wk ((Wk.refl B b W).set _) ⟨l', ⟨p, v, hp, h1.le, set_heap2 h1.blk, own_set h1.own h1.ne⟩, hl⟩
theorem isNil (W : World) : (binOp .neq 55 .nilIface .nilIface).run Tryz.prog W = .ok (.bool false) W := by kernel_rfl
theorem notNil (W : World) (u : TypeId) (v : Value) : (binOp .neq 55 (.iface u v) .nilIface).run Tryz.prog W = .ok (.bool true) W := by kernel_rfl
theorem eqNil (W : World) : (binOp .eql 55 .nilIface .nilIface).run Tryz.prog W = .ok (.bool true) W := by kernel_rfl
theorem neNil (W : World) (u : TypeId) (v : Value) : (binOp .eql 55 (.iface u v) .nilIface).run Tryz.prog W = .ok (.bool false) W := by kernel_rfl
end Go.Proofs.YtkngjbpbjjoneaaGreatDoor.Q
/-! Printed by gen_we.py. -/
namespace Go.Proofs.YtkngjbpbjjoneaaGreatDoor.Q
open Go.RowKit Go.Shelf
set_option maxRecDepth 20000
set_option maxHeartbeats 4000000 in
theorem wb_21 {nd : Nat → Nd} {O : List (List Nat)} {N : Nat} {pv : Nat → Value} {B b d : Nat} {j : Nat} {op ty n kids : Int} {t : ByteArray} {ks : List Nat} (C : PCtx nd O N j ⟨21, op, ty, n, t, kids⟩ ks) (hd : d ≤ 12001) (hW : ∀ k ∈ ks, WriteOk nd O N pv B b (d + 1) (pv k) (svS nd O (d + 1) k)) : CallOk 15 nd O N pv B b d (pv j) (bodyOf O (svS nd O) d j) := by
  intro l W h hl
  have H := hid h
  have HC := hid C
  have hpl := (plain_21 _ _ _ _ _).1 C.plain
  have hko := (ko_21 _ _ _ _ _ _ _).1 C.kidsOk
  have hbl := h.wr.lt
  obtain ⟨ad, cap, hv, hrow⟩ := pa_21.1 (C.part h)
  have HROW := hid hrow
  have HIF := hid (C.ifs h)
  clear hrow
  rw [hv]
  clear hv
  clear h C
  clear hpl hko
  have hkl : ks.length ≤ 12001 := by have := HC.out.good.kl j HC.out.hj; rwa [HC.out.hks] at this
  have HW := hid hW
  clear hW
  have HT : Hid (bodyOf O (svS nd O) d j = [123, 10] ++ blkT nd O (d + 1) ks ++ gapB d ++ [125]) := by show _ = _; rw [body_blk, HC.out.hks]
  rw [HT.out] at hl ⊢
  simp only [List.length_append, List.length_cons, List.length_nil, gapB_len] at hl
  have H0 := hid (H.out.next ((Below.refl W.heap.size W).alloc (Nat.le_refl _) (.cells #[.slice ad ks.length cap] 89)))
  have HK0 := hid (Wk.refl B b (W.alloc (.cells #[.slice ad ks.length cap] 89)))
  have HX : Hid (∀ V, Wk B b (W.alloc (.cells #[.slice ad ks.length cap] 89)) V → V.cell? ⟨W.heap.size, 0, none⟩ = some (.slice ad ks.length cap)) := fun V h => box_keep (by decide) hbl h 0
  have HWK : Hid (∀ V, Wk B b (W.alloc (.cells #[.slice ad ks.length cap] 89)) V → Wk B b W V) := fun V h => (Wk.of_below ((Below.refl W.heap.size W).alloc (Nat.le_refl _) (.cells #[.slice ad ks.length cap] 89))).trans h
  have t24 := fun (v : Value) (W : World) => tn_24 89 v W (by decide)
  have t23 := fun (v : Value) (W : World) => tn_23 89 v W (by decide)
  have t22 := fun (v : Value) (W : World) => tn_22 89 v W (by decide)
  have t21 := ta_21
  go_enter Tryz.func15, Tryz.ntmps15
  go_wp2_with fail
  refine (lenS _ H.out).mono ?_
  rintro e w1 ⟨⟨nl, rfl, hn⟩, hw1⟩
  have e1 := hw1.symm
  subst e1
  by_cases h12 : 12000 < nl
  · have HS := hid (hn h12 ([123, 10] ++ blkT nd O (d + 1) ks ++ gapB d ++ [125]))
    have h12' : (12000 : Int) < (nl : Int) := by omega
    clear hn
    go_wp2
    go_end0
    exact ⟨rfl, HS.out, Wk.refl _ _ _⟩
  have h12' : (nl : Int) ≤ 12000 := by omega
  clear hn h12
  go_wp2_with fail
  obtain ⟨w0, hw0⟩ : ∃ w0, W.alloc (.cells #[.slice ad ks.length cap] 89) = w0 := ⟨_, rfl⟩
  obtain ⟨gx, hgx⟩ : ∃ gx, W.heap.size = gx := ⟨_, rfl⟩
  have HGX := hid hgx
  have HW0 := hid hw0
  have hgl0 : gx < w0.heap.size := by rw [← hw0, ← hgx]; simp
  rw [hw0] at H0 HK0 HX HWK
  rw [hgx] at HX
  rw [hw0, hgx]
  clear hw0 hgx
  try rw [show gx + 1 = w0.heap.size by rw [← HW0.out, World.size_alloc, HGX.out]]
  refine (put1S ⟨#[123, 10]⟩ w0 H0.out (by show _ + 2 ≤ _; omega)).mono ?_
  rintro e w1 ⟨rfl, hs, hk⟩
  have H1 := hid hs
  have HK1 := hid (HK0.out.trans hk)
  clear hs hk
  have HRW := hid (HROW.out.below (by rw [← HW0.out]; exact (Below.refl W.heap.size W).alloc (Nat.le_refl _) _ : Below W.heap.size W w0))
  have HLE : Hid (∀ q, (blkT nd O (d + 1) (ks.take q)).length ≤ (blkT nd O (d + 1) ks).length) := fun q => by
    have e : blkT nd O (d + 1) ks = blkT nd O (d + 1) (ks.take q) ++ blkT nd O (d + 1) (ks.drop q) := by unfold blkT; rw [← List.flatMap_append, List.take_append_drop]
    rw [e, List.length_append]
    omega
  have c2 := H1.out.wr.x
  have f2 := H1.out.wr.fz
  have x0 := HX.out _ HK1.out
  have HSX : Hid (St nd O N pv B b (d + 1) (l ++ [123, 10]) (w1.setCell ⟨b, 2, none⟩ (.int .i64 ((d : Int) + 1)))) := H1.out.setX (d + 1)
  have HKX := hid (HK1.out.set (i := 2) (.int .i64 ((d : Int) + 1)))
  have xs0 := HX.out _ HKX.out
  go_wp2
  obtain ⟨w2, hw2⟩ : ∃ w2, w1.setCell ⟨b, 2, none⟩ (.int .i64 ((d : Int) + 1)) = w2 := ⟨_, rfl⟩
  rw [hw2] at HSX HKX
  rw [hw2]
  clear hw2 c2 f2 x0 xs0
  go_loopw [109] (fun a wr => ∃ q : Nat, q ≤ ks.length ∧ a = .int .i64 q ∧ St nd O N pv B b (d + 1) (l ++ [123, 10] ++ blkT nd O (d + 1) (ks.take q)) wr ∧ Wk B b w0 wr) (fun a _ => ks.length - (intOf a).toNat)
  case atStart => exact ⟨0, Nat.zero_le _, rfl, by simpa [blkT] using HSX.out, HKX.out⟩
  case round =>
    obtain ⟨q, hq, rfl, hs, hk⟩ := hrel
    have HS := hid hs
    have HK := hid hk
    have hll := HLE.out q
    clear hs hk
    by_cases hlt : q < ks.length
    · obtain ⟨g, rfl, hgl, hcell⟩ := (HRW.out.wk HK.out H0.out.wr.blk).get (by omega)
      have c0 := hcell q hlt
      have e : ks.getD q 0 = ks[q] := by rw [List.getD_eq_getElem?_getD, List.getElem?_eq_getElem hlt]; rfl
      rw [e] at c0
      have HJ := hid (blkT_snoc nd O (d + 1) (ks.take q) ks[q])
      rw [← List.take_succ_eq_append_getElem hlt] at HJ
      have HN1 := hid (HLE.out (q + 1))
      rw [HJ.out] at HN1
      have HWQ := hid (HW.out ks[q] (List.getElem_mem hlt))
      obtain ⟨T, y, hv⟩ := HIF.out ks[q] (List.getElem_mem hlt)
      generalize ks[q] = k at *
      rw [hv] at c0 HWQ
      clear hcell e hv
      obtain ⟨Q, hQ⟩ : ∃ Q, blkT nd O (d + 1) (ks.take q) = Q := ⟨_, rfl⟩
      rw [hQ] at HS hll HJ HN1
      clear hQ
      have hn1 := HN1.out
      simp only [List.length_append, List.length_cons, List.length_nil, gapB_len] at hn1
      go_wp2_with fail
      refine (indent_any _ HS.out (by omega) (by simp only [List.length_append, List.length_cons, List.length_nil]; omega)).mono ?_
      rintro e w3 ⟨rfl, hs3, hk3⟩
      have H3 := hid hs3
      have HK3 := hid (HK.out.trans hk3)
      clear hs3 hk3
      go_wp2_with fail
      refine (HWQ.out _ _ H3.out (by simp only [List.length_append, List.length_cons, List.length_nil, gapB_len]; omega)).mono ?_
      rintro e w4 ⟨rfl, hs4, hk4⟩
      have H4 := hid hs4
      have HK4 := hid (HK3.out.trans hk4)
      clear hs4 hk4
      go_wp2_with fail
      refine (put1S ⟨#[10]⟩ w4 H4.out (by simp only [List.length_append, List.length_cons, List.length_nil, gapB_len]; show _ + 1 ≤ _; omega)).mono ?_
      rintro e w5 ⟨rfl, hs5, hk5⟩
      have H5 := hid hs5
      have HK5 := hid (HK4.out.trans hk5)
      clear hs5 hk5
      go_wp2
      go_roundw
      case rel => exact ⟨q + 1, by omega, by go_num, by rw [HJ.out]; have := H5.out; simpa using this, HK5.out⟩
      case measure => simp [intOf]; omega
    · obtain rfl : q = ks.length := by omega
      have HTK : Hid (ks.take ks.length = ks) := List.take_of_length_le (Nat.le_refl _)
      rw [HTK.out] at HS hll
      have c2 : wr.cell? ⟨b, 2, none⟩ = some (.int .i64 ((d : Int) + 1)) := HS.out.wr.x
      have f2 := HS.out.wr.fz
      have HSY := hid (HS.out.setX d)
      have HKY := hid (HK.out.set (i := 2) (.int .i64 (d : Int)))
      go_wp2_with fail
      refine (indent_any _ HSY.out (by omega) (by simp only [List.length_append, List.length_cons, List.length_nil]; omega)).mono ?_
      rintro e w3 ⟨rfl, hs3, hk3⟩
      have H3 := hid hs3
      have HK3 := hid (HKY.out.trans hk3)
      clear hs3 hk3
      go_wp2_with fail
      refine (put1S ⟨#[125]⟩ w3 H3.out (by simp only [List.length_append, List.length_cons, List.length_nil, gapB_len]; show _ + 1 ≤ _; omega)).mono ?_
      rintro e w4 ⟨rfl, hs4, hk4⟩
      have H4 := hid hs4
      have HK4 := hid (HK3.out.trans hk4)
      clear hs4 hk4
      go_wp2
      go_end0
      exact ⟨rfl, by have := H4.out; simpa using this, HWK.out _ HK4.out⟩
end Go.Proofs.YtkngjbpbjjoneaaGreatDoor.Q
