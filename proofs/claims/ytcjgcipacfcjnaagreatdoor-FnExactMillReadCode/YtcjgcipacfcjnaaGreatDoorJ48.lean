import Derived.Test.YtcjgcipacfcjnaaGreatDoorJ47
import Derived.Test.YtcjgcipacfcjnaaGreatDoorJ45
namespace Go.Proofs.YtcjgcipacfcjnaaGreatDoor.C.D
open Go.RowKit
set_option maxRecDepth 20000
theorem nb_one (n : Nat) : 1 ≤ (nb n).length := by
 have := nb_ne n
 cases hn : nb n with
 | nil => exact absurd hn this
 | cons a b => simp
theorem flat_ge {X : Type} {F : X → List UInt8} (h : ∀ x, 1 ≤ (F x).length) : ∀ l : List X, l.length ≤ (l.flatMap F).length
 | [] => Nat.le_refl _
 | x :: l => by
  have h1 := flat_ge h l
  have h2 := h x
  rw [List.flatMap_cons, List.length_append, List.length_cons]
  omega
theorem insF_one (x : In) : 1 ≤ (insF x).length := by
 have := nb_one (uOf x.op)
 rw [insF_rs, List.length_append]
 omega
theorem wE_le (x : FnE) : wE x ≤ 4 * (fnF x.f).length := by
 rw [fnF_ser]
 unfold wE SerF
 have h1 := flat_ge (F := numF) (fun k => nb_one _) x.f.params
 have h2 := flat_ge (F := insF) insF_one x.f.ins
 have h3 := nb_one x.f.params.length
 simp only [List.length_append, List.length_nil]
 omega
theorem kE_le : ∀ L : List FnE, kE L ≤ 4 * ((L.map FnE.f).flatMap fnF).length
 | [] => Nat.le_refl _
 | x :: L => by
  have h1 := kE_le L
  have h2 := wE_le x
  rw [List.map_cons, List.flatMap_cons, List.length_append]
  simp only [kE]
  omega
theorem kE_small {s : ByteArray} {L : List FnE} (h : formF (L.map FnE.f) = bts s) (hs : s.size ≤ 200000) : kE L ≤ 800000 := by
 have h1 := kE_le L
 have h2 := congrArg List.length h
 rw [form_ser, bts_len, List.length_append] at h2
 unfold SerF at h2
 rw [List.length_append] at h2
 omega
theorem small_of {s : ByteArray} {o : Option (List Fn)} {L : List FnE} (h : RcAns s o) (hL : L.map FnE.f = o.getD []) : L.length ≤ 1000 ∧ 1 + kE L ≤ 4000000 ∧ (∀ x ∈ L, x.f.params.length ≤ 200000 ∧ x.f.ins.length ≤ 200000) ∧ R.LoFnS (o.getD []) := by
 cases o with
 | none =>
  have : L = [] := List.map_eq_nil_iff.1 hL
  subst this
  exact ⟨Nat.zero_le _, by decide, fun x hx => (by cases hx), ⟨Nat.zero_le _, fun i hi => (by cases hi)⟩⟩
 | some fns =>
  obtain ⟨_, h2, h3, h4, h5⟩ := h
  have hL' : L.map FnE.f = fns := hL
  have hlen : L.length = fns.length := by rw [← hL', List.length_map]
  have hk := kE_small (L := L) (by rw [hL']; exact h4) h5
  refine ⟨by omega, by omega, fun x hx => ?_, ⟨by show fns.length ≤ _; omega, fun i hi => ?_⟩⟩
  ·have hf := h2 x.f (by rw [← hL']; exact List.mem_map_of_mem hx)
   exact ⟨Nat.le_trans hf.few (by decide), Nat.le_trans hf.many (by decide)⟩
  ·have hi' : i < fns.length := hi
   have e : (Option.getD (some fns) []).getD i fn0 = fns[i] := by
    show fns.getD i fn0 = _
    rw [List.getD_eq_getElem?_getD, List.getElem?_eq_getElem hi']
    rfl
   have hf := h2 fns[i] (List.getElem_mem hi')
   rw [e]
   exact ⟨Nat.le_trans hf.few (by decide), Nat.le_trans hf.many (by decide), fun _ _ => rfl⟩
set_option maxHeartbeats 4000000 in
theorem markC_own {B K : Nat} {v : Value} {L : List FnE} (w : World) (h : OwnE B w v L) (hB : B ≤ w.heap.size) (hL : L.length ≤ 1000) (hK : 0 < K) (hw : K + kE L ≤ 4000000) (hx : ∀ x ∈ L, x.f.params.length ≤ 200000 ∧ x.f.ins.length ≤ 200000) :
  Calls Tryz.prog 12 #[.agg #[v], .int .i64 K] w fun e w' => e = .returned (.int .i64 (K + kE L : Nat)) ∧ Below B w w' ∧ KT w w' ∧ OwnE B w' v (mkE K L) := by
 have HB0 : Hid (Below w.heap.size w (w.alloc (.cells #[v] 29))) := hid ((Below.refl _ _).alloc (Nat.le_refl _) _)
 have HE0 : Hid ((w.alloc (.cells #[v] 29)).heap[w.heap.size]? = some (.cells #[v] 29 (0, 0))) := hid (heap_alloc_new _ _)
 have HO := hid (h.next HB0.out)
 have HM : Hid (Calls Tryz.prog 29 #[v, .int .i64 K] (w.alloc (.cells #[v] 29)) fun e w' => e = .returned (.int .i64 (K + kE L : Nat)) ∧ Below B w w' ∧ KT w w' ∧ OwnE B w' v (mkE K L)) := hid (by
  have hl2 := Nat.le_trans hB HB0.out.size
  rcases own_open h.row with ⟨rfl, h0, _⟩ | ⟨g, cap, cur, rfl, _⟩
  ·have hn : L = [] := List.eq_nil_of_length_eq_zero h0
   subst hn
   refine (markE_nil K _).mono ?_
   rintro e w' ⟨rfl, rfl⟩
   exact ⟨rfl, HB0.out.mono hB, (KT.refl w).next HB0.out, HO.out⟩
  ·refine (markE_row _ HO.out hl2 hL hK hw hx).mono ?_
   rintro e w' ⟨rfl, h1, h2, h3⟩
   exact ⟨rfl, (HB0.out.mono hB).trans h1, fun b cur t a1 a2 a3 hc => h2 b cur t a1 a2 a3 (hp_next hc HB0.out), h3⟩)
 obtain ⟨ad, c, rfl⟩ := h.sl
 clear h
 obtain ⟨W0, hW0⟩ : ∃ W, w.alloc (.cells #[.slice ad L.length c] 29) = W := ⟨_, rfl⟩
 rw [hW0] at HB0 HE0 HO HM
 go_enter Tryz.func12, Tryz.ntmps12
 have k0 := cell_hp HE0.out 0
 go_wp2_with fail
 clear hW0
 refine HM.out.mono ?_
 rintro e w1 ⟨rfl, h1, h2, h3⟩
 have H1 := hid (And.intro h1 (And.intro h2 h3))
 clear h1 h2 h3
 go_wp2
 go_ret
 exact ⟨rfl, H1.out⟩
set_option maxHeartbeats 4000000 in
theorem heldC_own {B K T : Nat} {v : Value} {L : List FnE} (w : World) (h : OwnE B w v (mkE K L)) (hL : L.length ≤ 1000) (hK : 0 < K) (hw : K + kE L ≤ 4000000) (hx : ∀ x ∈ L, x.f.params.length ≤ 200000 ∧ x.f.ins.length ≤ 200000) (hT : K + kE L = T) :
  Calls Tryz.prog 13 #[.agg #[v], .int .i64 K] w fun e w' => e = .returned (.int .i64 (T : Nat)) ∧ Below w.heap.size w w' := by
 have HB0 : Hid (Below w.heap.size w (w.alloc (.cells #[v] 29))) := hid ((Below.refl _ _).alloc (Nat.le_refl _) _)
 have HE0 : Hid ((w.alloc (.cells #[v] 29)).heap[w.heap.size]? = some (.cells #[v] 29 (0, 0))) := hid (heap_alloc_new _ _)
 have HO := hid (h.next HB0.out)
 have hlen : (mkE K L).length = L.length := mkE_len L K
 have HM : Hid (Calls Tryz.prog 30 #[v, .int .i64 K] (w.alloc (.cells #[v] 29)) fun e w' => e = .returned (.int .i64 (T : Nat)) ∧ Below w.heap.size w w') := hid (by
  have hrow := h.row
  rw [hlen] at hrow
  subst hT
  rcases own_open hrow with ⟨rfl, h0, _⟩ | ⟨g, cap, cur, rfl, _⟩
  ·have hn : L = [] := List.eq_nil_of_length_eq_zero h0
   subst hn
   refine (heldE_nil K _).mono ?_
   rintro e w' ⟨rfl, rfl⟩
   exact ⟨rfl, HB0.out⟩
  ·refine (heldE_row _ HO.out hL hK hw hx).mono ?_
   rintro e w' ⟨rfl, h1⟩
   exact ⟨rfl, HB0.out.trans (h1.mono HB0.out.size)⟩)
 have hTn : ¬ (T : Int) < 0 := by omega
 obtain ⟨ad, c, hv⟩ := h.sl
 rw [hlen] at hv
 subst hv
 clear h hlen
 obtain ⟨W0, hW0⟩ : ∃ W, w.alloc (.cells #[.slice ad L.length c] 29) = W := ⟨_, rfl⟩
 rw [hW0] at HB0 HE0 HO HM
 go_enter Tryz.func13, Tryz.ntmps13
 have k0 := cell_hp HE0.out 0
 go_wp2_with fail
 clear hW0
 refine HM.out.mono ?_
 rintro e w1 ⟨rfl, h1⟩
 have H1 := hid h1
 clear h1
 go_wp2
 go_ret
 exact ⟨rfl, H1.out⟩
structure LX (w : World) (g3 g5 : Nat) (u v : Value) (fns : List Fn) (W : World) : Prop where
 lo : Below w.heap.size w W
 e3 : W.heap[g3]? = some (.cells #[u] 29 (0, 0))
 e5 : W.heap[g5]? = some (.cells #[v] 29 (0, 0))
 ru : FnsRow W u fns
theorem LX.next {w W V : World} {g3 g5 : Nat} {u v : Value} {fns : List Fn} (h : LX w g3 g5 u v fns W) (hb : Below W.heap.size W V) : LX w g3 g5 u v fns V :=
 ⟨h.lo.trans (hb.mono h.lo.size), hp_next h.e3 hb, hp_next h.e5 hb, h.ru.next hb⟩
set_option maxHeartbeats 8000000 in
theorem law_read (s : ByteArray) (w : World) (hev : EnvF w) (hei : EnvI w) (het : ErrT w) :
  Calls Tryz.prog 4 #[.string s] w fun e w' => e = .returned (.bool true) ∧ Below w.heap.size w w' := by
 have HEV := hid hev
 have HEI := hid hei
 have HET := hid het
 clear hev hei het
 go_enter Tryz.func4, Tryz.ntmps4
 by_cases hbig : 1048576 < s.size
 ·have hbi : (s.size : Int) > 1048576 := by omega
  go_wp2
  go_ret
  exact ⟨rfl, Below.refl _ _⟩
 have hbi : ¬ (s.size : Int) > 1048576 := by omega
 have hs : s.size ≤ 1048576 := by omega
 go_wp2_with fail
 refine (specRead_any s _ hs).mono ?_
 rintro e w1 ⟨o, u, rfl, hans, hrow, hb1⟩
 obtain ⟨au, cu, hu⟩ := hrow.sl9
 subst hu
 obtain ⟨fns, hfns⟩ : ∃ fns, o.getD [] = fns := ⟨_, rfl⟩
 obtain ⟨b, hb⟩ : ∃ b, o.isSome = b := ⟨_, rfl⟩
 have HANS := hid hans
 have HON : Hid (o.getD [] = fns ∧ o.isSome = b) := hid ⟨hfns, hb⟩
 rw [hfns] at hrow
 rw [hfns, hb]
 have HR1 := hid hrow
 have HB1 := hid hb1
 clear hans hrow hb1 hfns hb
 have HBa : Hid (Below w1.heap.size w1 (w1.alloc (.cells #[.slice au fns.length cu] 29))) := hid ((Below.refl _ _).alloc (Nat.le_refl _) _)
 have HEa : Hid ((w1.alloc (.cells #[.slice au fns.length cu] 29)).heap[w1.heap.size]? = some (.cells #[.slice au fns.length cu] 29 (0, 0))) := hid (heap_alloc_new _ _)
 have HBw : Hid (Below w.heap.size w (w1.alloc (.cells #[.slice au fns.length cu] 29))) := hid (HB1.out.trans (HBa.out.mono HB1.out.size))
 have HRa := hid (HR1.out.next HBa.out)
 go_upto_region 4 with fail
 obtain ⟨g3, hg3⟩ : ∃ g, w1.heap.size = g := ⟨_, rfl⟩
 obtain ⟨W1, hW1⟩ : ∃ W, w1.alloc (.cells #[.slice au fns.length cu] 29) = W := ⟨_, rfl⟩
 rw [hW1] at HEa HBw HRa ⊢
 rw [hg3] at HEa ⊢
 clear hW1 hg3 HBa HR1 HB1
 go_wp2_with fail
 refine (implRead_any s _ hs (HEV.out.next HBw.out) (HEI.out.next HBw.out) (HET.out.next HBw.out)).mono ?_
 rintro e w2 ⟨o2, v, B, L, rfl, hans2, hb2, hB, hown, hmap⟩
 obtain rfl : o2 = o := hans2.uniq HANS.out
 obtain ⟨hL1, hL2, hL3, hL4⟩ := small_of hans2 hmap
 have HL3 := hid hL3
 rw [HON.out.1] at hmap hL4
 rw [HON.out.2]
 obtain ⟨B, hB, hB2, hown⟩ : ∃ B', W1.heap.size ≤ B' ∧ B' ≤ w2.heap.size ∧ OwnE B' w2 v L := by
  rcases own_open hown.row with ⟨rfl, h0, _⟩ | ⟨g, cap, cur, _, h1, h2, _⟩
  ·have hn : L = [] := List.eq_nil_of_length_eq_zero h0
   subst hn
   exact ⟨W1.heap.size, Nat.le_refl _, hb2.size, OwnE.nil _ _⟩
  ·exact ⟨B, hB, Nat.le_of_lt (Nat.lt_of_le_of_lt h1 (lt_hp h2)), hown⟩
 obtain ⟨av, cv, rfl⟩ := hown.sl
 have HL4 := hid hL4
 have HMAP := hid hmap
 have HBa : Hid (Below w2.heap.size w2 (w2.alloc (.cells #[.slice av L.length cv] 29))) := hid ((Below.refl _ _).alloc (Nat.le_refl _) _)
 have HX2 : Hid (LX w g3 w2.heap.size (.slice au fns.length cu) (.slice av L.length cv) fns (w2.alloc (.cells #[.slice av L.length cv] 29))) := hid ⟨HBw.out.trans ((hb2.trans (HBa.out.mono hb2.size)).mono HBw.out.size), hp_next (hp_next HEa.out hb2) HBa.out, heap_alloc_new _ _, (HRa.out.next hb2).next HBa.out⟩
 have HO2 := hid (hown.next HBa.out)
 have HBB : Hid (W1.heap.size ≤ B ∧ B ≤ w2.heap.size) := hid ⟨hB, hB2⟩
 have HG3 : Hid (g3 < W1.heap.size) := hid (lt_hp HEa.out)
 have HRW := hid HRa.out
 have HB2 := hid hb2
 clear hans2 hb2 hB hB2 hown hmap hL3 hL4
 go_upto_region 5 with fail
 obtain ⟨g5, hg5⟩ : ∃ g, w2.heap.size = g := ⟨_, rfl⟩
 have HB2a := hid (HB2.out.trans (HBa.out.mono HB2.out.size))
 have HSB : Hid (B ≤ (w2.alloc (.cells #[.slice av L.length cv] 29)).heap.size) := hid (Nat.le_trans HBB.out.2 HBa.out.size)
 obtain ⟨W2, hW2⟩ : ∃ W, w2.alloc (.cells #[.slice av L.length cv] 29) = W := ⟨_, rfl⟩
 rw [hW2] at HX2 HO2 HB2a HSB ⊢
 rw [hg5] at HX2 ⊢
 clear hW2 hg5 HBa HB2
 have k3 := cell_hp HX2.out.e3 0
 have k5 := cell_hp HX2.out.e5 0
 have hbb : (b != b) = false := by cases b <;> rfl
 have HRV : Hid (FnsRow W2 (.slice av L.length cv) fns) := hid (by have := HO2.out.rows; rw [HMAP.out] at this; exact this)
 go_upto_region 8 with (go_at_call 9; refine (eqCd_row ⟨fns⟩ W2 HL4.out HRV.out HX2.out.ru).mono ?_; rintro e w3 ⟨rfl, hb3⟩; have HX3 := hid (HX2.out.next hb3); have HO3 := hid (HO2.out.next hb3); have HS3 := hid (Nat.le_trans HSB.out hb3.size); have HB3 := hid (HB2a.out.trans (hb3.mono HB2a.out.size)); clear hb3)
 clear k3 k5 HX2 HO2 HSB HB2a HRV
 have k5 := cell_hp HX3.out.e5 0
 obtain ⟨T, hT⟩ : ∃ T, 1 + kE L = T := ⟨_, rfl⟩
 have HT := hid hT
 have hTb : T ≤ 4000000 := by omega
 have hTn : ¬ (T : Int) < 0 := by omega
 have hTT : ((T : Int) != (T : Int)) = false := by simp
 have HMK := hid (markC_own (K := 1) w3 HO3.out HS3.out hL1 (by omega) hL2 HL3.out)
 rw [hT] at HMK
 clear hT
 go_upto_region 9 with (go_at_call 12; refine HMK.out.mono ?_; rintro e w4 ⟨rfl, hb4, hk4, ho4⟩; have HO4 := hid ho4; have HX4 : Hid (LX w g3 g5 (.slice au fns.length cu) (.slice av L.length cv) fns w4) := hid ⟨HX3.out.lo.trans (hb4.mono (Nat.le_trans HBw.out.size HBB.out.1)), (hb4.block g3 (by have := HG3.out; have := HBB.out.1; omega)).trans HX3.out.e3, hk4 _ _ _ (by decide) (by decide) (by decide) HX3.out.e5, HRW.out.next (HB3.out.trans (hb4.mono HBB.out.1))⟩; clear hb4 hk4 ho4)
 clear HMK k5 HX3 HO3 HS3 HB3
 have k5 := cell_hp HX4.out.e5 0
 go_upto_region 11 with (go_at_call 13; refine (heldC_own (K := 1) w4 HO4.out hL1 (by omega) hL2 HL3.out HT.out).mono ?_; rintro e w5 ⟨rfl, hb5⟩; have HX5 := hid (HX4.out.next hb5); have HO5 := hid (HO4.out.next hb5); clear hb5)
 clear k5 HX4 HO4
 go_wp2_with fail
 refine (implRead_any s _ hs (HEV.out.next HX5.out.lo) (HEI.out.next HX5.out.lo) (HET.out.next HX5.out.lo)).mono ?_
 rintro e w6 ⟨o3, v3, B3, L3, rfl, hans3, hb6, hB6, hown6, hmap6⟩
 obtain rfl : o3 = o2 := hans3.uniq HANS.out
 rw [HON.out.1] at hmap6
 rw [HON.out.2]
 have HR6 : Hid (FnsRow w6 v3 fns) := hid (by have := hown6.rows; rw [hmap6] at this; exact this)
 obtain ⟨a6, c6, rfl⟩ := hown6.sl
 have HX6 := hid (HX5.out.next hb6)
 have HO6 := hid (HO5.out.next hb6)
 clear hans3 hb6 hB6 hown6 hmap6 HX5 HO5
 have HBb : Hid (Below w6.heap.size w6 (w6.alloc (.cells #[.slice a6 L3.length c6] 29))) := hid ((Below.refl _ _).alloc (Nat.le_refl _) _)
 have HX7 := hid (HX6.out.next HBb.out)
 have HO7 := hid (HO6.out.next HBb.out)
 have HR7 := hid (HR6.out.next HBb.out)
 have HE7 : Hid ((w6.alloc (.cells #[.slice a6 L3.length c6] 29)).heap[w6.heap.size]? = some (.cells #[.slice a6 L3.length c6] 29 (0, 0))) := hid (heap_alloc_new _ _)
 go_upto_region 16 with fail
 obtain ⟨g9, hg9⟩ : ∃ g, w6.heap.size = g := ⟨_, rfl⟩
 obtain ⟨W7, hW7⟩ : ∃ W, w6.alloc (.cells #[.slice a6 L3.length c6] 29) = W := ⟨_, rfl⟩
 rw [hW7] at HX7 HO7 HR7 HE7 ⊢
 rw [hg9] at HE7 ⊢
 clear hW7 hg9 HBb HX6 HO6 HR6
 have k3 := cell_hp HX7.out.e3 0
 have k9 := cell_hp HE7.out 0
 go_upto_region 19 with (go_at_call 9; refine (eqCd_row ⟨fns⟩ W7 HL4.out HR7.out HX7.out.ru).mono ?_; rintro e w8 ⟨rfl, hb8⟩; have HX8 := hid (HX7.out.next hb8); have HO8 := hid (HO7.out.next hb8); clear hb8)
 clear k3 k9 HX7 HO7 HR7 HE7
 have k5 := cell_hp HX8.out.e5 0
 go_wp2_with fail
 refine (heldC_own (K := 1) w8 HO8.out hL1 (by omega) hL2 HL3.out HT.out).mono ?_
 rintro e w9 ⟨rfl, hb9⟩
 have HX9 := hid (HX8.out.next hb9)
 clear hb9 k5 HX8 HO8
 go_wp2
 go_ret
 exact ⟨rfl, HX9.out.lo⟩
end Go.Proofs.YtcjgcipacfcjnaaGreatDoor.C.D
