import Derived.Deep.DeepCutAuto
import Derived.Test.YtfookokepnnmoaaDoorJDSp
namespace Go.Proofs.YtfookokepnnmoaaDoor
open Go.RowKit
set_option maxRecDepth 20000
theorem room' {W : World} {g i : Nat} {cur : Array Value} {t : TypeId} (h : W.heap[g]? = some (.cells cur t (0, 0))) (hi : i < cur.size) : ∃ v, W.cell? ⟨g, i, none⟩ = some v := ⟨cur[i], (cell_hp h i).trans (Array.getElem?_eq_getElem hi)⟩
theorem hgl {W : World} {B n cap g : Nat} {l : List At} (h : W.ownsRow B 51 4 (.slice (some ⟨g, 0, none⟩) n cap) n (atRow l)) : g < W.heap.size := by
  obtain ⟨cur, h1, _⟩ := own_here h
  exact (Array.getElem?_eq_some_iff.1 h1).1
theorem spoil_end {R A C p q : Nat} {w W : World} {X : Obj} {s : Value} {l : List At} (h : Inn R (w.alloc X) W p q) (hv : ValIn R W s l) (ha : TxOk A l) (hq : q ≤ p + C) : AnyEnd R A C p w (.returned (.agg #[s])) (W.setCell ⟨w.heap.size + 1, 0, none⟩ s) := by
  have h1 := h.finA hv ha hq
  rw [World.size_alloc] at h1
  obtain ⟨s', l', e, h2, h3, h4⟩ := h1
  exact ⟨s', l', e, h2, h3, h4.from ((Below.refl _ _).alloc (Nat.le_refl _) _)⟩
set_option maxHeartbeats 2000000 in
theorem l5Spoil_any (R p : Nat) (sv : Value) (lv : List At) (w : World) (hp : p ≤ 790000000) (hr : Rd R w p) (hv : ValIn R w sv lv) (hne : lv ≠ []) (ha : AtOk 900 lv) :
    Calls Tryd.prog 27 #[.pointer (some ⟨R, 0, none⟩), .agg #[sv]] w fun e w' => AnyEnd R 901 20 p w e w' := by
  have HR := hid hr
  have HAV := hid ha
  have hRw := hr.lt
  obtain ⟨i0, hi, hz0, hz1, hz2⟩ := info_parts info_at'
  have HHI := hid (And.intro hi (And.intro hz0 (And.intro hz1 hz2)))
  obtain ⟨gv, ov, Nv, cv, rfl, hlN, hNc, hcm, hgv, hgvR, hat, _⟩ := hv
  have HLN := hid hlN
  have hN1 : 1 ≤ Nv := by rw [← hlN]; exact List.length_pos_iff.2 hne
  have hN2 : Nv ≤ 900 := by rw [← hlN]; exact ha.1
  have HI0 : Hid (Inn R (w.alloc (.cells #[.slice (some ⟨gv, ov, none⟩) Nv cv] 25)) ((w.alloc (.cells #[.slice (some ⟨gv, ov, none⟩) Nv cv] 25)).alloc (.cells #[.slice none 0 0] 25)) p p) := Inn.start (hr.next ((Below.refl _ _).alloc (Nat.le_refl _) _))
  have HBL : Hid (Below w.heap.size w (((w.alloc (.cells #[.slice (some ⟨gv, ov, none⟩) Nv cv] 25)).alloc (.cells #[.slice none 0 0] 25)).alloc (.cells #[] 51))) := (below_two' w _ _).alloc (by simp; omega) _
  have HOL : Hid (World.ownsRow (((w.alloc (.cells #[.slice (some ⟨gv, ov, none⟩) Nv cv] 25)).alloc (.cells #[.slice none 0 0] 25)).alloc (.cells #[] 51)) (w.heap.size + 1 + 1) 51 4 (.slice (some ⟨w.heap.size + 1 + 1, 0, none⟩) 0 0) 0 []) := by
    have h := World.ownsRow_made (base := w.heap.size + 1 + 1) (e := 51) (size := 4) ((w.alloc (.cells #[.slice (some ⟨gv, ov, none⟩) Nv cv] 25)).alloc (.cells #[.slice none 0 0] 25)) #[] 0 (by simp) (by unfold maxLen; omega) rfl
    simp only [World.size_alloc] at h
    exact h
  have HCL := hid (AtomsAt.cells (hat.below HBL.out hgv))
  have HIL := hid (HI0.out.next ((Below.refl _ _).alloc (Nat.le_refl _) (.cells #[] 51)))
  clear hr ha hi hz0 hz1 hz2 hat
  go_enter Tryd.func27, Tryd.ntmps27
  go_wp2_with (at_builtin; refine wpList_append_own_at _ rfl (.tmp 8) (.tmp 10) 23 rfl (w.heap.size + 1 + 1) 51 i0 (.agg #[.int .i64 0, .int .i64 0, .string ⟨#[]⟩, .int .i64 0]) 4 40 Tryd.underlying23 HHI.out.1 HHI.out.2.1 HHI.out.2.2.1 HHI.out.2.2.2 rfl (by decide) (.slice (some ⟨w.heap.size + 1 + 1, 0, none⟩) 0 0) 0 [] rfl HOL.out ⟨gv, ov, none⟩ Nv cv (atRow lv) rfl (by rw [atRow_length, HLN.out]) HCL.out (atRow_one lv) (by unfold maxLen; omega) (by omega) (by simp) ?_; intro v1 w1 h2 h3 h4 h5; rw [Nat.zero_add, List.nil_append] at h2; have hnn := some_not_nil h4; obtain ⟨g, cap, rfl, hg1, hg2, hg3, hg4, hg5, hg6⟩ := own_atoms h2 hnn; have HO1 := hid h2; have HI1 := hid (HIL.out.grow1 h3 (fun k e => by simp [Value.ownBlock] at e; simp; omega)); clear h2 h3 h4 h5 hnn)
  have hgw : (w.alloc (.cells #[.slice (some ⟨gv, ov, none⟩) Nv cv] 25)).heap.size < g := by simp; omega
  have HA1 := hid ((Below.refl w1.heap.size w1).alloc (Nat.le_refl _) (.cells #[.slice (some ⟨g, 0, none⟩) Nv cap] 25))
  have HI1a := hid (HI1.out.next HA1.out)
  have HV1 : Hid (VAt (w1.alloc (.cells #[.slice (some ⟨g, 0, none⟩) Nv cap] 25)) w1.heap.size (.slice (some ⟨g, 0, none⟩) Nv cap)) := heap_alloc_new w1 _
  have HO1a := hid (HO1.out.alloc (.cells #[.slice (some ⟨g, 0, none⟩) Nv cap] 25))
  refine (pick_any R p Nv _ (by omega) (by omega) HI1a.out.rd).mono ?_
  rintro e w2 ⟨⟨k, rfl, hk⟩, hr2, hs2⟩
  have hkn : k < Nv := by omega
  have hw1R : R < w1.heap.size := by omega
  have HI2 := hid (HI1a.out.drew hs2 hr2 (by omega))
  have HV2 := hid (HV1.out.sv hs2 (by omega))
  have HO2 := hid (own_sv HO1a.out hs2 (by omega))
  have hsz2 : w1.heap.size < w2.heap.size := by have := hs2.size; simp at this; omega
  obtain ⟨x, hx⟩ : ∃ x, lv[k]? = some x := ⟨_, List.getElem?_eq_getElem (by omega)⟩
  obtain ⟨_, _, _, _, _, hat2, _⟩ := own_here HO2.out
  obtain ⟨a0, a1, a2, a3⟩ := hat2 k x hx
  simp only [Nat.zero_add] at a0 a1 a2 a3
  obtain ⟨b0, b1⟩ := HV2.out.cells
  have hxb := HAV.out.2 x (List.mem_of_getElem? hx)
  obtain ⟨xk, xn, xt, xd⟩ := x
  simp only at a0 a1 a2 a3 hxb
  clear hr2 hs2 hat2 hx HO1a HV1 HI1a HA1 hg5 hg6
  go_wp2_with fail
  have HSP : Hid (Sp R (w.alloc (.cells #[.slice (some ⟨gv, ov, none⟩) Nv cv] 25)) (w2.alloc (.cells #[.int .i64 xk, .int .i64 xn, .string xt, .int .i64 xd] 51)) p (p + 1) g Nv cap w1.heap.size w2.heap.size lv ⟨xk, xn, xt, xd⟩) :=
    ⟨HI2.out.next ((Below.refl _ _).alloc (Nat.le_refl _) _), by have h := HO2.out.alloc (.cells #[.int .i64 xk, .int .i64 xn, .string xt, .int .i64 xd] 51); simp only [World.size_alloc]; exact h, HV2.out.next ((Below.refl _ _).alloc (Nat.le_refl _) _), heap_alloc_new w2 _, hgw, hg2, hsz2⟩
  clear a0 a1 a2 a3 b0 b1
  refine (pick_any R (p + 1) 6 _ (by omega) (by omega) HSP.out.1.rd).mono ?_
  rintro e w3 ⟨⟨z3, rfl, hz3⟩, hr3, hs3⟩
  have HS3 := hid hs3
  have HP3 := hid (HSP.out.drew hs3 hr3 (by omega))
  clear hr3 hs3
  obtain rfl | rfl | rfl | rfl | rfl | rfl : z3 = 0 ∨ z3 = 1 ∨ z3 = 2 ∨ z3 = 3 ∨ z3 = 4 ∨ z3 = 5 := by omega
  · go_wp2_with fail
    refine (pick_any R (p + 1 + 1) 9 _ (by omega) (by omega) HP3.out.1.rd).mono ?_
    rintro e w4 ⟨⟨z4, rfl, hz4⟩, hr4, hs4⟩
    have HS4 := hid hs4
    have HP4 := hid (HP3.out.drew hs4 hr4 (by omega))
    clear hr4 hs4
    obtain ⟨⟨n0, n1, n2, n3⟩, ⟨f0, f1, f2, f3⟩, n4, n5⟩ := HP4.out.cells
    have HPF : Hid (Sp R (w.alloc (.cells #[.slice (some ⟨gv, ov, none⟩) Nv cv] 25)) (w4.setCell ⟨w2.heap.size, 0, none⟩ (.int .i64 ((z4 : Int) - 1))) p (p + 1 + 1 + 1) g Nv cap w1.heap.size w2.heap.size lv ⟨((z4 : Int) - 1), xn, xt, xd⟩) := HP4.out.put rfl
    go_upto_region 18 with fail
    clear n0 n1 n2 n3 f0 f1 f2 f3 n4 n5
    generalize w4.setCell ⟨w2.heap.size, 0, none⟩ (.int .i64 ((z4 : Int) - 1)) = wF at *
    obtain ⟨cur, hcur, hcs, hnc, hcm, _, _⟩ := own_here HPF.out.2.1
    obtain ⟨v0, j0⟩ := room' hcur (i := k * 4) (by omega)
    obtain ⟨v1, j1⟩ := room' hcur (i := k * 4 + 1) (by omega)
    obtain ⟨v2, j2⟩ := room' hcur (i := k * 4 + 2) (by omega)
    obtain ⟨v3, j3⟩ := room' hcur (i := k * 4 + 3) (by omega)
    have m0 := frozen_hp hcur (k * 4)
    have m1 := frozen_hp hcur (k * 4 + 1)
    have m2 := frozen_hp hcur (k * 4 + 2)
    have m3 := frozen_hp hcur (k * 4 + 3)
    have HRP := hid (row_put (x := ⟨((z4 : Int) - 1), xn, xt, xd⟩) HPF.out.2.1 hkn)
    have HIF := hid ((((HPF.out.1.set (i := k * 4) (v := .int .i64 ((z4 : Int) - 1)) hgw).set (i := k * 4 + 1) (v := .int .i64 xn) hgw).set (i := k * 4 + 2) (v := .string xt) hgw).set (i := k * 4 + 3) (v := .int .i64 xd) hgw)
    have HVF := hid ((((HPF.out.2.2.1.other (c := g) (i := k * 4) (v := .int .i64 ((z4 : Int) - 1)) (by omega)).other (c := g) (i := k * 4 + 1) (v := .int .i64 xn) (by omega)).other (c := g) (i := k * 4 + 2) (v := .string xt) (by omega)).other (c := g) (i := k * 4 + 3) (v := .int .i64 xd) (by omega))
    have HGL := hid (hgl HPF.out.2.1)
    obtain ⟨k0, k1⟩ := HIF.out.cells
    obtain ⟨k2, k3⟩ := HVF.out.cells
    obtain ⟨⟨n0, n1, n2, n3⟩, _, n4, n5⟩ := HPF.out.cells
    simp only [World.size_alloc] at k0 k1
    clear hcur hcs
    go_upto_region 19 with fail
    generalize hWG : ((((wF.setCell ⟨g, k * 4, none⟩ (.int .i64 ((z4 : Int) - 1))).setCell ⟨g, k * 4 + 1, none⟩ (.int .i64 xn)).setCell ⟨g, k * 4 + 2, none⟩ (.string xt)).setCell ⟨g, k * 4 + 3, none⟩ (.int .i64 xd)) = wG at *
    have hzG : wG.heap.size = wF.heap.size := by rw [← hWG]; simp
    clear hWG j0 j1 j2 j3 m0 m1 m2 m3 n0 n1 n2 n3 n4 n5
    go_wp2
    exact bodyPost_ret (v := .agg #[.slice (some ⟨g, 0, none⟩) Nv cap]) (by simp [results, Tryd.results27, go_sem, k0]) rfl (spoil_end HIF.out ⟨g, 0, Nv, cap, rfl, by rw [List.length_set]; exact HLN.out, hnc, by unfold maxLen at hcm; omega, by rw [hzG]; exact HGL.out, by omega, HRP.out.1, HRP.out.2.imp fun cur h => ⟨_, h⟩⟩ ((HAV.out.tx.put hxb.1).mono (by omega)) (by omega))
  · go_wp2_with fail
    have HPL := hid (HP3.out.next ((Below.refl _ _).alloc (Nat.le_refl _) (.cells #[.int .i64 2, .int .i64 (-1), .int .i64 1] 2)))
    refine (pick_any R (p + 1 + 1) 3 _ (by omega) (by omega) HPL.out.1.rd).mono ?_
    rintro e w4 ⟨⟨z4, rfl, hz4⟩, hr4, hs4⟩
    have HS4 := hid hs4
    have HP4 := hid (HPL.out.drew hs4 hr4 (by omega))
    clear hr4 hs4
    obtain ⟨cz, hcz⟩ : ∃ cz : Int, w4.cell? ⟨w3.heap.size, z4, none⟩ = some (.int .i64 cz) := by
      rw [lit_cell HS4.out HP3.out.1.rd.lt]
      rcases (show z4 = 0 ∨ z4 = 1 ∨ z4 = 2 by omega) with rfl | rfl | rfl <;> exact ⟨_, rfl⟩
    have hz4' : z4 < 3 := by omega
    obtain ⟨⟨n0, n1, n2, n3⟩, ⟨f0, f1, f2, f3⟩, n4, n5⟩ := HP4.out.cells
    have HPF : Hid (Sp R (w.alloc (.cells #[.slice (some ⟨gv, ov, none⟩) Nv cv] 25)) (w4.setCell ⟨w2.heap.size, 1, none⟩ (.int .i64 cz)) p (p + 1 + 1 + 1) g Nv cap w1.heap.size w2.heap.size lv ⟨xk, cz, xt, xd⟩) := HP4.out.put rfl
    go_upto_region 18 with fail
    clear n0 n1 n2 n3 f0 f1 f2 f3 n4 n5
    generalize w4.setCell ⟨w2.heap.size, 1, none⟩ (.int .i64 cz) = wF at *
    obtain ⟨cur, hcur, hcs, hnc, hcm, _, _⟩ := own_here HPF.out.2.1
    obtain ⟨v0, j0⟩ := room' hcur (i := k * 4) (by omega)
    obtain ⟨v1, j1⟩ := room' hcur (i := k * 4 + 1) (by omega)
    obtain ⟨v2, j2⟩ := room' hcur (i := k * 4 + 2) (by omega)
    obtain ⟨v3, j3⟩ := room' hcur (i := k * 4 + 3) (by omega)
    have m0 := frozen_hp hcur (k * 4)
    have m1 := frozen_hp hcur (k * 4 + 1)
    have m2 := frozen_hp hcur (k * 4 + 2)
    have m3 := frozen_hp hcur (k * 4 + 3)
    have HRP := hid (row_put (x := ⟨xk, cz, xt, xd⟩) HPF.out.2.1 hkn)
    have HIF := hid ((((HPF.out.1.set (i := k * 4) (v := .int .i64 xk) hgw).set (i := k * 4 + 1) (v := .int .i64 cz) hgw).set (i := k * 4 + 2) (v := .string xt) hgw).set (i := k * 4 + 3) (v := .int .i64 xd) hgw)
    have HVF := hid ((((HPF.out.2.2.1.other (c := g) (i := k * 4) (v := .int .i64 xk) (by omega)).other (c := g) (i := k * 4 + 1) (v := .int .i64 cz) (by omega)).other (c := g) (i := k * 4 + 2) (v := .string xt) (by omega)).other (c := g) (i := k * 4 + 3) (v := .int .i64 xd) (by omega))
    have HGL := hid (hgl HPF.out.2.1)
    obtain ⟨k0, k1⟩ := HIF.out.cells
    obtain ⟨k2, k3⟩ := HVF.out.cells
    obtain ⟨⟨n0, n1, n2, n3⟩, _, n4, n5⟩ := HPF.out.cells
    simp only [World.size_alloc] at k0 k1
    clear hcur hcs
    go_upto_region 19 with fail
    generalize hWG : ((((wF.setCell ⟨g, k * 4, none⟩ (.int .i64 xk)).setCell ⟨g, k * 4 + 1, none⟩ (.int .i64 cz)).setCell ⟨g, k * 4 + 2, none⟩ (.string xt)).setCell ⟨g, k * 4 + 3, none⟩ (.int .i64 xd)) = wG at *
    have hzG : wG.heap.size = wF.heap.size := by rw [← hWG]; simp
    clear hWG j0 j1 j2 j3 m0 m1 m2 m3 n0 n1 n2 n3 n4 n5
    go_wp2
    exact bodyPost_ret (v := .agg #[.slice (some ⟨g, 0, none⟩) Nv cap]) (by simp [results, Tryd.results27, go_sem, k0]) rfl (spoil_end HIF.out ⟨g, 0, Nv, cap, rfl, by rw [List.length_set]; exact HLN.out, hnc, by unfold maxLen at hcm; omega, by rw [hzG]; exact HGL.out, by omega, HRP.out.1, HRP.out.2.imp fun cur h => ⟨_, h⟩⟩ ((HAV.out.tx.put hxb.1).mono (by omega)) (by omega))
  · go_wp2_with fail
    refine (pick_any R (p + 1 + 1) 2 _ (by omega) (by omega) HP3.out.1.rd).mono ?_
    rintro e w4 ⟨⟨z4, rfl, hz4⟩, hr4, hs4⟩
    have HS4 := hid hs4
    have HP4 := hid (HP3.out.drew hs4 hr4 (by omega))
    clear hr4 hs4
    obtain ⟨m4, hm4, hm5⟩ : ∃ m4 : Nat, (1000 : Int) + (z4 : Int) = (m4 : Int) ∧ m4 ≤ 1001 := ⟨1000 + z4, by omega, by omega⟩
    go_wp2_with fail
    refine (l1Many_any ⟨#[116]⟩ m4 _ (by show 1 * m4 ≤ 2000; omega) (by omega) (by decide)).mono ?_
    rintro e w4b ⟨⟨tx, rfl, htx⟩, hw⟩
    have hw' := hw.symm
    clear hw
    subst hw'
    go_wp2_with fail
    have HPL := hid (HP4.out.next ((Below.refl _ _).alloc (Nat.le_refl _) (.cells #[.string ⟨#[]⟩, .string ⟨#[116]⟩, .string tx] 9)))
    refine (pick_any R (p + 1 + 1 + 1) 3 _ (by omega) (by omega) HPL.out.1.rd).mono ?_
    rintro e w5 ⟨⟨z5, rfl, hz5⟩, hr5, hs5⟩
    have HS5 := hid hs5
    have HP5 := hid (HPL.out.drew hs5 hr5 (by omega))
    clear hr5 hs5
    obtain ⟨ty, hty, hty2⟩ : ∃ ty : ByteArray, w5.cell? ⟨w4.heap.size, z5, none⟩ = some (.string ty) ∧ ty.size ≤ 2000 := by
      rw [lit_cell HS5.out HP4.out.1.rd.lt]
      rcases (show z5 = 0 ∨ z5 = 1 ∨ z5 = 2 by omega) with rfl | rfl | rfl
      · exact ⟨_, rfl, by decide⟩
      · exact ⟨_, rfl, by decide⟩
      · exact ⟨_, rfl, htx⟩
    have hz5' : z5 < 3 := by omega
    obtain ⟨⟨n0, n1, n2, n3⟩, ⟨f0, f1, f2, f3⟩, n4, n5⟩ := HP5.out.cells
    have HPF : Hid (Sp R (w.alloc (.cells #[.slice (some ⟨gv, ov, none⟩) Nv cv] 25)) (w5.setCell ⟨w2.heap.size, 2, none⟩ (.string ty)) p (p + 1 + 1 + 1 + 1) g Nv cap w1.heap.size w2.heap.size lv ⟨xk, xn, ty, xd⟩) := HP5.out.put rfl
    go_upto_region 18 with fail
    clear n0 n1 n2 n3 f0 f1 f2 f3 n4 n5
    generalize w5.setCell ⟨w2.heap.size, 2, none⟩ (.string ty) = wF at *
    obtain ⟨cur, hcur, hcs, hnc, hcm, _, _⟩ := own_here HPF.out.2.1
    obtain ⟨v0, j0⟩ := room' hcur (i := k * 4) (by omega)
    obtain ⟨v1, j1⟩ := room' hcur (i := k * 4 + 1) (by omega)
    obtain ⟨v2, j2⟩ := room' hcur (i := k * 4 + 2) (by omega)
    obtain ⟨v3, j3⟩ := room' hcur (i := k * 4 + 3) (by omega)
    have m0 := frozen_hp hcur (k * 4)
    have m1 := frozen_hp hcur (k * 4 + 1)
    have m2 := frozen_hp hcur (k * 4 + 2)
    have m3 := frozen_hp hcur (k * 4 + 3)
    have HRP := hid (row_put (x := ⟨xk, xn, ty, xd⟩) HPF.out.2.1 hkn)
    have HIF := hid ((((HPF.out.1.set (i := k * 4) (v := .int .i64 xk) hgw).set (i := k * 4 + 1) (v := .int .i64 xn) hgw).set (i := k * 4 + 2) (v := .string ty) hgw).set (i := k * 4 + 3) (v := .int .i64 xd) hgw)
    have HVF := hid ((((HPF.out.2.2.1.other (c := g) (i := k * 4) (v := .int .i64 xk) (by omega)).other (c := g) (i := k * 4 + 1) (v := .int .i64 xn) (by omega)).other (c := g) (i := k * 4 + 2) (v := .string ty) (by omega)).other (c := g) (i := k * 4 + 3) (v := .int .i64 xd) (by omega))
    have HGL := hid (hgl HPF.out.2.1)
    obtain ⟨k0, k1⟩ := HIF.out.cells
    obtain ⟨k2, k3⟩ := HVF.out.cells
    obtain ⟨⟨n0, n1, n2, n3⟩, _, n4, n5⟩ := HPF.out.cells
    simp only [World.size_alloc] at k0 k1
    clear hcur hcs
    go_upto_region 19 with fail
    generalize hWG : ((((wF.setCell ⟨g, k * 4, none⟩ (.int .i64 xk)).setCell ⟨g, k * 4 + 1, none⟩ (.int .i64 xn)).setCell ⟨g, k * 4 + 2, none⟩ (.string ty)).setCell ⟨g, k * 4 + 3, none⟩ (.int .i64 xd)) = wG at *
    have hzG : wG.heap.size = wF.heap.size := by rw [← hWG]; simp
    clear hWG j0 j1 j2 j3 m0 m1 m2 m3 n0 n1 n2 n3 n4 n5
    go_wp2
    exact bodyPost_ret (v := .agg #[.slice (some ⟨g, 0, none⟩) Nv cap]) (by simp [results, Tryd.results27, go_sem, k0]) rfl (spoil_end HIF.out ⟨g, 0, Nv, cap, rfl, by rw [List.length_set]; exact HLN.out, hnc, by unfold maxLen at hcm; omega, by rw [hzG]; exact HGL.out, by omega, HRP.out.1, HRP.out.2.imp fun cur h => ⟨_, h⟩⟩ ((HAV.out.tx.put hty2).mono (by omega)) (by omega))
  · obtain ⟨⟨n0, n1, n2, n3⟩, ⟨f0, f1, f2, f3⟩, n4, n5⟩ := HP3.out.cells
    go_wp2_with fail
    have HPD : Hid (Sp R (w.alloc (.cells #[.slice (some ⟨gv, ov, none⟩) Nv cv] 25)) w3.drew p (p + 1 + 1) g Nv cap w1.heap.size w2.heap.size lv ⟨xk, xn, xt, xd⟩) := HP3.out.next ((Below.refl _ _).drew)
    go_region_law (refine step_enter rfl (f := 18) (vals := #[.pointer (some ⟨R, 0, none⟩), .int .i64 3]) (by kernel_rfl) (pick_any R (p + 1 + 1) 3 _ (by omega) (by omega) HPD.out.1.rd) ?_; intro e w4 hq4; obtain ⟨⟨z4, rfl, hz4⟩, hr4, hs4⟩ := hq4; refine ⟨_, rfl, ?_⟩; have HP4 := hid (HPD.out.drew hs4 hr4 (by omega)); obtain ⟨⟨q0, q1, q2, q3⟩, ⟨e0, e1, e2, e3⟩, q4, q5⟩ := HP4.out.cells; have hwa : IntKind.i64.wrap (xd + (z4 : Int)) = xd + (z4 : Int) := (by rw [IntKind.wrap_i64]; omega); have hwb : IntKind.i64.wrap (xd + (z4 : Int) - 1) = xd + (z4 : Int) - 1 := (by rw [IntKind.wrap_i64]; omega); clear hr4 hs4)
    all_goals have HPF : Hid (Sp R (w.alloc (.cells #[.slice (some ⟨gv, ov, none⟩) Nv cv] 25)) (w4.setCell ⟨w2.heap.size, 3, none⟩ (.int .i64 (xd + (z4 : Int) - 1))) p (p + 1 + 1 + 1) g Nv cap w1.heap.size w2.heap.size lv ⟨xk, xn, xt, xd + (z4 : Int) - 1⟩) := HP4.out.put rfl
    all_goals go_upto_region 18 with fail
    all_goals clear n0 n1 n2 n3 f0 f1 f2 f3 n4 n5 q0 q1 q2 q3 e0 e1 e2 e3 q4 q5
    all_goals generalize w4.setCell ⟨w2.heap.size, 3, none⟩ (.int .i64 (xd + (z4 : Int) - 1)) = wF at *
    all_goals
      obtain ⟨cur, hcur, hcs, hnc, hcm, _, _⟩ := own_here HPF.out.2.1
      obtain ⟨v0, j0⟩ := room' hcur (i := k * 4) (by omega)
      obtain ⟨v1, j1⟩ := room' hcur (i := k * 4 + 1) (by omega)
      obtain ⟨v2, j2⟩ := room' hcur (i := k * 4 + 2) (by omega)
      obtain ⟨v3, j3⟩ := room' hcur (i := k * 4 + 3) (by omega)
      have m0 := frozen_hp hcur (k * 4)
      have m1 := frozen_hp hcur (k * 4 + 1)
      have m2 := frozen_hp hcur (k * 4 + 2)
      have m3 := frozen_hp hcur (k * 4 + 3)
      have HRP := hid (row_put (x := ⟨xk, xn, xt, (xd + (z4 : Int) - 1)⟩) HPF.out.2.1 hkn)
      have HIF := hid ((((HPF.out.1.set (i := k * 4) (v := .int .i64 xk) hgw).set (i := k * 4 + 1) (v := .int .i64 xn) hgw).set (i := k * 4 + 2) (v := .string xt) hgw).set (i := k * 4 + 3) (v := .int .i64 (xd + (z4 : Int) - 1)) hgw)
      have HVF := hid ((((HPF.out.2.2.1.other (c := g) (i := k * 4) (v := .int .i64 xk) (by omega)).other (c := g) (i := k * 4 + 1) (v := .int .i64 xn) (by omega)).other (c := g) (i := k * 4 + 2) (v := .string xt) (by omega)).other (c := g) (i := k * 4 + 3) (v := .int .i64 (xd + (z4 : Int) - 1)) (by omega))
      have HGL := hid (hgl HPF.out.2.1)
      obtain ⟨k0, k1⟩ := HIF.out.cells
      obtain ⟨k2, k3⟩ := HVF.out.cells
      obtain ⟨⟨n0, n1, n2, n3⟩, _, n4, n5⟩ := HPF.out.cells
      simp only [World.size_alloc] at k0 k1
      clear hcur hcs
      go_upto_region 19 with fail
      generalize hWG : ((((wF.setCell ⟨g, k * 4, none⟩ (.int .i64 xk)).setCell ⟨g, k * 4 + 1, none⟩ (.int .i64 xn)).setCell ⟨g, k * 4 + 2, none⟩ (.string xt)).setCell ⟨g, k * 4 + 3, none⟩ (.int .i64 (xd + (z4 : Int) - 1))) = wG at *
      have hzG : wG.heap.size = wF.heap.size := by rw [← hWG]; simp
      clear hWG j0 j1 j2 j3 m0 m1 m2 m3 n0 n1 n2 n3 n4 n5
      go_wp2
      exact bodyPost_ret (v := .agg #[.slice (some ⟨g, 0, none⟩) Nv cap]) (by simp [results, Tryd.results27, go_sem, k0]) rfl (spoil_end HIF.out ⟨g, 0, Nv, cap, rfl, by rw [List.length_set]; exact HLN.out, hnc, by unfold maxLen at hcm; omega, by rw [hzG]; exact HGL.out, by omega, HRP.out.1, HRP.out.2.imp fun cur h => ⟨_, h⟩⟩ ((HAV.out.tx.put hxb.1).mono (by omega)) (by omega))
  · obtain ⟨⟨n0, n1, n2, n3⟩, ⟨f0, f1, f2, f3⟩, n4, n5⟩ := HP3.out.cells
    obtain ⟨cur, hcur, hcs, hnc, hcm, hat3, hl3⟩ := own_here HP3.out.2.1
    have HOD : Hid (w3.drew.ownsRow (w.heap.size + 1 + 1) 51 4 (.slice (some ⟨g, 0, none⟩) k cap) k (atRow (lv.take k))) := by have h := own_take HP3.out.2.1 (Nat.le_of_lt hkn); simp only [World.size_alloc] at h; exact h
    have hwk1 : IntKind.i64.wrap ((k : Int) + 1) = (k : Int) + 1 := by rw [IntKind.wrap_i64]; omega
    have HPD : Hid (Sp R (w.alloc (.cells #[.slice (some ⟨gv, ov, none⟩) Nv cv] 25)) w3.drew p (p + 1 + 1) g Nv cap w1.heap.size w2.heap.size lv ⟨xk, xn, xt, xd⟩) := HP3.out.next ((Below.refl _ _).drew)
    unfold maxLen at hcm
    have HDR := hid (AtomsAt.cells (hat3.drop (k := k + 1)))
    have HDL : Hid ((atRow (lv.drop (k + 1))).length = (Nv - (k + 1)) * 4) := by show _ = _; rw [atRow_length, List.length_drop, HLN.out]
    have i1 : (0 : Int) ≤ (k : Int) + 1 := by omega
    have i2 : (k : Int) + 1 ≤ (Nv : Int) := by omega
    have i3 : (k : Int) ≤ (cap : Int) := by omega
    have HBO : Hid (VAt w3.drew w1.heap.size (.slice (some ⟨g, 0, none⟩) Nv cap)) := HP3.out.2.2.1
    have hbo : w1.heap.size < w3.drew.heap.size := HBO.out.lt
    have HCUT : Hid ((lv.take k ++ lv.drop (k + 1)).length = Nv - 1) := by show _ = _; rw [List.length_append, List.length_take, List.length_drop, HLN.out]; omega
    obtain ⟨N9, hN9⟩ : ∃ N9, Nv - 1 = N9 := ⟨_, rfl⟩
    have h2l : (lv.take k ++ lv.drop (k + 1)).length = N9 := by rw [← hN9]; exact HCUT.out
    have HH2 := hid h2l
    have HW3 : Hid (w.heap.size + 1 + 1 ≤ w3.drew.heap.size) := by show _ ≤ _; have h : w1.heap.size < w3.heap.size := hbo; show w.heap.size + 1 + 1 ≤ w3.heap.size; omega
    simp only [Nat.zero_add] at HDR
    clear hcur hat3 h2l
    by_cases hkc : k + 1 < cap
    · have HH3 : Hid (∀ (v9 : Value) (w9 : World), w9.ownsRow (w.heap.size + 1 + 1) 51 4 v9 (k + (Nv - (k + 1))) (atRow (lv.take k) ++ atRow (lv.drop (k + 1))) → w9.ownsRow (w.heap.size + 1 + 1) 51 4 v9 N9 (atRow (lv.take k ++ lv.drop (k + 1)))) := fun v9 w9 h => by rw [atRow_append, ← hN9, show Nv - 1 = k + (Nv - (k + 1)) by omega]; exact h
      go_wp2_with fail
      go_region_law (refine step_append_own_at rfl (.tmp 72) (.tmp 77) 23 rfl (w.heap.size + 1 + 1) 51 i0 (.agg #[.int .i64 0, .int .i64 0, .string ⟨#[]⟩, .int .i64 0]) 4 40 Tryd.underlying23 HHI.out.1 HHI.out.2.1 HHI.out.2.2.1 HHI.out.2.2.2 rfl (by decide) (.slice (some ⟨g, 0, none⟩) k cap) k (atRow (lv.take k)) (by first | (simp [Act.eval]; done) | (simp [Act.eval]; omega) | (simp [Act.eval, Act.put]; done) | (simp [Act.eval, Act.put]; omega)) HOD.out ⟨g, (k + 1) * 4, none⟩ (Nv - (k + 1)) (cap - (k + 1)) (atRow (lv.drop (k + 1))) (by first | (simp [Act.eval]; done) | (simp [Act.eval]; omega) | (simp [Act.eval, Act.put]; done) | (simp [Act.eval, Act.put]; omega)) HDL.out HDR.out (atRow_one _) (by unfold maxLen; omega) (by omega) HW3.out ?_; intro v9 w9 h2 h3 h4 h5; (have h2 := HH3.out _ _ h2); have h2l := HH2.out; have hnn := some_not_nil h4; obtain ⟨g9, c9, rfl, hg91, hg92, hg93, hg94, hg95, hg96⟩ := own_atoms h2 hnn; have HV9 : Hid (ValIn R w9 (.slice (some ⟨g9, 0, none⟩) N9 c9) (lv.take k ++ lv.drop (k + 1))) := (by unfold maxLen at hg94; obtain ⟨cur9, hc9⟩ := hg96; exact ⟨g9, 0, N9, c9, rfl, h2l, hg93, by omega, hg92, by omega, hg95, cur9, _, hc9⟩); have HI9 := hid (HPD.out.1.grow1 h3 (fun k e => by simp [Value.ownBlock] at e; simp; omega)); have HB9 : Hid (VAt w9 w1.heap.size (.slice (some ⟨g, 0, none⟩) Nv cap)) := (h3.block w1.heap.size hbo (by simp [Value.ownBlock]; omega)).trans HBO.out; have hs9 := HB9.out.cells; obtain ⟨b0, b1⟩ := hs9; clear h2 h3 h4 h5 hnn hg95 hg96; clear h2l)
      all_goals have HIZ := hid (HI9.out.set (b := w1.heap.size) (i := 0) (v := .slice (some ⟨g9, 0, none⟩) N9 c9) (by simp; omega))
      all_goals have HVZ := hid (HV9.out.set (i := 0) (v := .slice (some ⟨g9, 0, none⟩) N9 c9) HB9.out)
      all_goals have HOZ := hid (HB9.out.set (.slice (some ⟨g9, 0, none⟩) N9 c9))
      all_goals obtain ⟨k0, k1⟩ := HIZ.out.cells
      all_goals obtain ⟨k2, k3⟩ := HOZ.out.cells
      all_goals simp only [World.size_alloc] at k0 k1
      all_goals generalize w9.setCell ⟨w1.heap.size, 0, none⟩ (.slice (some ⟨g9, 0, none⟩) N9 c9) = wZ at *
      all_goals clear b0 b1
      all_goals go_wp2
      all_goals exact bodyPost_ret (v := .agg #[.slice (some ⟨g9, 0, none⟩) N9 c9]) (by simp [results, Tryd.results27, go_sem, k0]) rfl (spoil_end HIZ.out HVZ.out (HAV.out.tx.cut.mono (by omega)) (by omega))
    · have HH3 : Hid (∀ (v9 : Value) (w9 : World), w9.ownsRow (w.heap.size + 1 + 1) 51 4 v9 (k + (Nv - (k + 1))) (atRow (lv.take k) ++ []) → w9.ownsRow (w.heap.size + 1 + 1) 51 4 v9 N9 (atRow (lv.take k ++ lv.drop (k + 1)))) := fun v9 w9 h => by rw [List.drop_eq_nil_of_le (by rw [HLN.out]; omega), List.append_nil, ← hN9, show Nv - 1 = k + (Nv - (k + 1)) by omega]; rw [List.append_nil] at h; exact h
      go_wp2_with fail
      go_region_law (refine step_append_own_at rfl (.tmp 72) (.tmp 77) 23 rfl (w.heap.size + 1 + 1) 51 i0 (.agg #[.int .i64 0, .int .i64 0, .string ⟨#[]⟩, .int .i64 0]) 4 40 Tryd.underlying23 HHI.out.1 HHI.out.2.1 HHI.out.2.2.1 HHI.out.2.2.2 rfl (by decide) (.slice (some ⟨g, 0, none⟩) k cap) k (atRow (lv.take k)) (by first | (simp [Act.eval]; done) | (simp [Act.eval]; omega) | (simp [Act.eval, Act.put]; done) | (simp [Act.eval, Act.put]; omega)) HOD.out ⟨g, 0, none⟩ (Nv - (k + 1)) (cap - (k + 1)) ([]) (by first | (simp [Act.eval]; done) | (simp [Act.eval]; omega) | (simp [Act.eval, Act.put]; done) | (simp [Act.eval, Act.put]; omega)) (by simp; omega) (by intro j u hu; simp at hu) (by simp) (by unfold maxLen; omega) (by omega) HW3.out ?_; intro v9 w9 h2 h3 h4 h5; (have h2 := HH3.out _ _ h2); have h2l := HH2.out; have hnn := some_not_nil h4; obtain ⟨g9, c9, rfl, hg91, hg92, hg93, hg94, hg95, hg96⟩ := own_atoms h2 hnn; have HV9 : Hid (ValIn R w9 (.slice (some ⟨g9, 0, none⟩) N9 c9) (lv.take k ++ lv.drop (k + 1))) := (by unfold maxLen at hg94; obtain ⟨cur9, hc9⟩ := hg96; exact ⟨g9, 0, N9, c9, rfl, h2l, hg93, by omega, hg92, by omega, hg95, cur9, _, hc9⟩); have HI9 := hid (HPD.out.1.grow1 h3 (fun k e => by simp [Value.ownBlock] at e; simp; omega)); have HB9 : Hid (VAt w9 w1.heap.size (.slice (some ⟨g, 0, none⟩) Nv cap)) := (h3.block w1.heap.size hbo (by simp [Value.ownBlock]; omega)).trans HBO.out; have hs9 := HB9.out.cells; obtain ⟨b0, b1⟩ := hs9; clear h2 h3 h4 h5 hnn hg95 hg96; clear h2l)
      all_goals have HIZ := hid (HI9.out.set (b := w1.heap.size) (i := 0) (v := .slice (some ⟨g9, 0, none⟩) N9 c9) (by simp; omega))
      all_goals have HVZ := hid (HV9.out.set (i := 0) (v := .slice (some ⟨g9, 0, none⟩) N9 c9) HB9.out)
      all_goals have HOZ := hid (HB9.out.set (.slice (some ⟨g9, 0, none⟩) N9 c9))
      all_goals obtain ⟨k0, k1⟩ := HIZ.out.cells
      all_goals obtain ⟨k2, k3⟩ := HOZ.out.cells
      all_goals simp only [World.size_alloc] at k0 k1
      all_goals generalize w9.setCell ⟨w1.heap.size, 0, none⟩ (.slice (some ⟨g9, 0, none⟩) N9 c9) = wZ at *
      all_goals clear b0 b1
      all_goals go_wp2
      all_goals exact bodyPost_ret (v := .agg #[.slice (some ⟨g9, 0, none⟩) N9 c9]) (by simp [results, Tryd.results27, go_sem, k0]) rfl (spoil_end HIZ.out HVZ.out (HAV.out.tx.cut.mono (by omega)) (by omega))
  · obtain ⟨⟨n0, n1, n2, n3⟩, ⟨f0, f1, f2, f3⟩, n4, n5⟩ := HP3.out.cells
    have HOD := hid (HP3.out.2.1.alloc (.cells #[.int .i64 xk, .int .i64 xn, .string xt, .int .i64 xd] 51))
    have HIA := hid (HP3.out.1.next ((Below.refl _ _).alloc (Nat.le_refl _) (.cells #[.int .i64 xk, .int .i64 xn, .string xt, .int .i64 xd] 51)))
    have HBO := hid (HP3.out.2.2.1.next ((Below.refl _ _).alloc (Nat.le_refl _) (.cells #[.int .i64 xk, .int .i64 xn, .string xt, .int .i64 xd] 51)))
    have hbo := HBO.out.lt
    have hw3z : w1.heap.size < w3.heap.size := HP3.out.2.2.1.lt
    have HCN : Hid (∀ q u, (atRow [⟨xk, xn, xt, xd⟩])[q]? = some u → (w3.alloc (.cells #[.int .i64 xk, .int .i64 xn, .string xt, .int .i64 xd] 51)).cell? ((⟨w3.heap.size, 0, none⟩ : Addr).add q) = some u) := fun q u h => by
      rw [add_none, Nat.zero_add, cell_new_row]
      simpa [atRow] using h
    obtain ⟨N9, hN9⟩ : ∃ N9, Nv + 1 = N9 := ⟨_, rfl⟩
    have HH2 : Hid ((lv ++ [(⟨xk, xn, xt, xd⟩ : At)]).length = N9) := by show _ = _; rw [List.length_append, HLN.out, ← hN9]; rfl
    simp only [World.size_alloc] at HOD
    go_upto_region 6 with (at_builtin; refine wpList_append_own_at _ rfl (.tmp 26) (.tmp 28) 23 rfl (w.heap.size + 1 + 1) 51 i0 (.agg #[.int .i64 0, .int .i64 0, .string ⟨#[]⟩, .int .i64 0]) 4 40 Tryd.underlying23 HHI.out.1 HHI.out.2.1 HHI.out.2.2.1 HHI.out.2.2.2 rfl (by decide) (.slice (some ⟨g, 0, none⟩) Nv cap) Nv (atRow lv) rfl HOD.out ⟨w3.heap.size, 0, none⟩ 1 1 (atRow [⟨xk, xn, xt, xd⟩]) rfl rfl HCN.out (atRow_one _) (by unfold maxLen; omega) (by omega) (by simp; omega) ?_; intro v9 w9 h2 h3 h4 h5; rw [← atRow_append, hN9] at h2; have h2l := HH2.out; have hnn := some_not_nil h4; obtain ⟨g9, c9, rfl, hg91, hg92, hg93, hg94, hg95, hg96⟩ := own_atoms h2 hnn; have HV9 : Hid (ValIn R w9 (.slice (some ⟨g9, 0, none⟩) N9 c9) (lv ++ [⟨xk, xn, xt, xd⟩])) := (by unfold maxLen at hg94; obtain ⟨cur9, hc9⟩ := hg96; exact ⟨g9, 0, N9, c9, rfl, h2l, hg93, by omega, hg92, by omega, hg95, cur9, _, hc9⟩); have HI9 := hid (HIA.out.grow1 h3 (fun k e => by simp [Value.ownBlock] at e; simp; omega)); have HB9 : Hid (VAt w9 w1.heap.size (.slice (some ⟨g, 0, none⟩) Nv cap)) := (h3.block w1.heap.size hbo (by simp [Value.ownBlock]; omega)).trans HBO.out; have hs9 := HB9.out.cells; obtain ⟨b0, b1⟩ := hs9; clear h2 h3 h4 h5 hnn hg95 hg96; clear h2l)
    all_goals have HIZ := hid (HI9.out.set (b := w1.heap.size) (i := 0) (v := .slice (some ⟨g9, 0, none⟩) N9 c9) (by simp; omega))
    all_goals have HVZ := hid (HV9.out.set (i := 0) (v := .slice (some ⟨g9, 0, none⟩) N9 c9) HB9.out)
    all_goals have HOZ := hid (HB9.out.set (.slice (some ⟨g9, 0, none⟩) N9 c9))
    all_goals obtain ⟨k0, k1⟩ := HIZ.out.cells
    all_goals obtain ⟨k2, k3⟩ := HOZ.out.cells
    all_goals simp only [World.size_alloc] at k0 k1
    all_goals generalize w9.setCell ⟨w1.heap.size, 0, none⟩ (.slice (some ⟨g9, 0, none⟩) N9 c9) = wZ at *
    all_goals clear b0 b1
    all_goals go_wp2
    all_goals exact bodyPost_ret (v := .agg #[.slice (some ⟨g9, 0, none⟩) N9 c9]) (by simp [results, Tryd.results27, go_sem, k0]) rfl (spoil_end HIZ.out HVZ.out ((HAV.out.tx.snoc hxb.1).mono (by omega)) (by omega))
end Go.Proofs.YtfookokepnnmoaaDoor
