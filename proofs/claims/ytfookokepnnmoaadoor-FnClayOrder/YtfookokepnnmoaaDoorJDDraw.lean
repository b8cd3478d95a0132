import Derived.Test.YtfookokepnnmoaaDoorJDSet
namespace Go.Proofs.YtfookokepnnmoaaDoor
open Go.RowKit
set_option maxRecDepth 20000
def ints : Array Value := #[.int .i64 0, .int .i64 1, .int .i64 (-1), .int .i64 2, .int .i64 7, .int .i64 (-7), .int .i64 10, .int .i64 9223372036854775807, .int .i64 (-9223372036854775808), .int .i64 (-9223372036854775807), .int .i64 4611686018427387904, .int .i64 3037000500]
def texts (t : ByteArray) : Array Value := #[.string t, .string ⟨#[45, 48]⟩, .string ⟨#[45, 49, 50]⟩, .string ⟨#[57, 50, 50, 51, 51, 55, 50, 48, 51, 54, 56, 53, 52, 55, 55, 53, 56, 48, 56]⟩, .string ⟨#[45, 57, 50, 50, 51, 51, 55, 50, 48, 51, 54, 56, 53, 52, 55, 55, 53, 56, 48, 56]⟩, .string ⟨#[43, 49]⟩, .string ⟨#[97, 32, 98]⟩]
set_option maxHeartbeats 16000000 in
theorem draw_low (d : Int) (A C : Nat) (hd : d ≤ 0) (hA1 : 1 ≤ A) (hC : 20 ≤ C) : DrawOk d A C := by
  intro R p w hp0 hr
  have hp : p ≤ 799000000 := Nat.le_trans hp0 (PB_le d)
  clear hp0
  have HR := hid hr
  clear hr
  go_enter Tryd.func28, Tryd.ntmps28
  go_wp2_with fail
  have HI0 := hid (Inn.start HR.out)
  refine (pick_any R (p) 8 _ (by omega) (by omega) HI0.out.rd).mono ?_
  rintro e w1 ⟨⟨z1, rfl, hz1⟩, hr1, hs1⟩
  have HS1 := hid hs1
  have HI1 := hid (HI0.out.drew hs1 hr1 (by omega))
  clear hr1 hs1
  obtain ⟨y, hy, hy4⟩ : ∃ y : Nat, (z1 : Int) % 5 = (y : Int) ∧ y ≤ 4 := ⟨z1 % 5, by omega, by omega⟩
  have h5 : y = 0 ∨ y = 1 ∨ y = 2 ∨ y = 3 ∨ y = 4 := by omega
  rcases h5 with rfl | rfl | rfl | rfl | rfl
  · go_wp2_with fail
    refine (l5None_any _).mono ?_
    rintro e w5 hq5
    obtain ⟨s5, rfl, hv5, hb5⟩ := OneMade.val (R := R) hq5 HI1.out.rd.lt
    have HV5 := hid hv5
    have HI5 := hid (HI1.out.next hb5)
    obtain ⟨t1, t2⟩ := HI5.out.cells
    obtain ⟨g5, o5, N5, c5, rfl, _⟩ := hv5
    clear hq5 hb5
    go_wp2
    exact bodyPost_ret (v := .agg #[.slice (some ⟨g5, o5, none⟩) N5 c5]) (by simp [results, Tryd.results28, go_sem, t1]) rfl (HI5.out.fin HV5.out (by simp) ((AtOk.one _ _ _ _ (by decide) (by omega) (by omega)).mono hA1) (by omega))
  · go_wp2_with fail
    refine (pick_any R (p + 1) 2 _ (by omega) (by omega) HI1.out.rd).mono ?_
    rintro e w2 ⟨⟨z2, rfl, hz2⟩, hr2, hs2⟩
    have HS2 := hid hs2
    have HI2 := hid (HI1.out.drew hs2 hr2 (by omega))
    clear hr2 hs2
    go_wp2_with fail
    refine (l5Bool_any _ _).mono ?_
    rintro e w5 hq5
    obtain ⟨s5, rfl, hv5, hb5⟩ := OneMade.val (R := R) hq5 HI2.out.rd.lt
    have HV5 := hid hv5
    have HI5 := hid (HI2.out.next hb5)
    obtain ⟨t1, t2⟩ := HI5.out.cells
    obtain ⟨g5, o5, N5, c5, rfl, _⟩ := hv5
    clear hq5 hb5
    go_wp2
    exact bodyPost_ret (v := .agg #[.slice (some ⟨g5, o5, none⟩) N5 c5]) (by simp [results, Tryd.results28, go_sem, t1]) rfl (HI5.out.fin HV5.out (by simp) ((AtOk.one _ _ _ _ (by decide) (by omega) (by omega)).mono hA1) (by omega))
  · go_wp2_with fail
    have HL := hid (HI1.out.next ((Below.refl _ _).alloc (Nat.le_refl _) (.cells ints 2)))
    refine (pick_any R (p + 1) 12 _ (by omega) (by omega) HL.out.rd).mono ?_
    rintro e w2 ⟨⟨z2, rfl, hz2⟩, hr2, hs2⟩
    have HS2 := hid hs2
    have HI2 := hid (HL.out.drew hs2 hr2 (by omega))
    clear hr2 hs2
    obtain ⟨cz, hcz⟩ : ∃ cz : Int, w2.cell? ⟨w1.heap.size, z2, none⟩ = some (.int .i64 cz) := by
      rw [lit_cell HS2.out HI1.out.rd.lt]
      have h12 : z2 = 0 ∨ z2 = 1 ∨ z2 = 2 ∨ z2 = 3 ∨ z2 = 4 ∨ z2 = 5 ∨ z2 = 6 ∨ z2 = 7 ∨ z2 = 8 ∨ z2 = 9 ∨ z2 = 10 ∨ z2 = 11 := by omega
      rcases h12 with rfl | rfl | rfl | rfl | rfl | rfl | rfl | rfl | rfl | rfl | rfl | rfl <;> exact ⟨_, rfl⟩
    have hz12 : z2 < 12 := by omega
    go_wp2_with fail
    refine (l5Int_any _ _).mono ?_
    rintro e w5 hq5
    obtain ⟨s5, rfl, hv5, hb5⟩ := OneMade.val (R := R) hq5 HI2.out.rd.lt
    have HV5 := hid hv5
    have HI5 := hid (HI2.out.next hb5)
    obtain ⟨t1, t2⟩ := HI5.out.cells
    obtain ⟨g5, o5, N5, c5, rfl, _⟩ := hv5
    clear hq5 hb5
    go_wp2
    exact bodyPost_ret (v := .agg #[.slice (some ⟨g5, o5, none⟩) N5 c5]) (by simp [results, Tryd.results28, go_sem, t1]) rfl (HI5.out.fin HV5.out (by simp) ((AtOk.one _ _ _ _ (by decide) (by omega) (by omega)).mono hA1) (by omega))
  · go_wp2_with fail
    have HL := hid (HI1.out.next ((Below.refl _ _).alloc (Nat.le_refl _) (.cells ints 2)))
    refine (pick_any R (p + 1) 12 _ (by omega) (by omega) HL.out.rd).mono ?_
    rintro e w2 ⟨⟨z2, rfl, hz2⟩, hr2, hs2⟩
    have HS2 := hid hs2
    have HI2 := hid (HL.out.drew hs2 hr2 (by omega))
    clear hr2 hs2
    obtain ⟨cz, hcz⟩ : ∃ cz : Int, w2.cell? ⟨w1.heap.size, z2, none⟩ = some (.int .i64 cz) := by
      rw [lit_cell HS2.out HI1.out.rd.lt]
      have h12 : z2 = 0 ∨ z2 = 1 ∨ z2 = 2 ∨ z2 = 3 ∨ z2 = 4 ∨ z2 = 5 ∨ z2 = 6 ∨ z2 = 7 ∨ z2 = 8 ∨ z2 = 9 ∨ z2 = 10 ∨ z2 = 11 := by omega
      rcases h12 with rfl | rfl | rfl | rfl | rfl | rfl | rfl | rfl | rfl | rfl | rfl | rfl <;> exact ⟨_, rfl⟩
    have hz12 : z2 < 12 := by omega
    go_wp2_with fail
    refine (l5Int_any _ _).mono ?_
    rintro e w5 hq5
    obtain ⟨s5, rfl, hv5, hb5⟩ := OneMade.val (R := R) hq5 HI2.out.rd.lt
    have HV5 := hid hv5
    have HI5 := hid (HI2.out.next hb5)
    obtain ⟨t1, t2⟩ := HI5.out.cells
    obtain ⟨g5, o5, N5, c5, rfl, _⟩ := hv5
    clear hq5 hb5
    go_wp2
    exact bodyPost_ret (v := .agg #[.slice (some ⟨g5, o5, none⟩) N5 c5]) (by simp [results, Tryd.results28, go_sem, t1]) rfl (HI5.out.fin HV5.out (by simp) ((AtOk.one _ _ _ _ (by decide) (by omega) (by omega)).mono hA1) (by omega))
  · go_wp2_with fail
    refine (pick_any R (p + 1) 16 _ (by omega) (by omega) HI1.out.rd).mono ?_
    rintro e w2 ⟨⟨z2, rfl, hz2⟩, hr2, hs2⟩
    have HS2 := hid hs2
    have HI2 := hid (HI1.out.drew hs2 hr2 (by omega))
    clear hr2 hs2
    by_cases hz0 : z2 = 0
    · subst hz0
      go_wp2_with fail
      refine (pick_any R (p + 1 + 1) 3 _ (by omega) (by omega) HI2.out.rd).mono ?_
      rintro e w3 ⟨⟨z3, rfl, hz3⟩, hr3, hs3⟩
      have HS3 := hid hs3
      have HI3 := hid (HI2.out.drew hs3 hr3 (by omega))
      clear hr3 hs3
      have e3 : (1000 : Int) - (z3 : Int) = ((1000 - z3 : Nat) : Int) := by omega
      obtain ⟨m3, hm3, hm4⟩ : ∃ m3 : Nat, (1000 : Int) - (z3 : Int) = (m3 : Int) ∧ m3 ≤ 1000 := ⟨1000 - z3, e3, by omega⟩
      clear e3
      go_wp2_with fail
      refine (l1Many_any ⟨#[116]⟩ m3 _ (by show 1 * m3 ≤ 2000; omega) (by omega) (by decide)).mono ?_
      rintro e w4 ⟨⟨tx, rfl, htx⟩, hw⟩
      have hw' := hw.symm
      clear hw
      subst hw'
      go_wp2_with fail
      refine (l5Text_any _ _).mono ?_
      rintro e w5 hq5
      obtain ⟨s5, rfl, hv5, hb5⟩ := OneMade.val (R := R) hq5 HI3.out.rd.lt
      have HV5 := hid hv5
      have HI5 := hid (HI3.out.next hb5)
      obtain ⟨t1, t2⟩ := HI5.out.cells
      obtain ⟨g5, o5, N5, c5, rfl, _⟩ := hv5
      clear hq5 hb5
      go_wp2
      exact bodyPost_ret (v := .agg #[.slice (some ⟨g5, o5, none⟩) N5 c5]) (by simp [results, Tryd.results28, go_sem, t1]) rfl (HI5.out.fin HV5.out (by simp) ((AtOk.one _ _ _ _ htx (by omega) (by omega)).mono hA1) (by omega))
    · have hz0' : ((z2 : Int) == 0) = false := by simp; omega
      go_wp2_with fail
      refine (l1DrawText_any R (p + 1 + 1) _ (by omega) HI2.out.rd).mono ?_
      rintro e w3 ⟨⟨tx, rfl, htx⟩, q3, hq3, hq3', hr3, hs3⟩
      have HI3 := hid (HI2.out.drew hs3 hr3 (by omega))
      clear hr3 hs3
      go_wp2_with fail
      have HL := hid (HI3.out.next ((Below.refl _ _).alloc (Nat.le_refl _) (.cells (texts tx) 9)))
      refine (pick_any R (q3) 7 _ (by omega) (by omega) HL.out.rd).mono ?_
      rintro e w4 ⟨⟨z4, rfl, hz4⟩, hr4, hs4⟩
      have HS4 := hid hs4
      have HI4 := hid (HL.out.drew hs4 hr4 (by omega))
      clear hr4 hs4
      obtain ⟨ty, hty, hty2⟩ : ∃ ty : ByteArray, w4.cell? ⟨w3.heap.size, z4, none⟩ = some (.string ty) ∧ ty.size ≤ 2000 := by
        rw [lit_cell HS4.out HI3.out.rd.lt]
        have h7 : z4 = 0 ∨ z4 = 1 ∨ z4 = 2 ∨ z4 = 3 ∨ z4 = 4 ∨ z4 = 5 ∨ z4 = 6 := by omega
        rcases h7 with rfl | rfl | rfl | rfl | rfl | rfl | rfl
        · exact ⟨_, rfl, by omega⟩
        · exact ⟨_, rfl, by decide⟩
        · exact ⟨_, rfl, by decide⟩
        · exact ⟨_, rfl, by decide⟩
        · exact ⟨_, rfl, by decide⟩
        · exact ⟨_, rfl, by decide⟩
        · exact ⟨_, rfl, by decide⟩
      have hz7 : z4 < 7 := by omega
      go_wp2_with fail
      refine (l5Text_any _ _).mono ?_
      rintro e w5 hq5
      obtain ⟨s5, rfl, hv5, hb5⟩ := OneMade.val (R := R) hq5 HI4.out.rd.lt
      have HV5 := hid hv5
      have HI5 := hid (HI4.out.next hb5)
      obtain ⟨t1, t2⟩ := HI5.out.cells
      obtain ⟨g5, o5, N5, c5, rfl, _⟩ := hv5
      clear hq5 hb5
      go_wp2
      exact bodyPost_ret (v := .agg #[.slice (some ⟨g5, o5, none⟩) N5 c5]) (by simp [results, Tryd.results28, go_sem, t1]) rfl (HI5.out.fin HV5.out (by simp) ((AtOk.one _ _ _ _ hty2 (by omega) (by omega)).mono hA1) (by omega))
end Go.Proofs.YtfookokepnnmoaaDoor
