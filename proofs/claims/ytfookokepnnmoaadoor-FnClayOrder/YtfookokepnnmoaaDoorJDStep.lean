import Derived.Test.YtfookokepnnmoaaDoorJDDraw
import Derived.Test.YtfookokepnnmoaaDoorJDSet2
namespace Go.Proofs.YtfookokepnnmoaaDoor
open Go.RowKit
set_option maxRecDepth 20000
def names : Array Value := #[.string ⟨#[97]⟩, .string ⟨#[98]⟩, .string ⟨#[99, 32, 100]⟩, .string ⟨#[]⟩, .string ⟨#[108, 101, 116]⟩, .string ⟨#[95]⟩]
def nmz : Nat → ByteArray
  | 0 => ⟨#[97]⟩
  | 1 => ⟨#[98]⟩
  | 2 => ⟨#[99, 32, 100]⟩
  | 3 => ⟨#[]⟩
  | 4 => ⟨#[108, 101, 116]⟩
  | _ => ⟨#[95]⟩
theorem lits_get {z : Nat} (hz : z < 6) : (#[.string ⟨#[97]⟩, .string ⟨#[98]⟩, .string ⟨#[99, 32, 100]⟩, .string ⟨#[]⟩, .string ⟨#[108, 101, 116]⟩, .string ⟨#[95]⟩] : Array Value)[z]? = some (.string (nmz z)) := by
  have h7 : z = 0 ∨ z = 1 ∨ z = 2 ∨ z = 3 ∨ z = 4 ∨ z = 5 := by omega
  rcases h7 with rfl | rfl | rfl | rfl | rfl | rfl <;> rfl
theorem nmz_size (z : Nat) : (nmz z).size ≤ 2000 := by unfold nmz; split <;> decide
theorem one_cells (w : World) (a : Value) : ∀ j u, [a][j]? = some u → (w.alloc (.cells #[a] 25)).cell? ((⟨w.heap.size, 0, none⟩ : Addr).add j) = some u := fun j u h => by
  rw [add_none, Nat.zero_add, cell_new_row]
  simpa using h
theorem one_vals {R : Nat} {w : World} {a : Value} {l : List At} (h1 : ValIn R w a l) (n1 : l ≠ []) : ∀ (j : Nat) u x, [a][j]? = some u → [l][j]? = some x → ValIn R w u x ∧ x ≠ [] := by
  intro j u x hu hx
  match j with
  | 0 => simp at hu hx; subst hu; subst hx; exact ⟨h1, n1⟩
  | j + 1 => simp at hu
theorem Inn.app {R p q : Nat} {w W W1 W2 : World} {row : Option Nat} (h : Inn R w W p q) (hb : Below W.heap.size W W1) (hg : W1.grownBy W2 row) (hr : ∀ k, row = some k → w.heap.size + 1 ≤ k) : Inn R w W2 p q := by
  have h1 := h.next hb
  have hR := h.2.2.2.2
  have hs : Sv (fun k => w.heap.size + 1 ≤ k) W1 W2 := ⟨hg.os, hg.tape, hg.output, hg.size, fun k hk hn => hg.block k hk (fun e => hn (hr k e.symm))⟩
  refine ⟨⟨hs.os.trans h1.1.os, hs.tape.trans h1.1.tape, hs.output.trans h1.1.output, Nat.le_trans h1.1.size hs.size, fun k hk hn => (hs.block k (Nat.lt_of_lt_of_le hk h1.1.size) (by omega)).trans (h1.1.block k hk hn)⟩, h1.rd.sv hs (fun k hk => by omega), (hs.block _ h1.lt (by omega)).trans h1.2.2.1, h1.2.2.2⟩
set_option maxHeartbeats 32000000 in
theorem draw_step (d : Int) (A C : Nat) (hd : 0 < d) (hd2 : d ≤ 100) (hA1 : 1 ≤ A) (hA2 : A ≤ 10000) (hC : 20 ≤ C) (hC2 : C ≤ 100000) (ih : DrawOk (d - 1) A C) : DrawOk d (8 * A + 5) (4 * C + 80) := by
  intro R p w hp0 hr
  have hp : p ≤ 799000000 := Nat.le_trans hp0 (PB_le d)
  have HIH : Hid (∀ q, q ≤ p + 1000000 → q ≤ PB (d - 1)) := fun q h => PB_step hd hp0 hd2 h
  clear hp0
  have HR := hid hr
  have IH := hid ih
  obtain ⟨i0, hi, hz0, hz1, hz2⟩ := info_parts info_va
  have HHI := hid (And.intro hi (And.intro hz0 (And.intro hz1 hz2)))
  clear hr ih hi hz0 hz1 hz2
  go_enter Tryd.func28, Tryd.ntmps28
  go_wp2_with fail
  have HI0 := hid (Inn.start HR.out)
  refine (pick_any R (p) 8 _ (by omega) (by omega) HI0.out.rd).mono ?_
  rintro e w1 ⟨⟨z1, rfl, hz1⟩, hr1, hs1⟩
  have HS1 := hid hs1
  have HI1 := hid (HI0.out.drew hs1 hr1 (by omega))
  clear hr1 hs1
  have h5 : z1 = 0 ∨ z1 = 1 ∨ z1 = 2 ∨ z1 = 3 ∨ z1 = 4 ∨ z1 = 5 ∨ z1 = 6 ∨ z1 = 7 := by omega
  rcases h5 with rfl | rfl | rfl | rfl | rfl | rfl | rfl | rfl
  · go_wp2_with fail
    refine (l5None_any _).mono ?_
    rintro e w5 hq5
    obtain ⟨s5, rfl, hv5, hb5⟩ := OneMade.val (R := R) hq5 HI1.out.rd.lt
    have HV5 := hid hv5
    have HI5 := hid (HI1.out.next hb5)
    obtain ⟨t1, t2⟩ := HI5.out.cells
    obtain ⟨g5, o5, N5, c5, rfl, _⟩ := hv5
    clear hq5 hb5
    go_wp2
    exact bodyPost_ret (v := .agg #[.slice (some ⟨g5, o5, none⟩) N5 c5]) (by simp [results, Tryd.results28, go_sem, t1]) rfl (HI5.out.fin HV5.out (by simp) ((AtOk.one _ _ _ _ (by decide) (by omega) (by omega)).mono (by omega)) (by omega))
  · go_wp2_with fail
    refine (pick_any R (p + 1) 2 _ (by omega) (by omega) HI1.out.rd).mono ?_
    rintro e w2 ⟨⟨z2, rfl, hz2⟩, hr2, hs2⟩
    have HS2 := hid hs2
    have HI2 := hid (HI1.out.drew hs2 hr2 (by omega))
    clear hr2 hs2
    go_wp2_with fail
    refine (l5Bool_any _ _).mono ?_
    rintro e w5 hq5
    obtain ⟨s5, rfl, hv5, hb5⟩ := OneMade.val (R := R) hq5 HI2.out.rd.lt
    have HV5 := hid hv5
    have HI5 := hid (HI2.out.next hb5)
    obtain ⟨t1, t2⟩ := HI5.out.cells
    obtain ⟨g5, o5, N5, c5, rfl, _⟩ := hv5
    clear hq5 hb5
    go_wp2
    exact bodyPost_ret (v := .agg #[.slice (some ⟨g5, o5, none⟩) N5 c5]) (by simp [results, Tryd.results28, go_sem, t1]) rfl (HI5.out.fin HV5.out (by simp) ((AtOk.one _ _ _ _ (by decide) (by omega) (by omega)).mono (by omega)) (by omega))
  · go_wp2_with fail
    have HL := hid (HI1.out.next ((Below.refl _ _).alloc (Nat.le_refl _) (.cells ints 2)))
    refine (pick_any R (p + 1) 12 _ (by omega) (by omega) HL.out.rd).mono ?_
    rintro e w2 ⟨⟨z2, rfl, hz2⟩, hr2, hs2⟩
    have HS2 := hid hs2
    have HI2 := hid (HL.out.drew hs2 hr2 (by omega))
    clear hr2 hs2
    obtain ⟨cz, hcz⟩ : ∃ cz : Int, w2.cell? ⟨w1.heap.size, z2, none⟩ = some (.int .i64 cz) := by
      rw [lit_cell HS2.out HI1.out.rd.lt]
      have h12 : z2 = 0 ∨ z2 = 1 ∨ z2 = 2 ∨ z2 = 3 ∨ z2 = 4 ∨ z2 = 5 ∨ z2 = 6 ∨ z2 = 7 ∨ z2 = 8 ∨ z2 = 9 ∨ z2 = 10 ∨ z2 = 11 := by omega
      rcases h12 with rfl | rfl | rfl | rfl | rfl | rfl | rfl | rfl | rfl | rfl | rfl | rfl <;> exact ⟨_, rfl⟩
    have hz12 : z2 < 12 := by omega
    go_wp2_with fail
    refine (l5Int_any _ _).mono ?_
    rintro e w5 hq5
    obtain ⟨s5, rfl, hv5, hb5⟩ := OneMade.val (R := R) hq5 HI2.out.rd.lt
    have HV5 := hid hv5
    have HI5 := hid (HI2.out.next hb5)
    obtain ⟨t1, t2⟩ := HI5.out.cells
    obtain ⟨g5, o5, N5, c5, rfl, _⟩ := hv5
    clear hq5 hb5
    go_wp2
    exact bodyPost_ret (v := .agg #[.slice (some ⟨g5, o5, none⟩) N5 c5]) (by simp [results, Tryd.results28, go_sem, t1]) rfl (HI5.out.fin HV5.out (by simp) ((AtOk.one _ _ _ _ (by decide) (by omega) (by omega)).mono (by omega)) (by omega))
  · go_wp2_with fail
    have HL := hid (HI1.out.next ((Below.refl _ _).alloc (Nat.le_refl _) (.cells ints 2)))
    refine (pick_any R (p + 1) 12 _ (by omega) (by omega) HL.out.rd).mono ?_
    rintro e w2 ⟨⟨z2, rfl, hz2⟩, hr2, hs2⟩
    have HS2 := hid hs2
    have HI2 := hid (HL.out.drew hs2 hr2 (by omega))
    clear hr2 hs2
    obtain ⟨cz, hcz⟩ : ∃ cz : Int, w2.cell? ⟨w1.heap.size, z2, none⟩ = some (.int .i64 cz) := by
      rw [lit_cell HS2.out HI1.out.rd.lt]
      have h12 : z2 = 0 ∨ z2 = 1 ∨ z2 = 2 ∨ z2 = 3 ∨ z2 = 4 ∨ z2 = 5 ∨ z2 = 6 ∨ z2 = 7 ∨ z2 = 8 ∨ z2 = 9 ∨ z2 = 10 ∨ z2 = 11 := by omega
      rcases h12 with rfl | rfl | rfl | rfl | rfl | rfl | rfl | rfl | rfl | rfl | rfl | rfl <;> exact ⟨_, rfl⟩
    have hz12 : z2 < 12 := by omega
    go_wp2_with fail
    refine (l5Int_any _ _).mono ?_
    rintro e w5 hq5
    obtain ⟨s5, rfl, hv5, hb5⟩ := OneMade.val (R := R) hq5 HI2.out.rd.lt
    have HV5 := hid hv5
    have HI5 := hid (HI2.out.next hb5)
    obtain ⟨t1, t2⟩ := HI5.out.cells
    obtain ⟨g5, o5, N5, c5, rfl, _⟩ := hv5
    clear hq5 hb5
    go_wp2
    exact bodyPost_ret (v := .agg #[.slice (some ⟨g5, o5, none⟩) N5 c5]) (by simp [results, Tryd.results28, go_sem, t1]) rfl (HI5.out.fin HV5.out (by simp) ((AtOk.one _ _ _ _ (by decide) (by omega) (by omega)).mono (by omega)) (by omega))
  · go_wp2_with fail
    refine (pick_any R (p + 1) 16 _ (by omega) (by omega) HI1.out.rd).mono ?_
    rintro e w2 ⟨⟨z2, rfl, hz2⟩, hr2, hs2⟩
    have HS2 := hid hs2
    have HI2 := hid (HI1.out.drew hs2 hr2 (by omega))
    clear hr2 hs2
    by_cases hz0 : z2 = 0
    · subst hz0
      go_wp2_with fail
      refine (pick_any R (p + 1 + 1) 3 _ (by omega) (by omega) HI2.out.rd).mono ?_
      rintro e w3 ⟨⟨z3, rfl, hz3⟩, hr3, hs3⟩
      have HS3 := hid hs3
      have HI3 := hid (HI2.out.drew hs3 hr3 (by omega))
      clear hr3 hs3
      have e3 : (1000 : Int) - (z3 : Int) = ((1000 - z3 : Nat) : Int) := by omega
      obtain ⟨m3, hm3, hm4⟩ : ∃ m3 : Nat, (1000 : Int) - (z3 : Int) = (m3 : Int) ∧ m3 ≤ 1000 := ⟨1000 - z3, e3, by omega⟩
      clear e3
      go_wp2_with fail
      refine (l1Many_any ⟨#[116]⟩ m3 _ (by show 1 * m3 ≤ 2000; omega) (by omega) (by decide)).mono ?_
      rintro e w4 ⟨⟨tx, rfl, htx⟩, hw⟩
      have hw' := hw.symm
      clear hw
      subst hw'
      go_wp2_with fail
      refine (l5Text_any _ _).mono ?_
      rintro e w5 hq5
      obtain ⟨s5, rfl, hv5, hb5⟩ := OneMade.val (R := R) hq5 HI3.out.rd.lt
      have HV5 := hid hv5
      have HI5 := hid (HI3.out.next hb5)
      obtain ⟨t1, t2⟩ := HI5.out.cells
      obtain ⟨g5, o5, N5, c5, rfl, _⟩ := hv5
      clear hq5 hb5
      go_wp2
      exact bodyPost_ret (v := .agg #[.slice (some ⟨g5, o5, none⟩) N5 c5]) (by simp [results, Tryd.results28, go_sem, t1]) rfl (HI5.out.fin HV5.out (by simp) ((AtOk.one _ _ _ _ htx (by omega) (by omega)).mono (by omega)) (by omega))
    · have hz0' : ((z2 : Int) == 0) = false := by simp; omega
      go_wp2_with fail
      refine (l1DrawText_any R (p + 1 + 1) _ (by omega) HI2.out.rd).mono ?_
      rintro e w3 ⟨⟨tx, rfl, htx⟩, q3, hq3, hq3', hr3, hs3⟩
      have HI3 := hid (HI2.out.drew hs3 hr3 (by omega))
      clear hr3 hs3
      go_wp2_with fail
      have HL := hid (HI3.out.next ((Below.refl _ _).alloc (Nat.le_refl _) (.cells (texts tx) 9)))
      refine (pick_any R (q3) 7 _ (by omega) (by omega) HL.out.rd).mono ?_
      rintro e w4 ⟨⟨z4, rfl, hz4⟩, hr4, hs4⟩
      have HS4 := hid hs4
      have HI4 := hid (HL.out.drew hs4 hr4 (by omega))
      clear hr4 hs4
      obtain ⟨ty, hty, hty2⟩ : ∃ ty : ByteArray, w4.cell? ⟨w3.heap.size, z4, none⟩ = some (.string ty) ∧ ty.size ≤ 2000 := by
        rw [lit_cell HS4.out HI3.out.rd.lt]
        have h7 : z4 = 0 ∨ z4 = 1 ∨ z4 = 2 ∨ z4 = 3 ∨ z4 = 4 ∨ z4 = 5 ∨ z4 = 6 := by omega
        rcases h7 with rfl | rfl | rfl | rfl | rfl | rfl | rfl
        · exact ⟨_, rfl, by omega⟩
        · exact ⟨_, rfl, by decide⟩
        · exact ⟨_, rfl, by decide⟩
        · exact ⟨_, rfl, by decide⟩
        · exact ⟨_, rfl, by decide⟩
        · exact ⟨_, rfl, by decide⟩
        · exact ⟨_, rfl, by decide⟩
      have hz7 : z4 < 7 := by omega
      go_wp2_with fail
      refine (l5Text_any _ _).mono ?_
      rintro e w5 hq5
      obtain ⟨s5, rfl, hv5, hb5⟩ := OneMade.val (R := R) hq5 HI4.out.rd.lt
      have HV5 := hid hv5
      have HI5 := hid (HI4.out.next hb5)
      obtain ⟨t1, t2⟩ := HI5.out.cells
      obtain ⟨g5, o5, N5, c5, rfl, _⟩ := hv5
      clear hq5 hb5
      go_wp2
      exact bodyPost_ret (v := .agg #[.slice (some ⟨g5, o5, none⟩) N5 c5]) (by simp [results, Tryd.results28, go_sem, t1]) rfl (HI5.out.fin HV5.out (by simp) ((AtOk.one _ _ _ _ hty2 (by omega) (by omega)).mono (by omega)) (by omega))
  · go_wp2_with fail
    have HL := hid (HI1.out.next ((Below.refl _ _).alloc (Nat.le_refl _) (.cells #[] 25)))
    have HK0 := hid (OwnK.lit R (w.heap.size + 1) w1 HI1.out.lt)
    refine (pick_any R (p + 1) 5 _ (by omega) (by omega) HL.out.rd).mono ?_
    rintro e w2 ⟨⟨z2, rfl, hz2⟩, hr2, hs2⟩
    have HS2 := hid hs2
    have HI2 := hid (HL.out.drew hs2 hr2 (by omega))
    clear hr2 hs2
    have HK2 := hid (HK0.out.sv HS2.out (by have := HR.out.lt; omega))
    have hz4 : z2 ≤ 4 := by omega
    clear HK0
    go_wp2_with fail
    refine (pick_any R (p + 1 + 1) 2 _ (by omega) (by omega) HI2.out.rd).mono ?_
    rintro e w3 ⟨⟨z3, rfl, hz3⟩, hr3, hs3⟩
    have HS3 := hid hs3
    have HI3 := hid (HI2.out.drew hs3 hr3 (by omega))
    clear hr3 hs3
    have HK3 := hid (HK2.out.sv HS3.out (by have := HR.out.lt; omega))
    obtain rfl | rfl : z3 = 0 ∨ z3 = 1 := by omega
    · go_wp2_with fail
      go_loopw [6, 9] (fun kv i wr => ∃ (j qj : Nat) (xs : List Value) (ls : List (List At)), j ≤ z2 ∧ i = .int .i64 j ∧ OwnK R (w.heap.size + 1) wr kv xs ls ∧ xs.length = j ∧ (∀ l ∈ ls, AtOk A l) ∧ Inn R w wr p qj ∧ qj ≤ p + 4 + j * (C + 12)) (fun _ i _ => z2 - (intOf i).toNat)
      case atStart => exact ⟨0, p + 1 + 1 + 1, [], [], by omega, rfl, HK3.out, rfl, by simp, HI3.out, by omega⟩
      case round =>
        obtain ⟨j, qj, xs, ls, hj, rfl, hok, hxl, hal, hin, hq⟩ := hrel
        have HOK := hid hok
        have HAL := hid hal
        have HIN := hid hin
        have HXL := hid hxl
        have hxl4 : xs.length ≤ 4 := by omega
        have hqb : qj ≤ p + 900000 := by have h1 : j * (C + 12) ≤ 4 * (C + 12) := Nat.mul_le_mul_right _ (by omega); omega
        clear hok hal hin hxl
        by_cases hlt : j < z2
        · go_wp2_with fail
          refine (l1DrawText_any R qj _ (by omega) HIN.out.rd).mono ?_
          rintro e w4 ⟨⟨tx, rfl, htx⟩, q4, hq4, hq4', hr4, hs4⟩
          have HI4 := hid (HIN.out.drew hs4 hr4 (by omega))
          have HK4 := hid (HOK.out.sv hs4 (by have := HR.out.lt; omega))
          clear hr4 hs4
          go_wp2_with fail
          refine (l5Text_any tx _).mono ?_
          rintro e w5 hq5
          obtain ⟨s5, rfl, hv5, hb5⟩ := OneMade.val (R := R) hq5 HI4.out.rd.lt
          have HV5 := hid hv5
          have HI5 := hid (HI4.out.next hb5)
          have HK5 := hid (HK4.out.next hb5)
          have hat5 := hid ((AtOk.one 4 0 0 tx (by omega) (by omega) (by omega)).mono (by omega))
          have hat5' : AtOk A [⟨4, 0, tx, 0⟩] := hat5.out
          have hne5 : ([⟨4, 0, tx, 0⟩] : List At) ≠ [] := by simp
          clear hq5 hb5
          obtain ⟨g5, o5, N5, c5, rfl, _⟩ := hv5
          have HA5 := hid ((Below.refl w5.heap.size w5).alloc (Nat.le_refl _) (.cells #[.slice (some ⟨g5, o5, none⟩) N5 c5] 25))
          have HOA := hid (HK5.out.1.alloc (.cells #[.slice (some ⟨g5, o5, none⟩) N5 c5] 25))
          have HCA := hid (one_cells w5 (.slice (some ⟨g5, o5, none⟩) N5 c5))
          have hz9 := HI5.out.lt
          go_wp2_with (at_builtin; refine wpList_append_own_at _ rfl (.tmp 68) (.tmp 72) 81 rfl (w.heap.size + 1) 25 i0 (.agg #[.slice none 0 0]) 1 24 Tryd.underlying81 HHI.out.1 HHI.out.2.1 HHI.out.2.2.1 HHI.out.2.2.2 rfl (by decide) u6 xs.length xs rfl HOA.out ⟨w5.heap.size, 0, none⟩ 1 1 [.slice (some ⟨g5, o5, none⟩) N5 c5] rfl rfl HCA.out (by simp [Value.oneCell']) (by unfold maxLen; omega) (by omega) (by simp; omega) ?_; intro v' w' h2 h3 h4 h5; have HM := hid (OwnK.more (HK5.out.next HA5.out) h2 (by simp) h3 (ms := [ [⟨4, 0, tx, 0⟩] ]) rfl (one_vals (HV5.out.next HA5.out) hne5)); have HIW := hid (HI5.out.app HA5.out h3 (own_bl HK5.out.1)); clear h2 h3 h4 h5)
          go_roundw
          case rel => exact ⟨j + 1, _, _, _, by omega, by go_num, HM.out, by have := HXL.out; simp; omega, by intro l hl; simp only [List.mem_append, List.mem_cons, List.not_mem_nil, or_false] at hl; have hm := HAL.out l; grind, HIW.out, by rw [Nat.succ_mul]; omega⟩
          case measure => simp [intOf]; omega
        · obtain rfl : j = z2 := by omega
          obtain ⟨ad, ck, rfl, hkin⟩ := HOK.out.kids (by have := HR.out.lt; omega)
          have HKI := hid hkin
          have hfl := hid (AtOk.flat HAL.out (m := 4) (by rw [← HOK.out.2.1, HXL.out]; exact hz4))
          have hfl1 := hfl.out.1
          clear hkin
          rw [HXL.out]
          go_wp2_with fail
          refine (l5Make_any R 5 ad j ck xs ls _ HIN.out.rd.lt HXL.out (by omega) HKI.out (by omega)).mono ?_
          rintro e w6 ⟨s6, rfl, hv6, hb6⟩
          have HV6 := hid hv6
          have HI6 := hid (HIN.out.next hb6)
          obtain ⟨t1, t2⟩ := HI6.out.cells
          obtain ⟨g6, o6, N6, c6, rfl, _⟩ := hv6
          clear hb6
          go_wp2
          exact bodyPost_ret (v := .agg #[.slice (some ⟨g6, o6, none⟩) N6 c6]) (by simp [results, Tryd.results28, go_sem, t1]) rfl (HI6.out.fin HV6.out (by simp) (hfl.out.snoc _ _ _ _ (by decide) (by omega) (by omega) (by omega)) (by have h1 : j * (C + 12) ≤ 4 * (C + 12) := Nat.mul_le_mul_right _ (by omega); omega))
    · go_wp2_with fail
      go_loopw [6, 9] (fun kv i wr => ∃ (j qj : Nat) (xs : List Value) (ls : List (List At)), j ≤ z2 ∧ i = .int .i64 j ∧ OwnK R (w.heap.size + 1) wr kv xs ls ∧ xs.length = j ∧ (∀ l ∈ ls, AtOk A l) ∧ Inn R w wr p qj ∧ qj ≤ p + 4 + j * (C + 12)) (fun _ i _ => z2 - (intOf i).toNat)
      case atStart => exact ⟨0, p + 1 + 1 + 1, [], [], by omega, rfl, HK3.out, rfl, by simp, HI3.out, by omega⟩
      case round =>
        obtain ⟨j, qj, xs, ls, hj, rfl, hok, hxl, hal, hin, hq⟩ := hrel
        have HOK := hid hok
        have HAL := hid hal
        have HIN := hid hin
        have HXL := hid hxl
        have hxl4 : xs.length ≤ 4 := by omega
        have hqb : qj ≤ p + 900000 := by have h1 : j * (C + 12) ≤ 4 * (C + 12) := Nat.mul_le_mul_right _ (by omega); omega
        clear hok hal hin hxl
        by_cases hlt : j < z2
        · go_wp2_with fail
          refine (IH.out R qj _ (HIH.out _ (by omega)) HIN.out.rd).mono ?_
          rintro e w5 ⟨s5, l5, rfl, hv5, hne5, hat5', q5, hq5, hq5', hr5, hs5⟩
          have HV5 := hid hv5
          have HI5 := hid (HIN.out.drew hs5 hr5 (by omega))
          have HK5 := hid (HOK.out.sv hs5 (by have := HR.out.lt; omega))
          clear hr5 hs5
          obtain ⟨g5, o5, N5, c5, rfl, _⟩ := hv5
          have HA5 := hid ((Below.refl w5.heap.size w5).alloc (Nat.le_refl _) (.cells #[.slice (some ⟨g5, o5, none⟩) N5 c5] 25))
          have HOA := hid (HK5.out.1.alloc (.cells #[.slice (some ⟨g5, o5, none⟩) N5 c5] 25))
          have HCA := hid (one_cells w5 (.slice (some ⟨g5, o5, none⟩) N5 c5))
          have hz9 := HI5.out.lt
          go_wp2_with (at_builtin; refine wpList_append_own_at _ rfl (.tmp 74) (.tmp 79) 81 rfl (w.heap.size + 1) 25 i0 (.agg #[.slice none 0 0]) 1 24 Tryd.underlying81 HHI.out.1 HHI.out.2.1 HHI.out.2.2.1 HHI.out.2.2.2 rfl (by decide) u6 xs.length xs rfl HOA.out ⟨w5.heap.size, 0, none⟩ 1 1 [.slice (some ⟨g5, o5, none⟩) N5 c5] rfl rfl HCA.out (by simp [Value.oneCell']) (by unfold maxLen; omega) (by omega) (by simp; omega) ?_; intro v' w' h2 h3 h4 h5; have HM := hid (OwnK.more (HK5.out.next HA5.out) h2 (by simp) h3 (ms := [ l5 ]) rfl (one_vals (HV5.out.next HA5.out) hne5)); have HIW := hid (HI5.out.app HA5.out h3 (own_bl HK5.out.1)); clear h2 h3 h4 h5)
          go_roundw
          case rel => exact ⟨j + 1, _, _, _, by omega, by go_num, HM.out, by have := HXL.out; simp; omega, by intro l hl; simp only [List.mem_append, List.mem_cons, List.not_mem_nil, or_false] at hl; have hm := HAL.out l; grind, HIW.out, by rw [Nat.succ_mul]; omega⟩
          case measure => simp [intOf]; omega
        · obtain rfl : j = z2 := by omega
          obtain ⟨ad, ck, rfl, hkin⟩ := HOK.out.kids (by have := HR.out.lt; omega)
          have HKI := hid hkin
          have hfl := hid (AtOk.flat HAL.out (m := 4) (by rw [← HOK.out.2.1, HXL.out]; exact hz4))
          have hfl1 := hfl.out.1
          clear hkin
          rw [HXL.out]
          go_wp2_with fail
          refine (l5Make_any R 5 ad j ck xs ls _ HIN.out.rd.lt HXL.out (by omega) HKI.out (by omega)).mono ?_
          rintro e w6 ⟨s6, rfl, hv6, hb6⟩
          have HV6 := hid hv6
          have HI6 := hid (HIN.out.next hb6)
          obtain ⟨t1, t2⟩ := HI6.out.cells
          obtain ⟨g6, o6, N6, c6, rfl, _⟩ := hv6
          clear hb6
          go_wp2
          exact bodyPost_ret (v := .agg #[.slice (some ⟨g6, o6, none⟩) N6 c6]) (by simp [results, Tryd.results28, go_sem, t1]) rfl (HI6.out.fin HV6.out (by simp) (hfl.out.snoc _ _ _ _ (by decide) (by omega) (by omega) (by omega)) (by have h1 : j * (C + 12) ≤ 4 * (C + 12) := Nat.mul_le_mul_right _ (by omega); omega))
  · go_wp2_with fail
    have HL := hid (HI1.out.next ((Below.refl _ _).alloc (Nat.le_refl _) (.cells #[] 25)))
    have HK0 := hid (OwnK.lit R (w.heap.size + 1) w1 HI1.out.lt)
    refine (pick_any R (p + 1) 5 _ (by omega) (by omega) HL.out.rd).mono ?_
    rintro e w2 ⟨⟨z2, rfl, hz2⟩, hr2, hs2⟩
    have HS2 := hid hs2
    have HI2 := hid (HL.out.drew hs2 hr2 (by omega))
    clear hr2 hs2
    have HK2 := hid (HK0.out.sv HS2.out (by have := HR.out.lt; omega))
    have hz4 : z2 ≤ 4 := by omega
    clear HK0
    go_wp2_with fail
    refine (pick_any R (p + 1 + 1) 2 _ (by omega) (by omega) HI2.out.rd).mono ?_
    rintro e w3 ⟨⟨z3, rfl, hz3⟩, hr3, hs3⟩
    have HS3 := hid hs3
    have HI3 := hid (HI2.out.drew hs3 hr3 (by omega))
    clear hr3 hs3
    have HK3 := hid (HK2.out.sv HS3.out (by have := HR.out.lt; omega))
    obtain rfl | rfl : z3 = 0 ∨ z3 = 1 := by omega
    · go_wp2_with fail
      go_loopw [6, 9] (fun kv i wr => ∃ (j qj : Nat) (xs : List Value) (ls : List (List At)), j ≤ z2 ∧ i = .int .i64 j ∧ OwnK R (w.heap.size + 1) wr kv xs ls ∧ xs.length = j ∧ (∀ l ∈ ls, AtOk A l) ∧ Inn R w wr p qj ∧ qj ≤ p + 4 + j * (C + 12)) (fun _ i _ => z2 - (intOf i).toNat)
      case atStart => exact ⟨0, p + 1 + 1 + 1, [], [], by omega, rfl, HK3.out, rfl, by simp, HI3.out, by omega⟩
      case round =>
        obtain ⟨j, qj, xs, ls, hj, rfl, hok, hxl, hal, hin, hq⟩ := hrel
        have HOK := hid hok
        have HAL := hid hal
        have HIN := hid hin
        have HXL := hid hxl
        have hxl4 : xs.length ≤ 4 := by omega
        have hqb : qj ≤ p + 900000 := by have h1 : j * (C + 12) ≤ 4 * (C + 12) := Nat.mul_le_mul_right _ (by omega); omega
        clear hok hal hin hxl
        by_cases hlt : j < z2
        · go_wp2_with fail
          refine (l1DrawText_any R qj _ (by omega) HIN.out.rd).mono ?_
          rintro e w4 ⟨⟨tx, rfl, htx⟩, q4, hq4, hq4', hr4, hs4⟩
          have HI4 := hid (HIN.out.drew hs4 hr4 (by omega))
          have HK4 := hid (HOK.out.sv hs4 (by have := HR.out.lt; omega))
          clear hr4 hs4
          go_wp2_with fail
          refine (l5Text_any tx _).mono ?_
          rintro e w5 hq5
          obtain ⟨s5, rfl, hv5, hb5⟩ := OneMade.val (R := R) hq5 HI4.out.rd.lt
          have HV5 := hid hv5
          have HI5 := hid (HI4.out.next hb5)
          have HK5 := hid (HK4.out.next hb5)
          have hat5 := hid ((AtOk.one 4 0 0 tx (by omega) (by omega) (by omega)).mono (by omega))
          have hat5' : AtOk A [⟨4, 0, tx, 0⟩] := hat5.out
          have hne5 : ([⟨4, 0, tx, 0⟩] : List At) ≠ [] := by simp
          clear hq5 hb5
          obtain ⟨g5, o5, N5, c5, rfl, _⟩ := hv5
          have HA5 := hid ((Below.refl w5.heap.size w5).alloc (Nat.le_refl _) (.cells #[.slice (some ⟨g5, o5, none⟩) N5 c5] 25))
          have HOA := hid (HK5.out.1.alloc (.cells #[.slice (some ⟨g5, o5, none⟩) N5 c5] 25))
          have HCA := hid (one_cells w5 (.slice (some ⟨g5, o5, none⟩) N5 c5))
          have hz9 := HI5.out.lt
          go_wp2_with (at_builtin; refine wpList_append_own_at _ rfl (.tmp 68) (.tmp 72) 81 rfl (w.heap.size + 1) 25 i0 (.agg #[.slice none 0 0]) 1 24 Tryd.underlying81 HHI.out.1 HHI.out.2.1 HHI.out.2.2.1 HHI.out.2.2.2 rfl (by decide) u6 xs.length xs rfl HOA.out ⟨w5.heap.size, 0, none⟩ 1 1 [.slice (some ⟨g5, o5, none⟩) N5 c5] rfl rfl HCA.out (by simp [Value.oneCell']) (by unfold maxLen; omega) (by omega) (by simp; omega) ?_; intro v' w' h2 h3 h4 h5; have HM := hid (OwnK.more (HK5.out.next HA5.out) h2 (by simp) h3 (ms := [ [⟨4, 0, tx, 0⟩] ]) rfl (one_vals (HV5.out.next HA5.out) hne5)); have HIW := hid (HI5.out.app HA5.out h3 (own_bl HK5.out.1)); clear h2 h3 h4 h5)
          go_roundw
          case rel => exact ⟨j + 1, _, _, _, by omega, by go_num, HM.out, by have := HXL.out; simp; omega, by intro l hl; simp only [List.mem_append, List.mem_cons, List.not_mem_nil, or_false] at hl; have hm := HAL.out l; grind, HIW.out, by rw [Nat.succ_mul]; omega⟩
          case measure => simp [intOf]; omega
        · obtain rfl : j = z2 := by omega
          obtain ⟨ad, ck, rfl, hkin⟩ := HOK.out.kids (by have := HR.out.lt; omega)
          have HKI := hid hkin
          have hfl := hid (AtOk.flat HAL.out (m := 4) (by rw [← HOK.out.2.1, HXL.out]; exact hz4))
          have hfl1 := hfl.out.1
          clear hkin
          rw [HXL.out]
          go_wp2_with fail
          refine (l5Make_any R 5 ad j ck xs ls _ HIN.out.rd.lt HXL.out (by omega) HKI.out (by omega)).mono ?_
          rintro e w6 ⟨s6, rfl, hv6, hb6⟩
          have HV6 := hid hv6
          have HI6 := hid (HIN.out.next hb6)
          obtain ⟨t1, t2⟩ := HI6.out.cells
          obtain ⟨g6, o6, N6, c6, rfl, _⟩ := hv6
          clear hb6
          go_wp2
          exact bodyPost_ret (v := .agg #[.slice (some ⟨g6, o6, none⟩) N6 c6]) (by simp [results, Tryd.results28, go_sem, t1]) rfl (HI6.out.fin HV6.out (by simp) (hfl.out.snoc _ _ _ _ (by decide) (by omega) (by omega) (by omega)) (by have h1 : j * (C + 12) ≤ 4 * (C + 12) := Nat.mul_le_mul_right _ (by omega); omega))
    · go_wp2_with fail
      go_loopw [6, 9] (fun kv i wr => ∃ (j qj : Nat) (xs : List Value) (ls : List (List At)), j ≤ z2 ∧ i = .int .i64 j ∧ OwnK R (w.heap.size + 1) wr kv xs ls ∧ xs.length = j ∧ (∀ l ∈ ls, AtOk A l) ∧ Inn R w wr p qj ∧ qj ≤ p + 4 + j * (C + 12)) (fun _ i _ => z2 - (intOf i).toNat)
      case atStart => exact ⟨0, p + 1 + 1 + 1, [], [], by omega, rfl, HK3.out, rfl, by simp, HI3.out, by omega⟩
      case round =>
        obtain ⟨j, qj, xs, ls, hj, rfl, hok, hxl, hal, hin, hq⟩ := hrel
        have HOK := hid hok
        have HAL := hid hal
        have HIN := hid hin
        have HXL := hid hxl
        have hxl4 : xs.length ≤ 4 := by omega
        have hqb : qj ≤ p + 900000 := by have h1 : j * (C + 12) ≤ 4 * (C + 12) := Nat.mul_le_mul_right _ (by omega); omega
        clear hok hal hin hxl
        by_cases hlt : j < z2
        · go_wp2_with fail
          refine (IH.out R qj _ (HIH.out _ (by omega)) HIN.out.rd).mono ?_
          rintro e w5 ⟨s5, l5, rfl, hv5, hne5, hat5', q5, hq5, hq5', hr5, hs5⟩
          have HV5 := hid hv5
          have HI5 := hid (HIN.out.drew hs5 hr5 (by omega))
          have HK5 := hid (HOK.out.sv hs5 (by have := HR.out.lt; omega))
          clear hr5 hs5
          obtain ⟨g5, o5, N5, c5, rfl, _⟩ := hv5
          have HA5 := hid ((Below.refl w5.heap.size w5).alloc (Nat.le_refl _) (.cells #[.slice (some ⟨g5, o5, none⟩) N5 c5] 25))
          have HOA := hid (HK5.out.1.alloc (.cells #[.slice (some ⟨g5, o5, none⟩) N5 c5] 25))
          have HCA := hid (one_cells w5 (.slice (some ⟨g5, o5, none⟩) N5 c5))
          have hz9 := HI5.out.lt
          go_wp2_with (at_builtin; refine wpList_append_own_at _ rfl (.tmp 74) (.tmp 79) 81 rfl (w.heap.size + 1) 25 i0 (.agg #[.slice none 0 0]) 1 24 Tryd.underlying81 HHI.out.1 HHI.out.2.1 HHI.out.2.2.1 HHI.out.2.2.2 rfl (by decide) u6 xs.length xs rfl HOA.out ⟨w5.heap.size, 0, none⟩ 1 1 [.slice (some ⟨g5, o5, none⟩) N5 c5] rfl rfl HCA.out (by simp [Value.oneCell']) (by unfold maxLen; omega) (by omega) (by simp; omega) ?_; intro v' w' h2 h3 h4 h5; have HM := hid (OwnK.more (HK5.out.next HA5.out) h2 (by simp) h3 (ms := [ l5 ]) rfl (one_vals (HV5.out.next HA5.out) hne5)); have HIW := hid (HI5.out.app HA5.out h3 (own_bl HK5.out.1)); clear h2 h3 h4 h5)
          go_roundw
          case rel => exact ⟨j + 1, _, _, _, by omega, by go_num, HM.out, by have := HXL.out; simp; omega, by intro l hl; simp only [List.mem_append, List.mem_cons, List.not_mem_nil, or_false] at hl; have hm := HAL.out l; grind, HIW.out, by rw [Nat.succ_mul]; omega⟩
          case measure => simp [intOf]; omega
        · obtain rfl : j = z2 := by omega
          obtain ⟨ad, ck, rfl, hkin⟩ := HOK.out.kids (by have := HR.out.lt; omega)
          have HKI := hid hkin
          have hfl := hid (AtOk.flat HAL.out (m := 4) (by rw [← HOK.out.2.1, HXL.out]; exact hz4))
          have hfl1 := hfl.out.1
          clear hkin
          rw [HXL.out]
          go_wp2_with fail
          refine (l5Make_any R 5 ad j ck xs ls _ HIN.out.rd.lt HXL.out (by omega) HKI.out (by omega)).mono ?_
          rintro e w6 ⟨s6, rfl, hv6, hb6⟩
          have HV6 := hid hv6
          have HI6 := hid (HIN.out.next hb6)
          obtain ⟨t1, t2⟩ := HI6.out.cells
          obtain ⟨g6, o6, N6, c6, rfl, _⟩ := hv6
          clear hb6
          go_wp2
          exact bodyPost_ret (v := .agg #[.slice (some ⟨g6, o6, none⟩) N6 c6]) (by simp [results, Tryd.results28, go_sem, t1]) rfl (HI6.out.fin HV6.out (by simp) (hfl.out.snoc _ _ _ _ (by decide) (by omega) (by omega) (by omega)) (by have h1 : j * (C + 12) ≤ 4 * (C + 12) := Nat.mul_le_mul_right _ (by omega); omega))
  · go_wp2_with fail
    have HL := hid (HI1.out.next ((Below.refl _ _).alloc (Nat.le_refl _) (.cells #[] 25)))
    have HK0 := hid (OwnK.lit R (w.heap.size + 1) w1 HI1.out.lt)
    refine (pick_any R (p + 1) 5 _ (by omega) (by omega) HL.out.rd).mono ?_
    rintro e w2 ⟨⟨z2, rfl, hz2⟩, hr2, hs2⟩
    have HS2 := hid hs2
    have HI2 := hid (HL.out.drew hs2 hr2 (by omega))
    clear hr2 hs2
    have HK2 := hid (HK0.out.sv HS2.out (by have := HR.out.lt; omega))
    have hz4 : z2 ≤ 4 := by omega
    clear HK0
    go_wp2_with fail
    go_loopw [6, 10] (fun kv i wr => ∃ (j qj : Nat) (xs : List Value) (ls : List (List At)), j ≤ z2 ∧ i = .int .i64 j ∧ OwnK R (w.heap.size + 1) wr kv xs ls ∧ xs.length % 2 = 0 ∧ xs.length ≤ 2 * j ∧ (∀ l ∈ ls, AtOk A l) ∧ Inn R w wr p qj ∧ qj ≤ p + 4 + j * (C + 12)) (fun _ i _ => z2 - (intOf i).toNat)
    case atStart => exact ⟨0, p + 1 + 1, [], [], by omega, rfl, HK2.out, rfl, by simp, by simp, HI2.out, by omega⟩
    case round =>
      obtain ⟨j, qj, xs, ls, hj, rfl, hok, hev, hxl, hal, hin, hq⟩ := hrel
      have HOK := hid hok
      have HAL := hid hal
      have HIN := hid hin
      have hqb : qj ≤ p + 900000 := by have h1 : j * (C + 12) ≤ 4 * (C + 12) := Nat.mul_le_mul_right _ (by omega); omega
      have hzW := HIN.out.lt
      clear hok hal hin
      obtain ⟨ad, ck, rfl, hkin⟩ := HOK.out.kids (by have := HR.out.lt; omega)
      have HKI := hid hkin
      obtain ⟨nx, hnx⟩ : ∃ nx, xs.length = nx := ⟨_, rfl⟩
      rw [hnx] at hev hxl ⊢
      have HNX := hid hnx
      clear hkin hnx
      by_cases hlt : j < z2
      · go_wp2_with fail
        have HLW := hid ((Below.refl wr.heap.size wr).drew.alloc (Nat.le_refl _) (.cells names 9))
        have HIL := hid (HIN.out.next HLW.out)
        have HKL := hid (HKI.out.next HLW.out)
        have HLN : Hid (∀ l ∈ ls, l.length ≤ 1000000) := fun l hl => by have := (HAL.out l hl).1; omega
        have hwd : IntKind.i64.wrap (d - 1) = d - 1 := by rw [IntKind.wrap_i64]; omega
        have HID : Hid (Inn R w wr.drew p qj) := HIN.out.next ((Below.refl _ _).drew)
        have HKD : Hid (KidsIn R wr.drew ad xs ls) := HKI.out.next ((Below.refl _ _).drew)
        go_region_law (first | (refine step_enter rfl (f := 18) (vals := #[.pointer (some ⟨R, 0, none⟩), .int .i64 6]) (by kernel_rfl) (pick_any R qj 6 _ (by omega) (by omega) HIL.out.rd) ?_; intro e w3 hq3; obtain ⟨⟨z3, rfl, hz3⟩, hr3, hs3⟩ := hq3; refine ⟨_, rfl, ?_⟩; have HS3 := hid hs3; have HI3 := hid (HIL.out.drew hs3 hr3 (by omega)); have HK3 := hid (HKL.out.sv hs3); have hz6 : z3 < 6 := (by omega); have hz6i : (z3 : Int) < 6 := (by omega); have hz60 : (0 : Int) ≤ (z3 : Int) := (by omega); have hty : w3.cell? ⟨wr.heap.size, z3, none⟩ = some (.string (nmz z3)) := (lit_cell (w := wr.drew) HS3.out HIN.out.rd.lt z3).trans (lits_get hz6); have hlit3 : (w3.alloc (.cells #[.string ⟨#[97]⟩, .string ⟨#[98]⟩, .string ⟨#[99, 32, 100]⟩, .string ⟨#[]⟩, .string ⟨#[108, 101, 116]⟩, .string ⟨#[95]⟩] 9)).cell? ⟨w3.heap.size, z3, none⟩ = some (.string (nmz z3)) := (cell_new_row w3 _ _ z3).trans (lits_get hz6); clear hr3 hs3) | (refine step_enter rfl (f := 18) (vals := #[.pointer (some ⟨R, 0, none⟩), .int .i64 6]) (by kernel_rfl) (pick_any R qj 6 _ (by omega) (by omega) HID.out.rd) ?_; intro e w3 hq3; obtain ⟨⟨z3, rfl, hz3⟩, hr3, hs3⟩ := hq3; refine ⟨_, rfl, ?_⟩; have HS3 := hid hs3; have HI3 := hid (HID.out.drew hs3 hr3 (by omega)); have HK3 := hid (HKD.out.sv hs3); have hz6 : z3 < 6 := (by omega); have hz6i : (z3 : Int) < 6 := (by omega); have hz60 : (0 : Int) ≤ (z3 : Int) := (by omega); have hlit3 : (w3.alloc (.cells #[.string ⟨#[97]⟩, .string ⟨#[98]⟩, .string ⟨#[99, 32, 100]⟩, .string ⟨#[]⟩, .string ⟨#[108, 101, 116]⟩, .string ⟨#[95]⟩] 9)).cell? ⟨w3.heap.size, z3, none⟩ = some (.string (nmz z3)) := (cell_new_row w3 _ _ z3).trans (lits_get hz6); clear hr3 hs3) | (refine step_enter rfl (f := 28) (vals := #[.pointer (some ⟨R, 0, none⟩), .int .i64 (d - 1)]) (by kernel_rfl) (IH.out R (qj + 1) _ (HIH.out _ (by omega)) HI3.out.rd) ?_; intro e w4 hq4; obtain ⟨s4, l4, rfl, hv4, hne4, hat4, q4, hq4, hq4', hr4, hs4⟩ := hq4; refine ⟨_, rfl, ?_⟩; have HV4 := hid hv4; have HI4 := hid (HI3.out.drew hs4 hr4 (by omega)); have HK4 := hid (HK3.out.sv hs4); (first | (have hty4 : w4.cell? ⟨wr.heap.size, z3, none⟩ = some (.string (nmz z3)) := (hs4.cell (p := ⟨wr.heap.size, z3, none⟩) (World.block_lt_of_cell? w3 _ hty) (by show ¬ wr.heap.size = R; have := HIN.out.rd.lt; omega)).trans hty) | skip); have hlit4 : (w4.alloc (.cells #[.string ⟨#[97]⟩, .string ⟨#[98]⟩, .string ⟨#[99, 32, 100]⟩, .string ⟨#[]⟩, .string ⟨#[108, 101, 116]⟩, .string ⟨#[95]⟩] 9)).cell? ⟨w4.heap.size, z3, none⟩ = some (.string (nmz z3)) := (cell_new_row w4 _ _ z3).trans (lits_get hz6); clear hr4 hs4) | (refine step_enter rfl (f := 28) (vals := #[.pointer (some ⟨R, 0, none⟩), .int .i64 (d - 1)]) (by kernel_rfl) (IH.out R (qj + 1) _ (HIH.out _ (by omega)) (HI3.out.next ((Below.refl _ _).alloc (Nat.le_refl _) (.cells #[.string ⟨#[97]⟩, .string ⟨#[98]⟩, .string ⟨#[99, 32, 100]⟩, .string ⟨#[]⟩, .string ⟨#[108, 101, 116]⟩, .string ⟨#[95]⟩] 9))).rd) ?_; intro e w4 hq4; obtain ⟨s4, l4, rfl, hv4, hne4, hat4, q4, hq4, hq4', hr4, hs4⟩ := hq4; refine ⟨_, rfl, ?_⟩; have HV4 := hid hv4; have HI4 := hid ((HI3.out.next ((Below.refl _ _).alloc (Nat.le_refl _) (.cells #[.string ⟨#[97]⟩, .string ⟨#[98]⟩, .string ⟨#[99, 32, 100]⟩, .string ⟨#[]⟩, .string ⟨#[108, 101, 116]⟩, .string ⟨#[95]⟩] 9))).drew hs4 hr4 (by omega)); have HK4 := hid ((HK3.out.next ((Below.refl _ _).alloc (Nat.le_refl _) (.cells #[.string ⟨#[97]⟩, .string ⟨#[98]⟩, .string ⟨#[99, 32, 100]⟩, .string ⟨#[]⟩, .string ⟨#[108, 101, 116]⟩, .string ⟨#[95]⟩] 9))).sv hs4); have hty4 : w4.cell? ⟨w3.heap.size, z3, none⟩ = some (.string (nmz z3)) := (lit_cell hs4 HI3.out.rd.lt z3).trans (lits_get hz6); have hlit4 : (w4.alloc (.cells #[.string ⟨#[97]⟩, .string ⟨#[98]⟩, .string ⟨#[99, 32, 100]⟩, .string ⟨#[]⟩, .string ⟨#[108, 101, 116]⟩, .string ⟨#[95]⟩] 9)).cell? ⟨w4.heap.size, z3, none⟩ = some (.string (nmz z3)) := (cell_new_row w4 _ _ z3).trans (lits_get hz6); clear hr4 hs4) | (refine step_enter rfl (f := 50) (vals := #[.slice ad nx ck, .string (nmz z3), .agg #[s4]]) (by kernel_rfl) (l5Set_any R ad nx ck xs ls (nmz z3) s4 l4 _ HI4.out.rd.lt HNX.out (by omega) hev HK4.out HV4.out hne4 HLN.out) ?_; intro e w5 hq5; obtain ⟨v5, ys, ms, rfl, hok5, hev5, hle5, hme5, hb5⟩ := hq5; refine ⟨_, rfl, ?_⟩; have HI5 := hid (HI4.out.next hb5); have HO5 : Hid (OwnK R (w.heap.size + 1) w5 v5 ys ms) := ⟨own_base hok5.1 (by have := HI4.out.lt; omega), hok5.2⟩; have HAL5 : Hid (∀ l ∈ ms, AtOk A l) := (fun l hl => by rcases hme5 l hl with h | h | h; exact HAL.out l h; exact h ▸ hat4; exact h ▸ ((AtOk.one 4 0 0 (nmz z3) (nmz_size z3) (by omega) (by omega)).mono (by omega))); clear hok5 hme5 hb5) | (refine step_enter rfl (f := 50) (vals := #[.slice ad nx ck, .string (nmz z3), .agg #[s4]]) (by kernel_rfl) (l5Set_any R ad nx ck xs ls (nmz z3) s4 l4 _ (HI4.out.next ((Below.refl _ _).alloc (Nat.le_refl _) (.cells #[.string ⟨#[97]⟩, .string ⟨#[98]⟩, .string ⟨#[99, 32, 100]⟩, .string ⟨#[]⟩, .string ⟨#[108, 101, 116]⟩, .string ⟨#[95]⟩] 9))).rd.lt HNX.out (by omega) hev (HK4.out.next ((Below.refl _ _).alloc (Nat.le_refl _) (.cells #[.string ⟨#[97]⟩, .string ⟨#[98]⟩, .string ⟨#[99, 32, 100]⟩, .string ⟨#[]⟩, .string ⟨#[108, 101, 116]⟩, .string ⟨#[95]⟩] 9))) (HV4.out.next ((Below.refl _ _).alloc (Nat.le_refl _) (.cells #[.string ⟨#[97]⟩, .string ⟨#[98]⟩, .string ⟨#[99, 32, 100]⟩, .string ⟨#[]⟩, .string ⟨#[108, 101, 116]⟩, .string ⟨#[95]⟩] 9))) hne4 HLN.out) ?_; intro e w5 hq5; obtain ⟨v5, ys, ms, rfl, hok5, hev5, hle5, hme5, hb5⟩ := hq5; refine ⟨_, rfl, ?_⟩; have HI5 := hid ((HI4.out.next ((Below.refl _ _).alloc (Nat.le_refl _) (.cells #[.string ⟨#[97]⟩, .string ⟨#[98]⟩, .string ⟨#[99, 32, 100]⟩, .string ⟨#[]⟩, .string ⟨#[108, 101, 116]⟩, .string ⟨#[95]⟩] 9))).next hb5); have HO5 : Hid (OwnK R (w.heap.size + 1) w5 v5 ys ms) := ⟨own_base hok5.1 (by have := (HI4.out.next ((Below.refl _ _).alloc (Nat.le_refl _) (.cells #[.string ⟨#[97]⟩, .string ⟨#[98]⟩, .string ⟨#[99, 32, 100]⟩, .string ⟨#[]⟩, .string ⟨#[108, 101, 116]⟩, .string ⟨#[95]⟩] 9))).lt; omega), hok5.2⟩; have HAL5 : Hid (∀ l ∈ ms, AtOk A l) := (fun l hl => by rcases hme5 l hl with h | h | h; exact HAL.out l h; exact h ▸ hat4; exact h ▸ ((AtOk.one 4 0 0 (nmz z3) (nmz_size z3) (by omega) (by omega)).mono (by omega))); clear hok5 hme5 hb5))
        all_goals go_wp2
        all_goals
          go_roundw
          case rel => exact ⟨j + 1, _, ys, ms, by omega, by go_num, HO5.out, hev5, by omega, HAL5.out, HI5.out, by rw [Nat.succ_mul]; omega⟩
          case measure => simp [intOf]; omega
      · obtain rfl : j = z2 := by omega
        have hfl := hid (AtOk.flat HAL.out (m := 8) (by rw [← HOK.out.2.1, HNX.out]; omega))
        have hfl1 := hfl.out.1
        go_wp2_with fail
        refine (l5Make_any R 6 ad nx ck xs ls _ HIN.out.rd.lt HNX.out (by omega) HKI.out (by omega)).mono ?_
        rintro e w6 ⟨s6, rfl, hv6, hb6⟩
        have HV6 := hid hv6
        have HI6 := hid (HIN.out.next hb6)
        obtain ⟨t1, t2⟩ := HI6.out.cells
        obtain ⟨g6, o6, N6, c6, rfl, _⟩ := hv6
        clear hb6
        go_wp2
        exact bodyPost_ret (v := .agg #[.slice (some ⟨g6, o6, none⟩) N6 c6]) (by simp [results, Tryd.results28, go_sem, t1]) rfl (HI6.out.fin HV6.out (by simp) (hfl.out.snoc _ _ _ _ (by decide) (by omega) (by omega) (by omega)) (by have h1 : j * (C + 12) ≤ 4 * (C + 12) := Nat.mul_le_mul_right _ (by omega); omega))
end Go.Proofs.YtfookokepnnmoaaDoor
