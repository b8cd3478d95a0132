import Derived.Test.YtpcfhbbialgcfaaPlV
import Derived.Deep.RegionHeld3
/-! Places: whether one is valid, by the program. Printed by gen_pli.py. -/
namespace Go.Proofs.Ytpcfhbbialgcfaa.P
open Go.RowKit
open Go.Proofs.Ytpcfhbbialgcfaa.J (Says says_t says_f FileOk Says.pos Says.neg)
open Go.Proofs.Ytpcfhbbialgcfaa.R (hid small Fl fl0 OkFlS SFlR row_cell B1 Gr wp_region_gr Calls.gr_of below_drewN)
set_option maxRecDepth 20000
/-- What the sizes give. -/
def LowF (l : List Fl) : Prop := l.length ≤ 1048576 ∧ ∀ i, i < l.length → (l.getD i fl0).name.size ≤ 1048576 ∧ (l.getD i fl0).text.size ≤ 1048576
theorem lowF_of {l : List Fl} (h : R.wSFl l l.length ≤ 1048576) : LowF l := by
  refine ⟨Nat.le_trans (R.wSFl_ge l _) h, fun i hi => ?_⟩
  have h1 := R.wSFl_at l hi
  simp only [R.wFl] at h1
  omega
set_option maxHeartbeats 4000000 in
theorem implFiles_any (l : List Fl) {v : Value} {B : Nat} (w : World) (hx : LowF l) (k0 : SFlR B w v l) :
    Calls Try.prog 36 #[v, .int .i64 40] w fun e w' => Says e (PlOk l) ∧ Below w.heap.size w w' := by
  have HK := hid k0
  have HX := hid hx
  have hN := hx.1
  obtain ⟨g, rfl⟩ := k0.sl
  clear k0 hx
  by_cases h1 : l.length ≤ 40
  · go_enter Try.func36, Try.ntmps36
    go_wp2
    go_loopw [5, 6, 13] (fun _ _ i wr => ∃ k : Nat, k ≤ l.length ∧ i = .int .i64 k ∧ (∀ i, i < k → EOk l i) ∧ Below w.heap.size w wr) (fun _ _ i _ => l.length - (intOf i).toNat)
    case atStart => exact ⟨0, Nat.zero_le _, rfl, fun i h => absurd h (Nat.not_lt_zero _), Below.refl _ _⟩
    case round =>
      obtain ⟨k, hk, rfl, hr, hbw⟩ := hrel
      have HR := hid hr
      have HBW := hid hbw
      clear hr hbw
      by_cases hlt : k < l.length
      · obtain ⟨_, a0, a1⟩ := fl_at (HK.out.next HBW.out) hlt
        have hfail : Hid (¬ EOk l k → ¬ PlOk l) := hid fun h h' => h (h'.2 k hlt)
        have HLO := hid (HX.out.2 k hlt)
        obtain ⟨x, hxe⟩ : ∃ x, l.getD k fl0 = x := ⟨_, rfl⟩
        have HXE := hid hxe
        rw [hxe] at a0 a1 HLO
        clear hxe
        by_cases hP : FOk x
        · by_cases h0 : 0 < k
          · have h0b : decide ((0 : Int) < (k : Int)) = true := by simp; omega
            have h0i : (0 : Int) < (k : Int) := by omega
            obtain ⟨p, hp⟩ : ∃ p : Nat, k = p + 1 := ⟨k - 1, by omega⟩
            have hpi : (k : Int) - 1 = (p : Int) := by omega
            have hpl : p < l.length := by omega
            have hpw : IntKind.i64.wrap (p : Int) = (p : Int) := by rw [IntKind.wrap_i64]; omega
            have HPE := hid hp
            clear hp
            obtain ⟨y, hye⟩ : ∃ y, l.getD p fl0 = y := ⟨_, rfl⟩
            have HYE := hid hye
            have HKP : Hid (k - 1 = p) := hid (by rw [HPE.out]; rfl)
            cases hL : Go.Op.bytesLess y.name.toList x.name.toList
            · have HE := hid (hfail.out (fun h => by have := h.2 h0; rw [HKP.out, HXE.out, HYE.out] at this; unfold ltB at this; rw [hL] at this; cases this))
              go_wp2_with fail
              have HS0 := hid (B1.start wr (.cells #[.string x.name, .string x.text] 45))
              obtain ⟨V, hV⟩ : ∃ V, wr.alloc (.cells #[.string x.name, .string x.text] 45) = V := ⟨_, rfl⟩
              rw [hV] at HS0 ⊢
              clear hV
              have HBV := hid (HBW.out.trans (HS0.out.lo.mono HBW.out.size))
              have b0 := fun p : Gr V => (row_cell (HS0.out.next p.h).e 0 : p.W.cell? ⟨wr.heap.size, 0, none⟩ = some (.string x.name))
              have b1 := fun p : Gr V => (row_cell (HS0.out.next p.h).e 1 : p.W.cell? ⟨wr.heap.size, 1, none⟩ = some (.string x.text))
              have c0 := fun p : Gr V => (fl_at (HK.out.next (HBV.out.trans (p.h.mono HBV.out.size))) hpl).2.1
              rw [hye] at c0
              clear hye
              have hne2 : Nonempty (Gr V) := ⟨⟨V, Below.refl _ _⟩⟩
              refine wp_region_gr (by kernel_rfl) (by kernel_rfl) ?_
              repeat (go_big_quiet_step (first | (go_at_call 49; refine Calls.gr_of (v := .bool true) fun hpw => ?_; refine (isFile_any x _ HLO.out.1 HLO.out.2).mono ?_; rintro e w3 ⟨hs3, hb3⟩; exact ⟨hs3.pos hP, hb3⟩)))
              refine wpQuiet_nil ?_
              intro _ hw'
              obtain ⟨pw, rfl⟩ := hw'
              have HB4 := hid (HBV.out.trans (pw.h.mono HBV.out.size))
              clear b0 b1 c0
              go_wp2
              go_ret
              exact ⟨says_f HE.out, HB4.out⟩
            · have HO : Hid (EOk l k) := hid ⟨by rw [HXE.out]; exact hP, fun _ => by rw [HKP.out, HXE.out, HYE.out]; exact hL⟩
              go_wp2_with fail
              have HS0 := hid (B1.start wr (.cells #[.string x.name, .string x.text] 45))
              obtain ⟨V, hV⟩ : ∃ V, wr.alloc (.cells #[.string x.name, .string x.text] 45) = V := ⟨_, rfl⟩
              rw [hV] at HS0 ⊢
              clear hV
              have HBV := hid (HBW.out.trans (HS0.out.lo.mono HBW.out.size))
              have b0 := fun p : Gr V => (row_cell (HS0.out.next p.h).e 0 : p.W.cell? ⟨wr.heap.size, 0, none⟩ = some (.string x.name))
              have b1 := fun p : Gr V => (row_cell (HS0.out.next p.h).e 1 : p.W.cell? ⟨wr.heap.size, 1, none⟩ = some (.string x.text))
              have c0 := fun p : Gr V => (fl_at (HK.out.next (HBV.out.trans (p.h.mono HBV.out.size))) hpl).2.1
              rw [hye] at c0
              clear hye
              have hne2 : Nonempty (Gr V) := ⟨⟨V, Below.refl _ _⟩⟩
              refine wp_region_gr (by kernel_rfl) (by kernel_rfl) ?_
              repeat (go_big_quiet_step (first | (go_at_call 49; refine Calls.gr_of (v := .bool true) fun hpw => ?_; refine (isFile_any x _ HLO.out.1 HLO.out.2).mono ?_; rintro e w3 ⟨hs3, hb3⟩; exact ⟨hs3.pos hP, hb3⟩)))
              refine wpQuiet_nil ?_
              intro _ hw'
              obtain ⟨pw, rfl⟩ := hw'
              have HB4 := hid (HBV.out.trans (pw.h.mono HBV.out.size))
              clear b0 b1 c0
              go_wp2
              go_roundw
              case rel => exact ⟨k + 1, by omega, by go_num, all_step HR.out HO.out, HB4.out⟩
              case measure => simp [intOf]; omega
          · have h0b : decide ((0 : Int) < (k : Int)) = false := by simp; omega
            have h0i : ¬ (0 : Int) < (k : Int) := by omega
            have HO : Hid (EOk l k) := hid ⟨by rw [HXE.out]; exact hP, fun h => absurd h h0⟩
            go_wp2_with fail
            have HS0 := hid (B1.start wr (.cells #[.string x.name, .string x.text] 45))
            obtain ⟨V, hV⟩ : ∃ V, wr.alloc (.cells #[.string x.name, .string x.text] 45) = V := ⟨_, rfl⟩
            rw [hV] at HS0 ⊢
            clear hV
            have HBV := hid (HBW.out.trans (HS0.out.lo.mono HBW.out.size))
            have b0 := fun p : Gr V => (row_cell (HS0.out.next p.h).e 0 : p.W.cell? ⟨wr.heap.size, 0, none⟩ = some (.string x.name))
            have b1 := fun p : Gr V => (row_cell (HS0.out.next p.h).e 1 : p.W.cell? ⟨wr.heap.size, 1, none⟩ = some (.string x.text))
            have hne2 : Nonempty (Gr V) := ⟨⟨V, Below.refl _ _⟩⟩
            refine wp_region_gr (by kernel_rfl) (by kernel_rfl) ?_
            repeat (go_big_quiet_step (first | (go_at_call 49; refine Calls.gr_of (v := .bool true) fun hpw => ?_; refine (isFile_any x _ HLO.out.1 HLO.out.2).mono ?_; rintro e w3 ⟨hs3, hb3⟩; exact ⟨hs3.pos hP, hb3⟩)))
            refine wpQuiet_nil ?_
            intro _ hw'
            obtain ⟨pw, rfl⟩ := hw'
            have HB4 := hid (HBV.out.trans (pw.h.mono HBV.out.size))
            clear b0 b1
            go_wp2
            go_roundw
            case rel => exact ⟨k + 1, by omega, by go_num, all_step HR.out HO.out, HB4.out⟩
            case measure => simp [intOf]; omega
        · have HE := hid (hfail.out (fun h => hP (by have := h.1; rw [HXE.out] at this; exact this)))
          go_wp2_with fail
          have HS0 := hid (B1.start wr (.cells #[.string x.name, .string x.text] 45))
          obtain ⟨V, hV⟩ : ∃ V, wr.alloc (.cells #[.string x.name, .string x.text] 45) = V := ⟨_, rfl⟩
          rw [hV] at HS0 ⊢
          clear hV
          have HBV := hid (HBW.out.trans (HS0.out.lo.mono HBW.out.size))
          have b0 := fun p : Gr V => (row_cell (HS0.out.next p.h).e 0 : p.W.cell? ⟨wr.heap.size, 0, none⟩ = some (.string x.name))
          have b1 := fun p : Gr V => (row_cell (HS0.out.next p.h).e 1 : p.W.cell? ⟨wr.heap.size, 1, none⟩ = some (.string x.text))
          have hne2 : Nonempty (Gr V) := ⟨⟨V, Below.refl _ _⟩⟩
          refine wp_region_gr (by kernel_rfl) (by kernel_rfl) ?_
          repeat (go_big_quiet_step (first | (go_at_call 49; refine Calls.gr_of (v := .bool false) fun hpw => ?_; refine (isFile_any x _ HLO.out.1 HLO.out.2).mono ?_; rintro e w3 ⟨hs3, hb3⟩; exact ⟨hs3.neg hP, hb3⟩)))
          refine wpQuiet_nil ?_
          intro _ hw'
          obtain ⟨pw, rfl⟩ := hw'
          have HB4 := hid (HBV.out.trans (pw.h.mono HBV.out.size))
          clear b0 b1
          go_wp2
          go_ret
          exact ⟨says_f HE.out, HB4.out⟩
      · obtain rfl : k = l.length := by omega
        have HO : Hid (PlOk l) := hid ⟨h1, HR.out⟩
        go_wp2
        go_ret
        exact ⟨says_t HO.out, HBW.out⟩
  · go_enter Try.func36, Try.ntmps36
    go_wp2
    go_ret
    exact ⟨says_f fun h => h1 h.1, Below.refl _ _⟩
set_option maxHeartbeats 2000000 in
theorem implPlace_any (l : List Fl) {v : Value} {B : Nat} (w : World) (hx : LowF l) (k0 : SFlR B w v l) :
    Calls Try.prog 19 #[.agg #[v]] w fun e w' => Says e (PlOk l) ∧ Below w.heap.size w w' := by
  have HB0 := hid (B1.start w (.cells #[v] 33))
  have HK := hid (k0.next HB0.out.lo)
  obtain ⟨g, rfl⟩ := k0.sl
  clear k0
  go_enter Try.func19, Try.ntmps19
  go_wp2_with fail
  refine (implFiles_any l _ hx HK.out).mono ?_
  rintro e w2 ⟨⟨b, rfl, hb⟩, hb2⟩
  have HB1 := hid (HB0.out.next hb2)
  have HBS := hid hb
  clear hb2 hb
  go_wp2
  go_ret
  exact ⟨⟨b, rfl, HBS.out⟩, HB1.out.lo⟩
end Go.Proofs.Ytpcfhbbialgcfaa.P
