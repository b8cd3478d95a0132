import Derived.Test.YtpligndiomblhaaPlHoldI
/-! Looks that are answered so: all of them, by the model. -/
namespace Go.Proofs.Ytpligndiomblhaa.P
open Go.RowKit
open Go.Proofs.Ytpligndiomblhaa.J (Says says_t says_f FileOk Says.pos Says.neg)
open Go.Proofs.Ytpligndiomblhaa.R (hid small set_other Fl fl0 Sn sn0 lt_hp hp_next B1 B2 row_cell row_room SFlR SSnR OkFlS below_drewN below_set Gr wp_region_gr Calls.gr_of)
set_option maxRecDepth 20000
set_option maxHeartbeats 4000000 in
theorem specHolds_any (l : List Fl) (ls : List Sn) {v sv : Value} {B B' : Nat} (w : World) (hO : OkFlS l) (hx : LowF l) (hL : LowS ls) (k0 : SFlR B w v l) (k1 : SSnR B' w sv ls) :
    Calls Try.prog 16 #[.agg #[v], sv] w fun e w' => Says e (HoldsP l ls) ∧ Below w.heap.size w w' := by
  have HO := hid hO
  have HX := hid hx
  have HL := hid hL
  have hll := hL.1
  have HS := hid (B1.start w (.cells #[v] 29))
  have HK := hid (k0.next HS.out.lo)
  have HK1 := hid (k1.next HS.out.lo)
  obtain ⟨g, rfl⟩ := k0.sl
  obtain ⟨g1, rfl⟩ := k1.sl
  clear k0 k1 hx hL hO
  obtain ⟨W0, hW0⟩ : ∃ W, w.alloc (.cells #[.slice (some ⟨g, 0, none⟩) l.length l.length] 29) = W := ⟨_, rfl⟩
  rw [hW0] at HS HK HK1
  have a0 : W0.cell? ⟨w.heap.size, 0, none⟩ = some (.slice (some ⟨g, 0, none⟩) l.length l.length) := row_cell HS.out.e 0
  go_enter Try.func16, Try.ntmps16
  go_wp2_with fail
  clear hW0
  refine (specPlace_any l _ HO.out HX.out.1 HK.out).mono ?_
  rintro e w2 ⟨hsy, hb2⟩
  have HS2 := hid (HS.out.next hb2)
  have HK2 := hid (HK.out.next hb2)
  have HK12 := hid (HK1.out.next hb2)
  clear hb2 a0
  by_cases hP : PlOk l
  · obtain rfl := hsy.pos hP
    clear hsy
    have HP := hid hP
    have HSP := hid (seeP_of hP)
    clear hP
    go_wp2_with fail
    go_loopw [5] (fun i wr => ∃ j : Nat, j ≤ ls.length ∧ i = .int .i64 j ∧ Below w2.heap.size w2 wr ∧ ∀ q, q < j → One (seeP l) (ls.getD q sn0)) (fun i _ => ls.length - (intOf i).toNat)
    case atStart => exact ⟨0, Nat.zero_le _, rfl, Below.refl _ _, fun p hp => absurd hp (Nat.not_lt_zero _)⟩
    case round =>
      obtain ⟨j, hj, rfl, hlo, hall⟩ := hrel
      have HLO := hid hlo
      have HALL := hid hall
      clear hlo hall
      by_cases hlt : j < ls.length
      · have HA := hid (fun q : Gr wr => sn_at (HK12.out.next (HLO.out.trans (q.h.mono HLO.out.size))) hlt)
        have HSZ := hid (HL.out.2 j hlt)
        have HNO : Hid (¬ One (seeP l) (ls.getD j sn0) → ¬ HoldsP l ls) := hid fun h1 h2 => h1 (h2.2 j hlt)
        have HYE : Hid (One (seeP l) (ls.getD j sn0) → ∀ q, q < j + 1 → One (seeP l) (ls.getD q sn0)) := hid fun h => all_step HALL.out h
        obtain ⟨x, hxe⟩ : ∃ x, ls.getD j sn0 = x := ⟨_, rfl⟩
        rw [hxe] at HA HSZ HNO HYE
        clear hxe
        obtain ⟨kd, nm, c, s⟩ := x
        dsimp only at HA HSZ
        have a0 := fun q : Gr wr => (HA.out q).2.1
        have a1 := fun q : Gr wr => (HA.out q).2.2.1
        have a2 := fun q : Gr wr => (HA.out q).2.2.2.1
        have a3 := fun q : Gr wr => (HA.out q).2.2.2.2
        have a4 := fun q : Gr wr => (row_cell (HS2.out.next (HLO.out.trans (q.h.mono HLO.out.size))).e 0 : q.W.cell? ⟨w.heap.size, 0, none⟩ = some (.slice (some ⟨g, 0, none⟩) l.length l.length))
        obtain ⟨r, hr⟩ : ∃ r, seeP l kd nm = r := ⟨_, rfl⟩
        have HR := hid hr
        have HSE : Hid (∀ q : Gr wr, Calls Try.prog 12 #[.agg #[.slice (some ⟨g, 0, none⟩) l.length l.length], .int .i64 kd, .string nm] q.W fun e w' => e = .returned (.agg #[.int .i64 r.1, .string r.2]) ∧ Below q.W.heap.size q.W w') := hid fun q => by
          refine (specSee_any l kd nm q.W HO.out HX.out.1 HSZ.out (HK2.out.next (HLO.out.trans (q.h.mono HLO.out.size)))).mono ?_
          rintro e w' ⟨r', ⟨rfl, hb⟩, h9⟩
          rcases h9 with ⟨_, h9⟩ | ⟨h9, _⟩
          · rw [h9, ← HSP.out, HR.out]
            exact ⟨rfl, hb⟩
          · exact absurd HP.out h9
        clear hr
        obtain ⟨rc, rt⟩ := r
        dsimp only at HSE
        have hq := neqY rc c rt s
        have hne2 : Nonempty (Gr wr) := ⟨⟨wr, Below.refl _ _⟩⟩
        have HIF : Hid (eqYB rc c rt s = true ↔ One (seeP l) ⟨kd, nm, c, s⟩) := hid (by
          unfold One
          dsimp only
          rw [HR.out, eqYB_iff])
        cases hbb : eqYB rc c rt s
        · simp only [hbb, Bool.not_false] at hq
          have HE := hid (HNO.out (fun h => by have := HIF.out.2 h; rw [hbb] at this; cases this))
          clear hbb
          go_wp2_with fail
          refine wp_region_gr (by kernel_rfl) (by kernel_rfl) ?_
          repeat (go_big_quiet_step (first | (go_at_call 12; refine Calls.gr_of (v := .agg #[.int .i64 rc, .string rt]) fun hpw => ?_; exact HSE.out ⟨_, hpw⟩)))
          refine wpQuiet_nil ?_
          intro _ hw'
          obtain ⟨pw, rfl⟩ := hw'
          have HB4 := hid (HS2.out.next (HLO.out.trans (pw.h.mono HLO.out.size)))
          clear a0 a1 a2 a3 a4
          go_wp2
          go_ret
          exact ⟨says_f HE.out, HB4.out.lo⟩
        · simp only [hbb, Bool.not_true] at hq
          have HE := hid (HYE.out (HIF.out.1 hbb))
          clear hbb
          go_wp2_with fail
          refine wp_region_gr (by kernel_rfl) (by kernel_rfl) ?_
          repeat (go_big_quiet_step (first | (go_at_call 12; refine Calls.gr_of (v := .agg #[.int .i64 rc, .string rt]) fun hpw => ?_; exact HSE.out ⟨_, hpw⟩)))
          refine wpQuiet_nil ?_
          intro _ hw'
          obtain ⟨pw, rfl⟩ := hw'
          have HB4 := hid (HLO.out.trans (pw.h.mono HLO.out.size))
          clear a0 a1 a2 a3 a4
          go_wp2
          go_roundw
          case rel => exact ⟨j + 1, by omega, by go_num, HB4.out, HE.out⟩
          case measure => simp [intOf]; omega
      · obtain rfl : j = ls.length := by omega
        have HE : Hid (HoldsP l ls) := hid ⟨HP.out, HALL.out⟩
        go_wp2
        go_ret
        exact ⟨says_t HE.out, (HS2.out.next HLO.out).lo⟩
  · obtain rfl := hsy.neg hP
    clear hsy
    go_wp2
    go_ret
    exact ⟨says_f fun h => hP h.1, HS2.out.lo⟩
end Go.Proofs.Ytpligndiomblhaa.P
