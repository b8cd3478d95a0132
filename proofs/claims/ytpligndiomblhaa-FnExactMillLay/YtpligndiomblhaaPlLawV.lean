import Derived.Test.YtpligndiomblhaaPlI
import Derived.Test.YtpligndiomblhaaRkSzPl
import Derived.Test.YtpligndiomblhaaRkToPl
import Derived.Test.YtpligndiomblhaaRkEqPl
/-! The law of a place that is valid. -/
namespace Go.Proofs.Ytpligndiomblhaa.P
open Go.RowKit
open Go.Proofs.Ytpligndiomblhaa.J (Says says_t says_f FileOk Says.pos Says.neg)
open Go.Proofs.Ytpligndiomblhaa.R (hid small Fl fl0 OkFlS SFlR SFlA row_cell B1)
set_option maxRecDepth 20000
theorem says_val {b c : Bool} {P : Prop} (h : b = true ↔ P) (h' : c = true ↔ P) : b = c := by rw [Bool.eq_iff_iff]; exact h.trans h'.symm
set_option maxHeartbeats 4000000 in
theorem law_place {l : List Fl} {w : World} {cv : Value} (hA : SFlA w cv l) (hO : OkFlS l) :
    Calls Try.prog 3 #[.agg #[cv]] w fun e w' => e = .returned (.bool true) ∧ Below w.heap.size w w' := by
  have HO := hid hO
  have HX := hid (B1.start w (.cells #[cv] 24))
  have HA := hid (hA.next HX.out.lo)
  obtain ⟨ad, cp, rfl⟩ := hA.sl
  clear hA hO
  obtain ⟨W0, hW0⟩ : ∃ W, w.alloc (.cells #[.slice ad l.length cp] 24) = W := ⟨_, rfl⟩
  rw [hW0] at HX HA
  have k0 : W0.cell? ⟨w.heap.size, 0, none⟩ = some (.slice ad l.length cp) := row_cell HX.out.e 0
  go_enter Try.func3, Try.ntmps3
  go_wp2_with fail
  clear hW0
  refine (R.szPl_any ⟨l⟩ 1048576 W0 (by omega) (by omega) HO.out HA.out).mono ?_
  rintro e w1 ⟨⟨r, rfl, _, _, h3⟩, hb1⟩
  have HX1 := hid (HX.out.next hb1)
  have HN1 := hid hb1
  have H3 := hid h3
  clear hb1 h3 k0
  have k0 : w1.cell? ⟨w.heap.size, 0, none⟩ = some (.slice ad l.length cp) := row_cell HX1.out.e 0
  by_cases hr : r < 0
  · go_wp2
    go_ret
    exact ⟨rfl, HX1.out.lo⟩
  · have HWT : Hid (R.wSFl l l.length ≤ 1048576) := by
      have h9 := H3.out (by omega)
      have h8 : R.wPl ⟨l⟩ ≤ 1048576 := by omega
      show _ ≤ _
      simpa [R.wPl] using h8
    have HLO := hid (R.loFlS_of HWT.out)
    have HLF := hid (lowF_of HWT.out)
    go_wp2_with fail
    refine (R.toPl_any ⟨l⟩ w1 HLO.out (HA.out.next HN1.out)).mono ?_
    rintro e w2 ⟨u2, rfl, n2, hb2⟩
    have HX2 := hid (HX1.out.next hb2)
    have HN2 := hid (HN1.out.trans (hb2.mono HN1.out.size))
    have HR2 := hid n2
    obtain ⟨g2, rfl⟩ := n2.sl
    clear hb2 n2 k0
    go_wp2_with fail
    refine (specPlace_any l _ HO.out HLF.out.1 HR2.out).mono ?_
    rintro e w3 ⟨⟨b3, rfl, hv3⟩, hb3⟩
    have HX3 := hid (HX2.out.next hb3)
    have HN3 := hid (HN2.out.trans (hb3.mono HN2.out.size))
    have HV3 := hid hv3
    clear hb3 hv3
    have k0 : w3.cell? ⟨w.heap.size, 0, none⟩ = some (.slice ad l.length cp) := row_cell HX3.out.e 0
    go_wp2_with fail
    refine (R.toPl_any ⟨l⟩ w3 HLO.out (HA.out.next HN3.out)).mono ?_
    rintro e w4 ⟨u4, rfl, n4, hb4⟩
    have HX4 := hid (HX3.out.next hb4)
    have HN4 := hid (HN3.out.trans (hb4.mono HN3.out.size))
    have HR4 := hid (n4.mono (B' := 0) (Nat.zero_le _))
    obtain ⟨g4, rfl⟩ := n4.sl
    clear hb4 n4 k0
    have HA4 := hid (B1.start w4 (.cells #[.slice (some ⟨g4, 0, none⟩) l.length l.length] 29))
    go_wp2_with fail
    have HX4a := hid (HX4.out.next HA4.out.lo)
    have HN4a := hid (HN4.out.trans (HA4.out.lo.mono HN4.out.size))
    refine (implPlace_any l _ HLF.out (HR4.out.next HA4.out.lo)).mono ?_
    rintro e w5 ⟨⟨b5, rfl, hv5⟩, hb5⟩
    obtain rfl := says_val hv5 HV3.out
    have HX5 := hid (HX4a.out.next hb5)
    have HA5 := hid (HA4.out.next hb5)
    have HN5 := hid (HN4a.out.trans (hb5.mono HN4a.out.size))
    clear hb5 hv5
    have h0 : (b5 != b5) = false := by simp
    have HS6 : Hid (∀ W, Below w5.heap.size w5 W → W.cell? ⟨w.heap.size, 0, none⟩ = some (.slice ad l.length cp) ∧ W.cell? ⟨w4.heap.size, 0, none⟩ = some (.slice (some ⟨g4, 0, none⟩) l.length l.length)) := hid fun W h => ⟨row_cell (HX5.out.next h).e 0, row_cell (HA5.out.next h).e 0⟩
    go_wp2_with fail
    go_region_held3 (fun w' => w'.cell? ⟨w.heap.size, 0, none⟩ = some (.slice ad l.length cp) ∧ w'.cell? ⟨w4.heap.size, 0, none⟩ = some (.slice (some ⟨g4, 0, none⟩) l.length l.length)) (first | (exact HS6.out _ HC7.out) | (exact HS6.out _ HC6.out) | (exact HS6.out _ (Below.refl _ _).drew) | go_keep) (first
      | (go_at_call 9; refine (R.toPl_any ⟨l⟩ _ HLO.out (HA.out.next HN5.out.drew)).mono ?_; rintro e w6 ⟨u6, rfl, n6, hb6⟩; have HC6 := hid ((Below.refl w5.heap.size w5).drew.trans hb6); have NA6 := hid (n6.mono (B' := 0) (Nat.zero_le _)); obtain ⟨g6, rfl⟩ := n6.sl; clear n6 hb6)
      | (go_at_call 11; refine (R.eqPl_same ⟨l⟩ _ HLO.out (HR4.out.next (HA5.out.lo.trans (HC6.out.mono HA5.out.lo.size))) NA6.out).mono ?_; rintro e w7 ⟨rfl, hb7⟩; have HC7 := hid (HC6.out.trans (hb7.mono HC6.out.size)); clear hb7) | fail)
    go_wp2
    go_ret
    exact ⟨rfl, (HX5.out.next HC7.out).lo⟩
end Go.Proofs.Ytpligndiomblhaa.P
