import Derived.Test.YtfndbnbnimhnaaaGreatDoorJ46
import Derived.Test.YtfndbnbnimhnaaaGreatDoorJ47
import Derived.Test.YtfndbnbnimhnaaaGreatDoorJ30
import Derived.Test.YtfndbnbnimhnaaaGreatDoorJ41
/-! The law of a code's form. Printed by gen_wccard.py. -/
namespace Go.Proofs.YtfndbnbnimhnaaaGreatDoor.C
open Go.RowKit
set_option maxRecDepth 20000
set_option maxHeartbeats 4000000 in
theorem law_write {fns : List Fn} {w : World} {cv : Value} (hA : R.SFnA w cv fns) (hO : R.OkFnS fns) (hE : EnvI w) :
    Calls Tryz.prog 3 #[.agg #[cv]] w fun e w' => e = .returned (.bool true) ∧ Below w.heap.size w w' := by
  have HO := hid hO
  have HX := hid (R.B1.start w (.cells #[cv] 24))
  have HA := hid (hA.next HX.out.lo)
  have HE := hid (hE.next HX.out.lo)
  have HCS := hid (codeS_of hO)
  obtain ⟨ad, cp, rfl⟩ := hA.sl
  clear hA hO hE
  obtain ⟨W0, hW0⟩ : ∃ W, w.alloc (.cells #[.slice ad fns.length cp] 24) = W := ⟨_, rfl⟩
  rw [hW0] at HX HA HE
  have k0 : W0.cell? ⟨w.heap.size, 0, none⟩ = some (.slice ad fns.length cp) := R.row_cell HX.out.e 0
  go_enter Tryz.func3, Tryz.ntmps3
  go_wp2_with fail
  clear hW0
  refine (R.szCd_any ⟨fns⟩ 1048576 W0 (by omega) (by omega) HO.out HA.out).mono ?_
  rintro e w1 ⟨⟨r, rfl, _, _, h3⟩, hb1⟩
  have HX1 := hid (HX.out.next hb1)
  have HN1 := hid hb1
  have H3 := hid h3
  clear hb1 h3 k0
  have k0 : w1.cell? ⟨w.heap.size, 0, none⟩ = some (.slice ad fns.length cp) := R.row_cell HX1.out.e 0
  by_cases hr : r < 0
  · go_wp2
    go_ret
    exact ⟨rfl, HX1.out.lo⟩
  · have HWF : Hid (R.wSFn fns fns.length ≤ 1048576) := by
      have h9 := H3.out (by omega)
      have h8 : R.wCd ⟨fns⟩ ≤ 1048576 := by omega
      exact (by simpa [R.wCd] using h8 : R.wSFn fns fns.length ≤ 1048576)
    have HLO : Hid (R.LoFnS fns) := hid (R.loFnS_of HWF.out)
    go_wp2_with fail
    refine (R.toCd_any ⟨fns⟩ w1 HLO.out (HA.out.next HN1.out)).mono ?_
    rintro e w2 ⟨u2, rfl, n2, hb2⟩
    have HX2 := hid (HX1.out.next hb2)
    have HN2 := hid (HN1.out.trans (hb2.mono HN1.out.size))
    have HR2 := hid (fnsRow_of n2 HLO.out)
    obtain ⟨g2, rfl⟩ := n2.sl
    clear hb2 n2 k0
    have k0 : w2.cell? ⟨w.heap.size, 0, none⟩ = some (.slice ad fns.length cp) := R.row_cell HX2.out.e 0
    go_wp2_with fail
    refine (specWrite_any HR2.out HCS.out HWF.out).mono ?_
    rintro e w3 ⟨s, rfl, hck, hb3⟩
    have HX3 := hid (HX2.out.next hb3)
    have HN3 := hid (HN2.out.trans (hb3.mono HN2.out.size))
    have HCK := hid hck
    clear hb3 hck k0
    have k0 : w3.cell? ⟨w.heap.size, 0, none⟩ = some (.slice ad fns.length cp) := R.row_cell HX3.out.e 0
    go_wp2_with fail
    refine (R.toCd_any ⟨fns⟩ w3 HLO.out (HA.out.next HN3.out)).mono ?_
    rintro e w4 ⟨u4, rfl, n4, hb4⟩
    have HX4 := hid (HX3.out.next hb4)
    have HN4 := hid (HN3.out.trans (hb4.mono HN3.out.size))
    have HR4 := hid (And.intro (n4.mono (B' := 0) (Nat.zero_le _)) (fnsRow_of n4 HLO.out))
    obtain ⟨g4, rfl⟩ := n4.sl
    clear hb4 n4 k0
    have HA4 := hid (R.B1.start w4 (.cells #[.slice (some ⟨g4, 0, none⟩) fns.length fns.length] 29))
    go_wp2_with fail
    have HX4a := hid (HX4.out.next HA4.out.lo)
    have HN4a := hid (HN4.out.trans (HA4.out.lo.mono HN4.out.size))
    refine (implWrite_any (HR4.out.2.next HA4.out.lo) HCS.out (HE.out.next HN4a.out) HWF.out).mono ?_
    rintro e w5 ⟨t, rfl, hck, hb5⟩
    obtain rfl := hck.uniq HCK.out
    have HX5 := hid (HX4a.out.next hb5)
    have HA5 := hid (HA4.out.next hb5)
    have HN5 := hid (HN4a.out.trans (hb5.mono HN4a.out.size))
    clear hb5 hck
    have HS6 : Hid (∀ W, Below w5.heap.size w5 W → W.cell? ⟨w.heap.size, 0, none⟩ = some (.slice ad fns.length cp) ∧ W.cell? ⟨w4.heap.size, 0, none⟩ = some (.slice (some ⟨g4, 0, none⟩) fns.length fns.length)) := hid fun W h => ⟨R.row_cell (HX5.out.next h).e 0, R.row_cell (HA5.out.next h).e 0⟩
    go_wp2_with fail
    go_region_held3 (fun w' => w'.cell? ⟨w.heap.size, 0, none⟩ = some (.slice ad fns.length cp) ∧ w'.cell? ⟨w4.heap.size, 0, none⟩ = some (.slice (some ⟨g4, 0, none⟩) fns.length fns.length)) (first | (exact HS6.out _ HC7.out) | (exact HS6.out _ HC6.out) | (exact HS6.out _ (Below.refl _ _).drew) | go_keep) (first
      | (go_at_call 7; refine (R.toCd_any ⟨fns⟩ _ HLO.out (HA.out.next HN5.out.drew)).mono ?_; rintro e w6 ⟨u6, rfl, n6, hb6⟩; have HC6 := hid ((Below.refl w5.heap.size w5).drew.trans hb6); have NA6 := hid (n6.mono (B' := 0) (Nat.zero_le _)); obtain ⟨g6, rfl⟩ := n6.sl; clear n6 hb6)
      | (go_at_call 9; refine (R.eqCd_same ⟨fns⟩ _ HLO.out (HR4.out.1.next (HA5.out.lo.trans (HC6.out.mono HA5.out.lo.size))) NA6.out).mono ?_; rintro e w7 ⟨rfl, hb7⟩; have HC7 := hid (HC6.out.trans (hb7.mono HC6.out.size)); clear hb7) | fail)
    go_wp2
    go_ret
    exact ⟨rfl, (HX5.out.next HC7.out).lo⟩
end Go.Proofs.YtfndbnbnimhnaaaGreatDoor.C
