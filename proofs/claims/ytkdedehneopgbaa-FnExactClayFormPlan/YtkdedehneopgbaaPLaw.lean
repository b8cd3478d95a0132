import Derived.Test.YtkdedehneopgbaaPSpec
/-! The law. -/
namespace Go.Proofs.Ytkdedehneopgbaa
open Go.RowKit
set_option maxRecDepth 20000
theorem tg_small (f : Nat → Tg) {N : Nat} (h : wpl f N ≤ 1048576) : N ≤ 1048576 ∧ ∀ i, i < N → (f i).N ≤ 1048576 ∧ (f i).M ≤ 1048576 := by
  refine ⟨Nat.le_trans (wpl_ge f N) h, fun i hi => ?_⟩
  have h1 := wpl_at f hi
  have h2 := wtx_ge (f i).ins (f i).N
  have h3 := wtx_ge (f i).outs (f i).M
  simp only [wtg] at h1
  omega
set_option maxHeartbeats 4000000 in
theorem law_any (ad : Option Addr) (N cap : Nat) (f : Nat → Tg) (w : World) (hN : N ≤ maxLen) (hF : TgsA w ad N f) (hx : ∀ i, i < N → TgOk (f i)) :
    Calls Try.prog 3 #[.slice ad N cap] w fun e w' => e = .returned (.bool true) ∧ Below w.heap.size w w' := by
  have HF := hid hF
  have HX := hid hx
  clear hF hx
  go_enter Try.func3, Try.ntmps3
  go_wp2_with fail
  refine (szTargetS_all ad N cap f w hN HF.out HX.out).mono ?_
  rintro e w1 ⟨⟨r, rfl, _, _, h3⟩, hb1⟩
  have HB1 := hid hb1
  have H3 := hid h3
  clear hb1 h3
  by_cases hr : r < 0
  · go_wp2
    go_ret
    exact ⟨rfl, HB1.out⟩
  · have HW : Hid (wpl f N ≤ 1048576) := by
      show _ ≤ _
      have := H3.out (by omega)
      omega
    have HS := hid (tg_small f HW.out)
    go_wp2_with fail
    refine (toTargetS_all ad N cap f _ HS.out.1 HS.out.2 (HF.out.below HB1.out)).mono ?_
    rintro e w2 ⟨rfl, n2, hb2⟩
    have HB2 := hid (HB1.out.trans (hb2.mono HB1.out.size))
    have NA2 := hid n2
    clear hb2 n2
    go_wp2_with fail
    refine (specForm_all _ N N f _ HW.out NA2.out).mono ?_
    rintro e w3 ⟨rfl, hb3⟩
    have HB3 := hid (HB2.out.trans (hb3.mono HB2.out.size))
    clear hb3
    go_wp2_with fail
    refine (toTargetS_all ad N cap f _ HS.out.1 HS.out.2 (HF.out.below HB3.out)).mono ?_
    rintro e w4 ⟨rfl, n4, hb4⟩
    have HB4 := hid (HB3.out.trans (hb4.mono HB3.out.size))
    have NA4 := hid n4
    clear hb4 n4
    go_wp2_with fail
    refine (implForm_all _ N N f _ HW.out NA4.out).mono ?_
    rintro e w5 ⟨rfl, hb5⟩
    have HB5 := hid (HB4.out.trans (hb5.mono HB4.out.size))
    have NA5 := hid (NA4.out.below hb5)
    clear hb5
    obtain ⟨FS, hFS⟩ : ∃ FS : ByteArray, (⟨(formL f N).toArray⟩ : ByteArray) = FS := ⟨_, rfl⟩
    rw [hFS]
    have hne : (FS.toList != FS.toList) = false := by simp
    go_wp2_with fail
    refine (toTargetS_all ad N cap f _ HS.out.1 HS.out.2 (HF.out.below HB5.out)).mono ?_
    rintro e w6 ⟨rfl, n6, hb6⟩
    have HB6 := hid (HB5.out.trans (hb6.mono HB5.out.size))
    have NA6 := hid n6
    have NB6 := hid (NA5.out.below hb6)
    clear hb6 n6
    go_wp2_with fail
    refine (eqTargetS_all _ _ N N N f _ HS.out.1 HS.out.2 NB6.out NA6.out).mono ?_
    rintro e w7 ⟨rfl, hb7⟩
    have HB7 := hid (HB6.out.trans (hb7.mono HB6.out.size))
    clear hb7
    go_wp2
    go_ret
    exact ⟨rfl, HB7.out⟩
end Go.Proofs.Ytkdedehneopgbaa
