import Derived.Test.YtpcfhbbialgcfaaRkEqFl
/-! Sameness. -/
namespace Go.Proofs.Ytpcfhbbialgcfaa.R
open Go.RowKit
set_option maxRecDepth 20000
set_option maxHeartbeats 4000000 in
theorem eqPl_same (x : Pl) {u0 v0 : Value} {B : Nat} (w : World) (hx : LoPl x) (k0 : SFlR B w u0 x.files) (l0 : SFlR B w v0 x.files) :
    Calls Try.prog 9 #[.agg #[u0], .agg #[v0]] w fun e w' => e = .returned (.bool true) ∧ Below w.heap.size w w' := by
  have K0 := hid (And.intro k0 l0)
  obtain ⟨gu0, rfl⟩ := k0.sl
  obtain ⟨gv0, rfl⟩ := l0.sl
  clear k0 l0
  have HLO := hid hx
  clear hx
  have HB0 := hid (B2.start w (.cells #[.slice (some ⟨gu0, 0, none⟩) x.files.length x.files.length] 33) (.cells #[.slice (some ⟨gv0, 0, none⟩) x.files.length x.files.length] 33))
  go_enter Try.func9, Try.ntmps9
  go_wp2_with fail
  refine (eqSFl_same x.files _ HLO.out (K0.out.1.next HB0.out.lo) (K0.out.2.next HB0.out.lo)).mono ?_
  rintro e w1 ⟨rfl, hb0⟩
  have HB1 := hid (HB0.out.next hb0)
  clear hb0
  go_wp2
  go_ret
  exact ⟨rfl, HB1.out.lo⟩
end Go.Proofs.Ytpcfhbbialgcfaa.R
