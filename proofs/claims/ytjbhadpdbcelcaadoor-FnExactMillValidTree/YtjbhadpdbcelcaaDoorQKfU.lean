import Derived.Test.YtjbhadpdbcelcaaDoorQKo
import Derived.Test.YtjbhadpdbcelcaaDoorQAre
import Derived.Deep.RegionWith
/-! Printed by gen_fit.py. -/
namespace Go.Proofs.YtjbhadpdbcelcaaDoor.Q
open Go.RowKit Go.Shelf
set_option maxRecDepth 20000
/-- What the program reads of its table of built words: how many kids each has. -/
def EnvB (w : World) : Prop := 0 < w.heap.size ∧ w.cell? ⟨0, 3, none⟩ = some (.int .i64 1) ∧ w.cell? ⟨0, 5, none⟩ = some (.int .i64 1) ∧ w.cell? ⟨0, 7, none⟩ = some (.int .i64 1) ∧ w.cell? ⟨0, 9, none⟩ = some (.int .i64 2) ∧ w.cell? ⟨0, 11, none⟩ = some (.int .i64 0) ∧ w.cell? ⟨0, 13, none⟩ = some (.int .i64 1) ∧ w.cell? ⟨0, 15, none⟩ = some (.int .i64 2) ∧ w.cell? ⟨0, 17, none⟩ = some (.int .i64 3) ∧ w.cell? ⟨0, 19, none⟩ = some (.int .i64 2) ∧ w.cell? ⟨0, 21, none⟩ = some (.int .i64 1) ∧ w.cell? ⟨0, 23, none⟩ = some (.int .i64 1) ∧ w.cell? ⟨0, 25, none⟩ = some (.int .i64 1)
theorem EnvB.below {w w' : World} (h : EnvB w) (hb : Below w.heap.size w w') : EnvB w' := by
  obtain ⟨h0, h1, h2, h3, h4, h5, h6, h7, h8, h9, h10, h11, h12⟩ := h
  exact ⟨Nat.lt_of_lt_of_le h0 hb.size, (hb.cell (p := ⟨0, 3, none⟩) h0).trans h1, (hb.cell (p := ⟨0, 5, none⟩) h0).trans h2, (hb.cell (p := ⟨0, 7, none⟩) h0).trans h3, (hb.cell (p := ⟨0, 9, none⟩) h0).trans h4, (hb.cell (p := ⟨0, 11, none⟩) h0).trans h5, (hb.cell (p := ⟨0, 13, none⟩) h0).trans h6, (hb.cell (p := ⟨0, 15, none⟩) h0).trans h7, (hb.cell (p := ⟨0, 17, none⟩) h0).trans h8, (hb.cell (p := ⟨0, 19, none⟩) h0).trans h9, (hb.cell (p := ⟨0, 21, none⟩) h0).trans h10, (hb.cell (p := ⟨0, 23, none⟩) h0).trans h11, (hb.cell (p := ⟨0, 25, none⟩) h0).trans h12⟩
/-- What millKidsFit owes for a kind. -/
def KF (k : Int) : Prop := ∀ (op ty n kids : Int) (t : ByteArray) (ad : Option Addr) (m c : Nat) (st : Nat → Int) (sh : Nat → Nat) (w : World), m ≤ 12001 → (k = 8 → 1 ≤ op ∧ op ≤ 12) → m ≤ c → c ≤ maxLen → StA w ad m st sh → EnvB w →
    Calls Tryd.prog 16 #[ndV ⟨k, op, ty, n, t, kids⟩, .slice ad m c] w fun e w' => Says e (KidsOk ⟨k, op, ty, n, t, kids⟩ m st) ∧ Below w.heap.size w w'
set_option maxHeartbeats 1000000 in
theorem askFits_any (g o c : Nat) (st : Nat → Int) (sh : Nat → Nat) (w : World) (hc : 2 ≤ c) (hg : g < w.heap.size) (hs : StandAt w g o 2 st sh) :
    Calls Tryd.prog 35 #[.slice (some ⟨g, o, none⟩) 2 c] w fun e w' => Says e (mE (st 0) ∧ st 1 = 21) ∧ Below w.heap.size w w' := by
  have HF : Hid (StA w (some ⟨g, o, none⟩) 1 st sh) := .inr ⟨g, o, rfl, hg, hs.front (by omega)⟩
  have HC : Hid (∀ W, Below w.heap.size w W → W.cell? ⟨g, o + 2, none⟩ = some (.int .i64 (st 1))) := fun W hb => (hb.cell (p := ⟨g, o + 2, none⟩) hg).trans (hs 1 (by omega)).1
  clear hs
  by_cases h1 : st 1 = 21
  · have e1 : (st 1 == 21) = true := by rw [h1]; rfl
    have H1 := hid h1
    clear h1
    go_enter Tryd.func35, Tryd.ntmps35
    go_wp2_with (go_at_call 34; refine (areE_any (some ⟨g, o, none⟩) 1 _ _ _ st sh _ (by omega) HF.out).mono ?_; rintro e w1 ⟨hs1, hb1⟩; have c1 := HC.out _ hb1; have HB1 := hid hb1; clear hb1; rcases hs1.get with ⟨rfl, hP1⟩ | ⟨rfl, hP1⟩; all_goals (have HP1 := hid hP1; clear hP1 hs1))
    all_goals go_ret
    · exact ⟨says_t ⟨HP1.out.2.2 0 (by omega), H1.out⟩, HB1.out⟩
    · exact ⟨says_f (fun h => HP1.out ⟨by omega, by omega, (allE_1 st).2 h.1⟩), HB1.out⟩
  · have e1 : (st 1 == 21) = false := by rw [beq_eq_false_iff_ne]; exact h1
    have H1 := hid h1
    clear h1
    go_enter Tryd.func35, Tryd.ntmps35
    go_wp2_with (go_at_call 34; refine (areE_any (some ⟨g, o, none⟩) 1 _ _ _ st sh _ (by omega) HF.out).mono ?_; rintro e w1 ⟨hs1, hb1⟩; have c1 := HC.out _ hb1; have HB1 := hid hb1; clear hb1; rcases hs1.get with ⟨rfl, hP1⟩ | ⟨rfl, hP1⟩; all_goals (have HP1 := hid hP1; clear hP1 hs1))
    all_goals go_ret
    all_goals exact ⟨says_f (fun h => H1.out h.2), HB1.out⟩
end Go.Proofs.YtjbhadpdbcelcaaDoor.Q
