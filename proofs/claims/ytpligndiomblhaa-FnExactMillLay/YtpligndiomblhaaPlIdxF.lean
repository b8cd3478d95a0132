import Derived.Test.YtpligndiomblhaaPlHoldI
/-! Files that may be laid: all of them, by the program. -/
namespace Go.Proofs.Ytpligndiomblhaa.P
open Go.RowKit
open Go.Proofs.Ytpligndiomblhaa.J (Says says_t says_f FileOk Says.pos Says.neg)
open Go.Proofs.Ytpligndiomblhaa.R (hid Fl fl0 B1 row_cell SFlR)
set_option maxRecDepth 20000
def AllF (fs : List Fl) : Prop := ∀ i, i < fs.length → FOk (fs.getD i fl0)
set_option maxHeartbeats 2000000 in
theorem notFile_any (x : Fl) (w : World) (hn : x.name.size ≤ 1048576) (ht : x.text.size ≤ 1048576) :
    Calls Try.prog 44 #[.agg #[.string x.name, .string x.text]] w fun e w' => Says e (¬ FOk x) ∧ Below w.heap.size w w' := by
  have HS := hid (B1.start w (.cells #[.string x.name, .string x.text] 55))
  go_enter Try.func44, Try.ntmps44
  go_wp2_with fail
  refine (isFile_any x _ hn ht).mono ?_
  rintro e w2 ⟨hs, hb2⟩
  have HS2 := hid (HS.out.next hb2)
  clear hb2
  by_cases hP : FOk x
  · obtain rfl := hs.pos hP
    clear hs
    go_wp2
    go_ret
    exact ⟨says_f (fun h => h hP), HS2.out.lo⟩
  · obtain rfl := hs.neg hP
    clear hs
    go_wp2
    go_ret
    exact ⟨says_t hP, HS2.out.lo⟩
set_option maxHeartbeats 4000000 in
theorem idxF_any (ls : List Fl) {sv : Value} {B' : Nat} {w : World} (h1 : SFlR B' w sv ls) (hL : LowF ls) :
    Calls Try.prog 57 #[sv, .func (.func 44) #[] #[]] w fun e w' => ∃ r : Int, e = .returned (.int .i64 r) ∧ (0 ≤ r ↔ ¬ AllF ls) ∧ Below w.heap.size w w' := by
  have H1 := hid h1
  have HL := hid hL
  have hll := hL.1
  obtain ⟨g, rfl⟩ := h1.sl
  clear h1 hL
  go_enter Try.func57, Try.ntmps57
  go_wp2_with fail
  go_loopw [5, 8] (fun _ i wr => ∃ j : Nat, j ≤ ls.length ∧ i = .int .i64 j ∧ Below w.heap.size w wr ∧ ∀ q, q < j → FOk (ls.getD q fl0)) (fun _ i _ => ls.length - (intOf i).toNat)
  case atStart => exact ⟨0, Nat.zero_le _, rfl, Below.refl _ _, fun p hp => absurd hp (Nat.not_lt_zero _)⟩
  case round =>
    obtain ⟨j, hj, rfl, hlo, hall⟩ := hrel
    have HLO := hid hlo
    have HALL := hid hall
    clear hlo hall
    by_cases hlt : j < ls.length
    · obtain ⟨_, a0, a1⟩ := fl_at (H1.out.next HLO.out) hlt
      have HSZ := hid (HL.out.2 j hlt)
      have HNO : Hid (¬ FOk (ls.getD j fl0) → ¬ AllF ls) := hid fun h1 h2 => h1 (h2 j hlt)
      have HYE : Hid (FOk (ls.getD j fl0) → ∀ q, q < j + 1 → FOk (ls.getD q fl0)) := hid fun h => all_step HALL.out h
      obtain ⟨x, hxe⟩ : ∃ x, ls.getD j fl0 = x := ⟨_, rfl⟩
      rw [hxe] at a0 a1 HSZ HNO HYE
      clear hxe
      go_wp2_with fail
      refine (notFile_any x _ HSZ.out.1 HSZ.out.2).mono ?_
      rintro e w3 ⟨hs3, hb3⟩
      have HB3 := hid (HLO.out.trans (hb3.mono HLO.out.size))
      clear hb3 a0 a1
      by_cases hO : FOk x
      · obtain rfl := hs3.neg (fun h => h hO)
        have HX := hid (HYE.out hO)
        clear hs3 hO
        go_wp2
        go_roundw
        case rel => exact ⟨j + 1, by omega, by go_num, HB3.out, HX.out⟩
        case measure => simp [intOf]; omega
      · obtain rfl := hs3.pos hO
        have HX := hid (HNO.out hO)
        clear hs3 hO
        go_wp2
        go_ret
        exact ⟨j, rfl, ⟨fun _ => HX.out, fun _ => by omega⟩, HB3.out⟩
    · obtain rfl : j = ls.length := by omega
      go_wp2
      go_ret
      exact ⟨-1, rfl, ⟨fun h => by omega, fun h => absurd HALL.out h⟩, HLO.out⟩
set_option maxHeartbeats 2000000 in
theorem containsF_any (ls : List Fl) {sv : Value} {B' : Nat} {w : World} (h1 : SFlR B' w sv ls) (hL : LowF ls) :
    Calls Try.prog 43 #[sv, .func (.func 44) #[] #[]] w fun e w' => Says e (¬ AllF ls) ∧ Below w.heap.size w w' := by
  have HI := hid (idxF_any ls h1 hL)
  obtain ⟨g, rfl⟩ := h1.sl
  clear h1 hL
  go_enter Try.func43, Try.ntmps43
  go_wp2_with fail
  refine HI.out.mono ?_
  rintro e w2 ⟨r, rfl, hr, hb2⟩
  have HR := hid hr
  have HB2 := hid hb2
  clear hr hb2
  by_cases h0 : 0 ≤ r
  · have h0b : decide (0 ≤ r) = true := decide_eq_true h0
    go_wp2
    go_ret
    exact ⟨says_t (HR.out.1 h0), HB2.out⟩
  · have h0b : decide (0 ≤ r) = false := decide_eq_false h0
    go_wp2
    go_ret
    exact ⟨says_f (fun h => by have := HR.out.2 h; omega), HB2.out⟩
end Go.Proofs.Ytpligndiomblhaa.P
