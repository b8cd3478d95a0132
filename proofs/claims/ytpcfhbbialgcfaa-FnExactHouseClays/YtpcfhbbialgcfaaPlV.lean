import Derived.Test.YtpcfhbbialgcfaaJBeg
import Derived.Test.YtpcfhbbialgcfaaRkP
/-! Places: whether one is valid, by both sides. -/
namespace Go.Proofs.Ytpcfhbbialgcfaa.P
open Go.RowKit
open Go.Proofs.Ytpcfhbbialgcfaa.J (Says says_t says_f FileOk l15Path_any implFile_any Says.pos Says.neg)
open Go.Proofs.Ytpcfhbbialgcfaa.R (hid small Fl fl0 OkFlS SFlR row_cell B1 Gr wp_region_gr Calls.gr_of below_drewN)
set_option maxRecDepth 20000
def ltB (a b : ByteArray) : Bool := Go.Op.bytesLess a.toList b.toList
/-- A file may lie in a place. -/
def FOk (x : Fl) : Prop := FileOk x.name ∧ x.text.size ≤ 3000
/-- The i-th file may, above the one ahead of it. -/
def EOk (l : List Fl) (i : Nat) : Prop := FOk (l.getD i fl0) ∧ (0 < i → ltB (l.getD (i - 1) fl0).name (l.getD i fl0).name = true)
def PlOk (l : List Fl) : Prop := l.length ≤ 40 ∧ ∀ i, i < l.length → EOk l i
theorem all_step {P : Nat → Prop} {k : Nat} (h : ∀ i, i < k → P i) (hk : P k) : ∀ i, i < k + 1 → P i := fun i hi => by
  rcases Nat.lt_or_eq_of_le (Nat.lt_succ_iff.1 hi) with h' | h'
  · exact h i h'
  · subst h'; exact hk
/-- The i-th file of a row that was made. -/
theorem fl_at {B : Nat} {W : World} {g n c : Nat} {l : List Fl} (h : SFlR B W (.slice (some ⟨g, 0, none⟩) n c) l) {i : Nat} (hi : i < l.length) : g < W.heap.size ∧ W.cell? ⟨g, i * 2, none⟩ = some (.string (l.getD i fl0).name) ∧ W.cell? ⟨g, i * 2 + 1, none⟩ = some (.string (l.getD i fl0).text) := by
  obtain ⟨g2, e9, _, hg, a0, a1⟩ := h.at hi
  injection e9 with ea en ec
  injection ea with eb
  injection eb with ec2
  subst ec2
  exact ⟨hg, a0, a1⟩
set_option maxHeartbeats 4000000 in
theorem specFiles_any (l : List Fl) {v : Value} {B : Nat} (w : World) (hx : OkFlS l) (hN : l.length ≤ 1048576) (k0 : SFlR B w v l) :
    Calls Try.prog 32 #[v, .int .i64 40] w fun e w' => Says e (PlOk l) ∧ Below w.heap.size w w' := by
  have HK := hid k0
  have HX := hid hx
  obtain ⟨g, rfl⟩ := k0.sl
  clear k0 hx
  by_cases h1 : l.length ≤ 40
  · go_enter Try.func32, Try.ntmps32
    go_wp2
    go_loopw [5] (fun i wr => ∃ k : Nat, k ≤ l.length ∧ i = .int .i64 k ∧ (∀ i, i < k → EOk l i) ∧ Below w.heap.size w wr) (fun i _ => l.length - (intOf i).toNat)
    case atStart => exact ⟨0, Nat.zero_le _, rfl, fun i h => absurd h (Nat.not_lt_zero _), Below.refl _ _⟩
    case round =>
      obtain ⟨k, hk, rfl, hr, hbw⟩ := hrel
      have HR := hid hr
      have HBW := hid hbw
      clear hr hbw
      by_cases hlt : k < l.length
      · obtain ⟨_, a0, a1⟩ := fl_at (HK.out.next HBW.out) hlt
        have hfail : Hid (¬ EOk l k → ¬ PlOk l) := hid fun h h' => h (h'.2 k hlt)
        have HOK := hid (HX.out.2 k hlt)
        obtain ⟨x, hxe⟩ : ∃ x, l.getD k fl0 = x := ⟨_, rfl⟩
        have HXE := hid hxe
        rw [hxe] at a0 a1 HOK
        clear hxe
        have hsz := small HOK.out.2
        by_cases hP : FileOk x.name
        · by_cases hT : x.text.size ≤ 3000
          · have hT2 : ¬ (3000 : Int) < (x.text.size : Int) := by omega
            have hT3 : decide ((3000 : Int) < (x.text.size : Int)) = false := by simp; omega
            have hT4 : ¬ 3000 < x.text.size := by omega
            by_cases h0 : 0 < k
            · have h0b : decide ((0 : Int) < (k : Int)) = true := by simp; omega
              have h0i : (0 : Int) < (k : Int) := by omega
              obtain ⟨p, hp⟩ : ∃ p : Nat, k = p + 1 := ⟨k - 1, by omega⟩
              have hpi : (k : Int) - 1 = (p : Int) := by omega
              have hpl : p < l.length := by omega
              have hpw : IntKind.i64.wrap (p : Int) = (p : Int) := by rw [IntKind.wrap_i64]; omega
              have HPE := hid hp
              clear hp
              obtain ⟨_, c0, _⟩ := fl_at (HK.out.next HBW.out) hpl
              obtain ⟨y, hye⟩ : ∃ y, l.getD p fl0 = y := ⟨_, rfl⟩
              have HYE := hid hye
              rw [hye] at c0
              clear hye
              have HKP : Hid (k - 1 = p) := hid (by rw [HPE.out]; rfl)
              cases hL : Go.Op.bytesLess y.name.toList x.name.toList
              · have HE := hid (hfail.out (fun h => by have := h.2 h0; rw [HKP.out, HXE.out, HYE.out] at this; unfold ltB at this; rw [hL] at this; cases this))
                go_wp2_with fail
                go_quiet ((go_at_call 44; refine Calls.quiet_of_same (v := .bool true) ?_; refine (l15Path_any _ _ HOK.out.1).mono ?_; rintro e w3 ⟨hs3, hb3⟩; exact ⟨hs3.pos hP, hb3⟩))
                go_wp2
                go_ret
                exact ⟨says_f HE.out, below_drewN HBW.out nq⟩
              · have HO : Hid (EOk l k) := hid ⟨by rw [HXE.out]; exact ⟨hP, hT⟩, fun _ => by rw [HKP.out, HXE.out, HYE.out]; exact hL⟩
                go_wp2_with fail
                go_quiet ((go_at_call 44; refine Calls.quiet_of_same (v := .bool true) ?_; refine (l15Path_any _ _ HOK.out.1).mono ?_; rintro e w3 ⟨hs3, hb3⟩; exact ⟨hs3.pos hP, hb3⟩))
                go_wp2
                go_roundw
                case rel => exact ⟨k + 1, by omega, by go_num, all_step HR.out HO.out, below_drewN HBW.out nq⟩
                case measure => simp [intOf]; omega
            · have h0b : decide ((0 : Int) < (k : Int)) = false := by simp; omega
              have h0i : ¬ (0 : Int) < (k : Int) := by omega
              have HO : Hid (EOk l k) := hid ⟨by rw [HXE.out]; exact ⟨hP, hT⟩, fun h => absurd h h0⟩
              go_wp2_with fail
              go_quiet ((go_at_call 44; refine Calls.quiet_of_same (v := .bool true) ?_; refine (l15Path_any _ _ HOK.out.1).mono ?_; rintro e w3 ⟨hs3, hb3⟩; exact ⟨hs3.pos hP, hb3⟩))
              go_wp2
              go_roundw
              case rel => exact ⟨k + 1, by omega, by go_num, all_step HR.out HO.out, below_drewN HBW.out nq⟩
              case measure => simp [intOf]; omega
          · have HE := hid (hfail.out (fun h => hT (by have := h.1.2; rw [HXE.out] at this; exact this)))
            have hT2 : (3000 : Int) < (x.text.size : Int) := by omega
            have hT3 : decide ((3000 : Int) < (x.text.size : Int)) = true := by simp; omega
            have hT4 : 3000 < x.text.size := by omega
            clear hT
            go_wp2_with fail
            go_quiet ((go_at_call 44; refine Calls.quiet_of_same (v := .bool true) ?_; refine (l15Path_any _ _ HOK.out.1).mono ?_; rintro e w3 ⟨hs3, hb3⟩; exact ⟨hs3.pos hP, hb3⟩))
            go_wp2
            go_ret
            exact ⟨says_f HE.out, below_drewN HBW.out nq⟩
        · have HE := hid (hfail.out (fun h => hP (by have := h.1.1; rw [HXE.out] at this; exact this)))
          go_wp2_with fail
          go_quiet ((go_at_call 44; refine Calls.quiet_of_same (v := .bool false) ?_; refine (l15Path_any _ _ HOK.out.1).mono ?_; rintro e w3 ⟨hs3, hb3⟩; exact ⟨hs3.neg hP, hb3⟩))
          go_wp2
          go_ret
          exact ⟨says_f HE.out, below_drewN HBW.out nq⟩
      · obtain rfl : k = l.length := by omega
        have HO : Hid (PlOk l) := hid ⟨h1, HR.out⟩
        go_wp2
        go_ret
        exact ⟨says_t HO.out, HBW.out⟩
  · go_enter Try.func32, Try.ntmps32
    go_wp2
    go_ret
    exact ⟨says_f fun h => h1 h.1, Below.refl _ _⟩
set_option maxHeartbeats 2000000 in
theorem specPlace_any (l : List Fl) {v : Value} {B : Nat} (w : World) (hx : OkFlS l) (hN : l.length ≤ 1048576) (k0 : SFlR B w v l) :
    Calls Try.prog 14 #[.agg #[v]] w fun e w' => Says e (PlOk l) ∧ Below w.heap.size w w' := by
  have HB0 := hid (B1.start w (.cells #[v] 33))
  have HK := hid (k0.next HB0.out.lo)
  obtain ⟨g, rfl⟩ := k0.sl
  clear k0
  go_enter Try.func14, Try.ntmps14
  go_wp2_with fail
  refine (specFiles_any l _ hx hN HK.out).mono ?_
  rintro e w2 ⟨⟨b, rfl, hb⟩, hb2⟩
  have HB1 := hid (HB0.out.next hb2)
  have HBS := hid hb
  clear hb2 hb
  go_wp2
  go_ret
  exact ⟨⟨b, rfl, HBS.out⟩, HB1.out.lo⟩
set_option maxHeartbeats 2000000 in
theorem isFile_any (x : Fl) (w : World) (hn : x.name.size ≤ 1048576) (ht : x.text.size ≤ 1048576) :
    Calls Try.prog 49 #[.agg #[.string x.name, .string x.text]] w fun e w' => Says e (FOk x) ∧ Below w.heap.size w w' := by
  obtain ⟨n, t⟩ := x
  dsimp only at hn ht
  have HB0 := hid (B1.start w (.cells #[.string n, .string t] 45))
  go_enter Try.func49, Try.ntmps49
  go_wp2_with fail
  refine (implFile_any n _ hn).mono ?_
  rintro e w2 ⟨hs, hb2⟩
  have HB1 := hid (HB0.out.next hb2)
  have k1 : w2.cell? ⟨w.heap.size, 1, none⟩ = some (.string t) := row_cell HB1.out.e 1
  clear hb2
  by_cases hP : FileOk n
  · obtain rfl := hs.pos hP
    clear hs
    by_cases hT : t.size ≤ 3000
    · have hT2 : (t.size : Int) ≤ 3000 := by omega
      go_wp2
      go_ret
      exact ⟨says_t ⟨hP, hT⟩, HB1.out.lo⟩
    · have hT2 : ¬ (t.size : Int) ≤ 3000 := by omega
      have hT3 : decide ((t.size : Int) ≤ 3000) = false := by simp; omega
      go_wp2
      go_ret
      exact ⟨says_f fun h => hT h.2, HB1.out.lo⟩
  · obtain rfl := hs.neg hP
    clear hs
    go_wp2
    go_ret
    exact ⟨says_f fun h => hP h.1, HB1.out.lo⟩
end Go.Proofs.Ytpcfhbbialgcfaa.P
