import Derived.Test.YtpcfhbbialgcfaaPlV
/-! Names of packages, by both sides. Printed by gen_hcpkg.py. -/
namespace Go.Proofs.Ytpcfhbbialgcfaa.P
open Go.RowKit
open Go.Proofs.Ytpcfhbbialgcfaa.J (Says says_t says_f ret_bool byte_bd)
open Go.Proofs.Ytpcfhbbialgcfaa.R (hid)
set_option maxRecDepth 20000
/-- The bytes that are digits, that begin a name, that go on in one; hex digits. -/
def dig (c : Int) : Bool := decide (48 ≤ c) && decide (c ≤ 57)
def beg (c : Int) : Bool := (decide (97 ≤ c) && decide (c ≤ 122)) || c == 95
def let_ (c : Int) : Bool := beg c || dig c
def inR (x lo hi : Int) : Bool := decide (lo ≤ x) && decide (x ≤ hi)
def pkg_ (c : Int) : Bool := (decide (97 ≤ c) && decide (c ≤ 122)) || dig c || c == 95 || c == 45 || c == 46 || c == 47
def pkgB (c : UInt8) : Bool := pkg_ c.toNat
def PkgOk (s : ByteArray) : Prop := 1 ≤ s.size ∧ s.size ≤ 30 ∧ ∀ i (h : i < s.size), pkgB s[i] = true

set_option maxHeartbeats 400000 in
theorem isDigit_any (c : Int) (w : World) :
    Calls Try.prog 69 #[.int .u8 c] w fun e w' => e = .returned (.bool (dig c)) ∧ w' = w := by
  go_enter Try.func69, Try.ntmps69
  go_wp2
  all_goals go_ret
  all_goals exact ⟨ret_bool (by unfold dig; rw [Bool.eq_iff_iff]; simp; try omega), rfl⟩
set_option maxHeartbeats 400000 in
theorem l1Digit_any (c : Int) (w : World) :
    Calls Try.prog 46 #[.int .u8 c] w fun e w' => e = .returned (.bool (dig c)) ∧ w' = w := by
  go_enter Try.func46, Try.ntmps46
  go_wp2
  all_goals go_ret
  all_goals exact ⟨ret_bool (by unfold dig; rw [Bool.eq_iff_iff]; simp; try omega), rfl⟩
set_option maxHeartbeats 400000 in
theorem isName_any (c : Int) (w : World) :
    Calls Try.prog 55 #[.int .u8 c] w fun e w' => e = .returned (.bool (let_ c)) ∧ w' = w := by
  go_enter Try.func55, Try.ntmps55
  go_wp2_with (first
    | (go_at_call 69; refine (isDigit_any _ _).mono ?_; rintro e w' ⟨rfl, rfl⟩))
  all_goals go_ret
  all_goals exact ⟨ret_bool (by unfold let_ beg; generalize dig c = d; cases d <;> rw [Bool.eq_iff_iff] <;> simp <;> try omega), rfl⟩
theorem head_eq (s : ByteArray) (hp : 0 < s.size) : s.data.toList = s[0] :: s.data.toList.tail := by
  match s, hp with
  | ⟨⟨c :: r⟩⟩, _ => rfl
  | ⟨⟨[]⟩⟩, h => exact absurd h (by decide)
theorem notEmpty (s : ByteArray) (hp : 0 < s.size) : s.toList.isEmpty = false := by
  rw [Lib.toList_data, head_eq s hp]; rfl
set_option maxHeartbeats 400000 in
theorem l1In_any (x lo hi : Int) (w : World) :
    Calls Try.prog 45 #[.int .i64 x, .int .i64 lo, .int .i64 hi] w fun e w' => e = .returned (.bool (inR x lo hi)) ∧ w' = w := by
  go_enter Try.func45, Try.ntmps45
  go_wp2
  all_goals go_ret
  all_goals exact ⟨ret_bool (by unfold inR; rw [Bool.eq_iff_iff]; simp; try omega), rfl⟩
set_option maxHeartbeats 1000000 in
theorem l2Package_any (s : ByteArray) (w : World) (hs : s.size ≤ maxLen) :
    Calls Try.prog 33 #[.string s] w fun e w' => Says e (PkgOk s) ∧ w' = w := by
  unfold maxLen at hs
  by_cases h1 : 1 ≤ s.size ∧ s.size ≤ 30
  · obtain ⟨h1, h2⟩ := h1
    have HIN : Hid (inR (s.size : Int) 1 30 = true) := by show _ = _; unfold inR; simp; omega
    go_enter Try.func33, Try.ntmps33
    go_wp2_with (go_at_call 45; refine (l1In_any _ _ _ _).mono ?_; rintro e w' ⟨rfl, rfl⟩; rw [HIN.out])
    go_loop [3] (fun i => ∃ k : Nat, k ≤ s.size ∧ i = .int .i64 k ∧ ∀ j (h : j < s.size), j < k → pkgB s[j] = true) (fun i => s.size - (intOf i).toNat)
    case atStart => exact ⟨0, Nat.zero_le _, rfl, fun j h h0 => absurd h0 (Nat.not_lt_zero _)⟩
    case round =>
      obtain ⟨k, hk, rfl, hr⟩ := hrel
      have HR := hid hr
      clear hr
      by_cases hlt : k < s.size
      · cases hd : dig (s[k].toNat : Int)
        all_goals cases hp : pkg_ (s[k].toNat : Int)
        · have HE : Hid (¬ PkgOk s) := fun h => by have := h.2.2 k hlt; unfold pkgB at this; rw [hp] at this; cases this
          unfold pkg_ at hp
          rw [hd] at hp
          simp at hp
          obtain ⟨⟨⟨⟨p0, p1⟩, p2⟩, p3⟩, p4⟩ := hp
          have p5 : (s[k].toNat : Int) < 97 ∨ 122 < (s[k].toNat : Int) := by
            by_cases q : 97 ≤ (s[k].toNat : Int)
            · exact .inr (p0 q)
            · exact .inl (by omega)
          clear p0
          go_wp2_with (go_at_call 46; refine (l1Digit_any _ _).mono ?_; rintro e w' ⟨rfl, rfl⟩)
          all_goals first
            | (exfalso; (try simp only [bne_iff_ne, bne_eq_false_iff_eq, ne_eq, Bool.not_eq_eq_eq_not, Bool.not_true, Bool.not_false, decide_eq_true_eq, decide_eq_false_iff_not] at *); omega)
            | (go_ret; exact ⟨says_f HE.out, rfl⟩)
        · have NX : Hid (∀ j (h : j < s.size), j < k + 1 → pkgB s[j] = true) := fun j h hj => by
            rcases Nat.lt_or_eq_of_le (Nat.lt_succ_iff.1 hj) with h' | h'
            · exact HR.out j h h'
            · subst h'; exact hp
          unfold pkg_ at hp
          rw [hd] at hp
          simp at hp
          go_wp2_with (go_at_call 46; refine (l1Digit_any _ _).mono ?_; rintro e w' ⟨rfl, rfl⟩)
          all_goals first
            | (exfalso; (try simp only [bne_iff_ne, bne_eq_false_iff_eq, ne_eq] at *); omega)
            | (go_round; (case rel => exact ⟨k + 1, by omega, by go_num, NX.out⟩); (case measure => simp [intOf]; omega))
        · exfalso; unfold pkg_ at hp; rw [hd] at hp; simp at hp
        · have NX : Hid (∀ j (h : j < s.size), j < k + 1 → pkgB s[j] = true) := fun j h hj => by
            rcases Nat.lt_or_eq_of_le (Nat.lt_succ_iff.1 hj) with h' | h'
            · exact HR.out j h h'
            · subst h'; exact hp
          clear hp
          go_wp2_with (go_at_call 46; refine (l1Digit_any _ _).mono ?_; rintro e w' ⟨rfl, rfl⟩)
          all_goals first
            | (exfalso; omega)
            | (go_round; (case rel => exact ⟨k + 1, by omega, by go_num, NX.out⟩); (case measure => simp [intOf]; omega))
      · go_wp2
        go_ret
        exact ⟨says_t ⟨h1, h2, fun i h => HR.out i h (by omega)⟩, rfl⟩
  · have HIN : Hid (inR (s.size : Int) 1 30 = false) := by show _ = _; unfold inR; simp; omega
    go_enter Try.func33, Try.ntmps33
    go_wp2_with (go_at_call 45; refine (l1In_any _ _ _ _).mono ?_; rintro e w' ⟨rfl, rfl⟩; rw [HIN.out])
    go_ret
    exact ⟨says_f (fun h => h1 ⟨h.1, h.2.1⟩), rfl⟩
set_option maxHeartbeats 1000000 in
theorem isPackage_any (s : ByteArray) (w : World) (hs : s.size ≤ maxLen) :
    Calls Try.prog 48 #[.string s] w fun e w' => Says e (PkgOk s) ∧ w' = w := by
  unfold maxLen at hs
  by_cases h0 : s.size = 0
  · have HN : Hid (¬ PkgOk s) := fun h => by have := h.1; omega
    have he : s = ⟨#[]⟩ := ByteArray.ext (Array.eq_empty_of_size_eq_zero h0)
    subst he
    go_enter Try.func48, Try.ntmps48
    go_wp2
    go_ret
    exact ⟨says_f HN.out, rfl⟩
  · have hp : 0 < s.size := by omega
    have hq := notEmpty s hp
    by_cases h30 : s.size ≤ 30
    · go_enter Try.func48, Try.ntmps48
      go_wp2
      go_loop [13] (fun i => ∃ k : Nat, k ≤ s.size ∧ i = .int .i64 k ∧ ∀ j (h : j < s.size), j < k → pkgB s[j] = true) (fun i => s.size - (intOf i).toNat)
      case atStart => exact ⟨0, Nat.zero_le _, rfl, fun j h h0 => absurd h0 (Nat.not_lt_zero _)⟩
      case round =>
        obtain ⟨k, hk, rfl, hr⟩ := hrel
        have HR := hid hr
        clear hr
        by_cases hlt : k < s.size
        · have NX0 : Hid (pkg_ (s[k].toNat : Int) = true → ∀ j (h : j < s.size), j < k + 1 → pkgB s[j] = true) := fun hp j h hj => by
            rcases Nat.lt_or_eq_of_le (Nat.lt_succ_iff.1 hj) with h' | h'
            · exact HR.out j h h'
            · subst h'; exact hp
          have HP : Hid (pkg_ (s[k].toNat : Int) = (let_ (s[k].toNat : Int) || (s[k].toNat : Int) == 45 || (s[k].toNat : Int) == 46 || (s[k].toNat : Int) == 47)) := by
            show _ = _
            unfold pkg_ let_ beg
            generalize dig (s[k].toNat : Int) = d
            cases d <;> simp
          have NE : Hid (pkg_ (s[k].toNat : Int) = false → ¬ PkgOk s) := fun hp h => by have := h.2.2 k hlt; unfold pkgB at this; rw [hp] at this; cases this
          cases hl : let_ (s[k].toNat : Int)
          · by_cases b1 : (s[k].toNat : Int) = 45
            · have NX := hid (NX0.out (by rw [HP.out, b1]; simp))
              have c1 : ((s[k].toNat : Int) != 45) = false := by rw [b1]; rfl
              clear b1
              go_wp2_with (go_at_call 55; refine (isName_any _ _).mono ?_; rintro e w' ⟨rfl, rfl⟩)
              go_round
              case rel => exact ⟨k + 1, by omega, by go_num, NX.out⟩
              case measure => simp [intOf]; omega
            · have c1 : ((s[k].toNat : Int) != 45) = true := by rw [bne_iff_ne]; exact b1
              by_cases b2 : (s[k].toNat : Int) = 46
              · have NX := hid (NX0.out (by rw [HP.out, b2]; simp))
                have c2 : ((s[k].toNat : Int) != 46) = false := by rw [b2]; rfl
                clear b2 b1
                go_wp2_with (go_at_call 55; refine (isName_any _ _).mono ?_; rintro e w' ⟨rfl, rfl⟩)
                go_round
                case rel => exact ⟨k + 1, by omega, by go_num, NX.out⟩
                case measure => simp [intOf]; omega
              · have c2 : ((s[k].toNat : Int) != 46) = true := by rw [bne_iff_ne]; exact b2
                by_cases b3 : (s[k].toNat : Int) = 47
                · have NX := hid (NX0.out (by rw [HP.out, b3]; simp))
                  have c3 : ((s[k].toNat : Int) != 47) = false := by rw [b3]; rfl
                  clear b3 b2 b1
                  go_wp2_with (go_at_call 55; refine (isName_any _ _).mono ?_; rintro e w' ⟨rfl, rfl⟩)
                  go_round
                  case rel => exact ⟨k + 1, by omega, by go_num, NX.out⟩
                  case measure => simp [intOf]; omega
                · have c3 : ((s[k].toNat : Int) != 47) = true := by rw [bne_iff_ne]; exact b3
                  have HE := hid (NE.out (by rw [HP.out, hl]; simp; omega))
                  clear b1 b2 b3
                  go_wp2_with (go_at_call 55; refine (isName_any _ _).mono ?_; rintro e w' ⟨rfl, rfl⟩)
                  go_ret
                  exact ⟨says_f HE.out, rfl⟩
          · have NX := hid (NX0.out (by rw [HP.out, hl]; simp))
            go_wp2_with (go_at_call 55; refine (isName_any _ _).mono ?_; rintro e w' ⟨rfl, rfl⟩)
            go_round
            case rel => exact ⟨k + 1, by omega, by go_num, NX.out⟩
            case measure => simp [intOf]; omega
        · go_wp2
          go_ret
          exact ⟨says_t ⟨hp, h30, fun i h => HR.out i h (by omega)⟩, rfl⟩
    · have HN : Hid (¬ PkgOk s) := fun h => h30 h.2.1
      go_enter Try.func48, Try.ntmps48
      go_wp2
      go_ret
      exact ⟨says_f HN.out, rfl⟩
end Go.Proofs.Ytpcfhbbialgcfaa.P
