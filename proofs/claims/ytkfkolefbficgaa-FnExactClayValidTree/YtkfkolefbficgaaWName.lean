import Derived.Test.YtkfkolefbficgaaVNode
import Derived.Test.YtkfkolefbficgaaWHigh
namespace Go.Proofs.Ytkfkolefbficgaa
open Go.RowKit
set_option maxRecDepth 20000
theorem run_full (s : ByteArray) : run letB s.data.toList = s.size ↔ ∀ i (h : i < s.size), letB s[i] = true := by
  constructor
  · intro h i hi
    exact run_all letB s.data.toList s.size (by omega) i hi (by rw [len_size]; exact hi)
  · intro h
    by_cases hl : run letB s.data.toList = s.size
    · exact hl
    · exfalso
      have h1 := run_le letB s.data.toList
      rw [len_size] at h1
      have h2 : run letB s.data.toList < s.data.toList.length := by rw [len_size]; omega
      have := run_step letB s.data.toList _ (Nat.le_refl _) h2 (h _ (by omega))
      omega
theorem name_iff (s : ByteArray) (h0 : 0 < s.size) : NameOk s ↔ s.size ≤ 30 ∧ run letB s.data.toList = s.size ∧ dig (s[0].toNat : Int) = false ∧ ¬ s.data.toList ∈ words := by
  rw [run_full]
  constructor
  · rintro ⟨_, h1, h2, h3, h4⟩
    refine ⟨h1, h4, ?_, h3⟩
    unfold begB beg at h2
    unfold dig
    simp at h2 ⊢
    omega
  · rintro ⟨h1, h2, h3, h4⟩
    refine ⟨h0, h1, ?_, h4, h2⟩
    have := h2 0 h0
    unfold letB let_ at this
    rw [h3] at this
    simpa [begB] using this
set_option maxHeartbeats 1000000 in
theorem isName_at (s : ByteArray) (r : Nat) (w : World) (hs : s.size ≤ maxLen) (hr : w.heap[r]? = some (.map (wordE 17) 17)) :
    Calls Try.prog 26 #[.string s, .map (some r)] w fun e w' => Says e (NameOk s) ∧ Below w.heap.size w w' := by
  have hml := hs
  unfold maxLen at hs
  by_cases h0 : s.size = 0
  · have HN : Hid (¬ NameOk s) := fun ⟨h, _⟩ => by omega
    have he : s = ⟨#[]⟩ := ByteArray.ext (Array.eq_empty_of_size_eq_zero h0)
    subst he
    go_enter Try.func26, Try.ntmps26
    go_wp2
    go_ret
    exact ⟨says_f HN.out, Below.refl _ _⟩
  · have hp : 0 < s.size := by omega
    have HI := hid (name_iff s hp)
    have hq := notEmpty s hp
    by_cases h30 : s.size ≤ 30
    · have hrl := run_le letB s.data.toList
      rw [len_size] at hrl
      obtain ⟨k, hk⟩ : ∃ k, run letB s.data.toList = k := ⟨_, rfl⟩
      rw [hk] at hrl
      have HK := hid hk
      clear hk
      by_cases hks : k = s.size
      · subst hks
        cases hd : dig (s[0].toNat : Int)
        · by_cases hm : s.data.toList ∈ words
          · have hlk := lookup_word w r hr s
            rw [if_pos hm, decide_eq_true hm] at hlk
            have HM := hid hm
            clear hm hr
            go_enter Try.func26, Try.ntmps26
            go_wp2_with (first
              | (go_at_call 39; refine (nameSize_any s _ hml).mono ?_; rintro e w' ⟨rfl, hw⟩; have hw2 := hw.symm; clear hw; subst hw2; rw [HK.out])
              | (go_at_call 40; refine (isDigit_any _ _).mono ?_; rintro e w' ⟨rfl, hw⟩; have hw2 := hw.symm; clear hw; subst hw2; rw [hd]))
            all_goals go_ret
            all_goals exact ⟨says_f (fun h => (HI.out.1 h).2.2.2 HM.out), Below.refl _ _⟩
          · have hlk := lookup_word w r hr s
            rw [if_neg hm, decide_eq_false hm] at hlk
            have HM := hid hm
            clear hm hr
            go_enter Try.func26, Try.ntmps26
            go_wp2_with (first
              | (go_at_call 39; refine (nameSize_any s _ hml).mono ?_; rintro e w' ⟨rfl, hw⟩; have hw2 := hw.symm; clear hw; subst hw2; rw [HK.out])
              | (go_at_call 40; refine (isDigit_any _ _).mono ?_; rintro e w' ⟨rfl, hw⟩; have hw2 := hw.symm; clear hw; subst hw2; rw [hd]))
            all_goals go_ret
            all_goals exact ⟨says_t (HI.out.2 ⟨h30, HK.out, hd, HM.out⟩), Below.refl _ _⟩
        · have HF : Hid (¬ NameOk s) := fun h => by have := (HI.out.1 h).2.2.1; rw [hd] at this; cases this
          go_enter Try.func26, Try.ntmps26
          go_wp2_with (first
            | (go_at_call 39; refine (nameSize_any s _ hml).mono ?_; rintro e w' ⟨rfl, hw⟩; have hw2 := hw.symm; clear hw; subst hw2; rw [HK.out])
            | (go_at_call 40; refine (isDigit_any _ _).mono ?_; rintro e w' ⟨rfl, hw⟩; have hw2 := hw.symm; clear hw; subst hw2; rw [hd]))
          all_goals go_ret
          all_goals exact ⟨says_f HF.out, Below.refl _ _⟩
      · have HF : Hid (¬ NameOk s) := fun h => by have := (HI.out.1 h).2.1; rw [HK.out] at this; exact hks this
        have hlt : k < s.size := by omega
        go_enter Try.func26, Try.ntmps26
        go_wp2_with (go_at_call 39; refine (nameSize_any s _ hml).mono ?_; rintro e w' ⟨rfl, hw⟩; have hw2 := hw.symm; clear hw; subst hw2; rw [HK.out])
        all_goals go_ret
        all_goals exact ⟨says_f HF.out, Below.refl _ _⟩
    · have HF : Hid (¬ NameOk s) := fun h => h30 (HI.out.1 h).1
      go_enter Try.func26, Try.ntmps26
      go_wp2
      go_ret
      exact ⟨says_f HF.out, Below.refl _ _⟩
set_option maxHeartbeats 1000000 in
theorem isPackage_any (s : ByteArray) (w : World) (hs : s.size ≤ maxLen) :
    Calls Try.prog 27 #[.string s] w fun e w' => Says e (PkgOk s) ∧ Below w.heap.size w w' := by
  unfold maxLen at hs
  by_cases h0 : s.size = 0
  · have HN : Hid (¬ PkgOk s) := fun h => by have := h.1; omega
    have he : s = ⟨#[]⟩ := ByteArray.ext (Array.eq_empty_of_size_eq_zero h0)
    subst he
    go_enter Try.func27, Try.ntmps27
    go_wp2
    go_ret
    exact ⟨says_f HN.out, Below.refl _ _⟩
  · have hp : 0 < s.size := by omega
    have hq := notEmpty s hp
    by_cases h30 : s.size ≤ 30
    · go_enter Try.func27, Try.ntmps27
      go_wp2
      go_loop [13] (fun i => ∃ k : Nat, k ≤ s.size ∧ i = .int .i64 k ∧ ∀ j (h : j < s.size), j < k → pkgB s[j] = true) (fun i => s.size - (intOf i).toNat)
      case atStart => exact ⟨0, Nat.zero_le _, rfl, fun j h h0 => absurd h0 (Nat.not_lt_zero _)⟩
      case round =>
        obtain ⟨k, hk, rfl, hr⟩ := hrel
        have HR := hid hr
        clear hr
        by_cases hlt : k < s.size
        · have NX0 : Hid (pkg_ (s[k].toNat : Int) = true → ∀ j (h : j < s.size), j < k + 1 → pkgB s[j] = true) := fun hp j h hj => by
            rcases Nat.lt_or_eq_of_le (Nat.lt_succ_iff.1 hj) with h' | h'
            · exact HR.out j h h'
            · subst h'; exact hp
          have HP : Hid (pkg_ (s[k].toNat : Int) = (let_ (s[k].toNat : Int) || (s[k].toNat : Int) == 45 || (s[k].toNat : Int) == 46 || (s[k].toNat : Int) == 47)) := by
            show _ = _
            unfold pkg_ let_ beg
            generalize dig (s[k].toNat : Int) = d
            cases d <;> simp
          have NE : Hid (pkg_ (s[k].toNat : Int) = false → ¬ PkgOk s) := fun hp h => by have := h.2.2 k hlt; unfold pkgB at this; rw [hp] at this; cases this
          cases hl : let_ (s[k].toNat : Int)
          · by_cases b1 : (s[k].toNat : Int) = 45
            · have NX := hid (NX0.out (by rw [HP.out, b1]; simp))
              have c1 : ((s[k].toNat : Int) != 45) = false := by rw [b1]; rfl
              clear b1
              go_wp2_with (go_at_call 41; refine (isName_any _ _).mono ?_; rintro e w' ⟨rfl, rfl⟩)
              go_round
              case rel => exact ⟨k + 1, by omega, by go_num, NX.out⟩
              case measure => simp [intOf]; omega
            · have c1 : ((s[k].toNat : Int) != 45) = true := by rw [bne_iff_ne]; exact b1
              by_cases b2 : (s[k].toNat : Int) = 46
              · have NX := hid (NX0.out (by rw [HP.out, b2]; simp))
                have c2 : ((s[k].toNat : Int) != 46) = false := by rw [b2]; rfl
                clear b2 b1
                go_wp2_with (go_at_call 41; refine (isName_any _ _).mono ?_; rintro e w' ⟨rfl, rfl⟩)
                go_round
                case rel => exact ⟨k + 1, by omega, by go_num, NX.out⟩
                case measure => simp [intOf]; omega
              · have c2 : ((s[k].toNat : Int) != 46) = true := by rw [bne_iff_ne]; exact b2
                by_cases b3 : (s[k].toNat : Int) = 47
                · have NX := hid (NX0.out (by rw [HP.out, b3]; simp))
                  have c3 : ((s[k].toNat : Int) != 47) = false := by rw [b3]; rfl
                  clear b3 b2 b1
                  go_wp2_with (go_at_call 41; refine (isName_any _ _).mono ?_; rintro e w' ⟨rfl, rfl⟩)
                  go_round
                  case rel => exact ⟨k + 1, by omega, by go_num, NX.out⟩
                  case measure => simp [intOf]; omega
                · have c3 : ((s[k].toNat : Int) != 47) = true := by rw [bne_iff_ne]; exact b3
                  have HE := hid (NE.out (by rw [HP.out, hl]; simp; omega))
                  clear b1 b2 b3
                  go_wp2_with (go_at_call 41; refine (isName_any _ _).mono ?_; rintro e w' ⟨rfl, rfl⟩)
                  go_ret
                  exact ⟨says_f HE.out, Below.refl _ _⟩
          · have NX := hid (NX0.out (by rw [HP.out, hl]; simp))
            go_wp2_with (go_at_call 41; refine (isName_any _ _).mono ?_; rintro e w' ⟨rfl, rfl⟩)
            go_round
            case rel => exact ⟨k + 1, by omega, by go_num, NX.out⟩
            case measure => simp [intOf]; omega
        · go_wp2
          go_ret
          exact ⟨says_t ⟨hp, h30, fun i h => HR.out i h (by omega)⟩, Below.refl _ _⟩
    · have HN : Hid (¬ PkgOk s) := fun h => h30 h.2.1
      go_enter Try.func27, Try.ntmps27
      go_wp2
      go_ret
      exact ⟨says_f HN.out, Below.refl _ _⟩
end Go.Proofs.Ytkfkolefbficgaa
