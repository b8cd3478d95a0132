import Derived.Test.YtpobfklbbkdglaaDoorJHigh
import Derived.Test.YtpobfklbbkdglaaDoorJBase
namespace Go.Proofs.YtpobfklbbkdglaaDoor
open Go.RowKit
set_option maxRecDepth 20000
/-- What clayKidsFit owes for a kind. -/
def KF (kind : Int) : Prop := ∀ (ad : Option Addr) (m c : Nat) (st : Nat → Nd) (sh : Nat → Nat) (w : World), m ≤ 5000 → (∀ i, i < m → (st i).text.size ≤ maxLen) → m ≤ c → c ≤ maxLen → StA w ad m st sh →
    Calls Tryd.prog 70 #[.int .i64 kind, .slice ad m c] w fun e w' => Says e (KidsOk kind m st) ∧ Below w.heap.size w w'
theorem Says.of {e : Ending} {P Q : Prop} (h : Says e P) (hq : P ↔ Q) : Says e Q := by
  obtain ⟨b, h1, h2⟩ := h
  exact ⟨b, h1, h2.trans hq⟩
set_option maxHeartbeats 2000000 in
theorem KF_A (kind : Int) (hk : kind = 1 ∨ kind = 2 ∨ kind = 3 ∨ kind = 4 ∨ kind = 5) : KF kind := by
  intro ad m c st sh w hm hx hcm hc hs
  by_cases h0 : m = 0
  · subst h0
    rcases hk with rfl | rfl | rfl | rfl | rfl
    all_goals go_enter Tryd.func70, Tryd.ntmps70
    all_goals go_wp2
    all_goals go_ret
    all_goals exact ⟨says_t (by simp [KidsOk]), Below.refl _ _⟩
  · have hq : ((m : Int) == 0) = false := by rw [beq_eq_false_iff_ne]; omega
    rcases hk with rfl | rfl | rfl | rfl | rfl
    all_goals go_enter Tryd.func70, Tryd.ntmps70
    all_goals go_wp2
    all_goals go_ret
    all_goals exact ⟨says_f (by simp [KidsOk]; exact h0), Below.refl _ _⟩
set_option maxHeartbeats 4000000 in
theorem KF_B (kind : Int) (hk : kind = 6 ∨ kind = 11 ∨ kind = 17 ∨ kind = 18 ∨ kind = 21 ∨ kind = 22 ∨ kind = 7 ∨ kind = 10 ∨ kind = 14 ∨ kind = 13 ∨ kind = 16 ∨ kind = 19 ∨ kind = 8) : KF kind := by
  intro ad m c st sh w hm hx hcm hc hs
  have HS := hid hs
  clear hs hx
  rcases hk with rfl | rfl | rfl | rfl | rfl | rfl | rfl | rfl | rfl | rfl | rfl | rfl | rfl
  all_goals go_enter Tryd.func70, Tryd.ntmps70
  all_goals go_wp2_with (go_at_call 83; refine (areE_any ad m c _ _ st sh _ hm HS.out).mono ?_; rintro e w1 ⟨hs, hb⟩; have HB := hid hb; obtain ⟨b, rfl, hP⟩ := hs; have HP := hid hP; clear hb hP)
  all_goals go_ret
  all_goals refine ⟨⟨_, rfl, HP.out.trans ?_⟩, HB.out⟩
  all_goals by_cases hE : AllE m st
  all_goals simp [KidsOk, hE]
  all_goals omega
theorem KF_end (kind : Int) (m : Nat) (st : Nat → Nd) : (kind = 9 → (KidsOk kind m st ↔ m ≤ 200 ∧ (∀ i, i < m → (st i).kind = 17) ∧ Apart m st)) ∧ (kind = 12 → (KidsOk kind m st ↔ CallOk m st)) ∧
    (kind = 15 ∨ kind = 20 → (KidsOk kind m st ↔ 1 ≤ m ∧ m ≤ 9 ∧ (∀ i, i + 1 < m → (st i).kind = 19) ∧ isE (st (m - 1)).kind = true)) ∧
    (kind = 23 → (KidsOk kind m st ↔ 1 ≤ m ∧ m ≤ 200 ∧ ∀ i, i < m → (st i).kind = 5)) ∧ (kind = 24 → (KidsOk kind m st ↔ m ≤ 200 ∧ ∀ i, i < m → 20 ≤ (st i).kind ∧ (st i).kind ≤ 23)) ∧ (kind < 1 ∨ 24 < kind → ¬ KidsOk kind m st) := by
  refine ⟨?_, ?_, ?_, ?_, ?_, ?_⟩
  · rintro rfl; simp [KidsOk]
  · rintro rfl; simp [KidsOk, CallOk]
  · rintro (rfl | rfl) <;> simp [KidsOk]
  · rintro rfl; simp [KidsOk]
  · rintro rfl; simp [KidsOk]
  · intro h hk
    unfold KidsOk at hk
    omega
set_option maxHeartbeats 2000000 in
theorem KF_9 : KF 9 := by
  intro ad m c st sh w hm hx hcm hc hs
  have HS := hid hs
  have HX := hid hx
  have HE := hid ((KF_end 9 m st).1 rfl)
  clear hs hx
  by_cases h2 : m ≤ 200
  · go_enter Tryd.func70, Tryd.ntmps70
    go_wp2_with (first
      | (go_at_call 84; refine (areKinds_any ad m c _ _ st sh _ hm HS.out).mono ?_; rintro e w1 ⟨hs, hb⟩; have HB := hid hb; clear hb; rcases hs.get with ⟨rfl, hP⟩ | ⟨rfl, hP⟩; all_goals (have HP := hid hP; clear hP hs))
      | (go_at_call 85; refine (textsDiffer_all ad m c st sh _ hm HX.out (HS.out.below HB.out)).mono ?_; rintro e w2 ⟨hs2, hb2⟩; have HB2 := hid (HB.out.trans (hb2.mono HB.out.size)); clear hb2; rcases hs2.get with ⟨rfl, hP2⟩ | ⟨rfl, hP2⟩; all_goals (have HP2 := hid hP2; clear hP2 hs2)))
    all_goals go_ret
    · exact ⟨says_t (HE.out.2 ⟨h2, fun i hi => by have := HP.out i hi; omega, HP2.out⟩), HB2.out⟩
    · exact ⟨says_f (fun h => HP2.out (HE.out.1 h).2.2), HB2.out⟩
    · exact ⟨says_f (fun h => HP.out fun i hi => by have := (HE.out.1 h).2.1 i hi; omega), HB.out⟩
  · go_enter Tryd.func70, Tryd.ntmps70
    go_wp2
    go_ret
    exact ⟨says_f (fun h => h2 (HE.out.1 h).1), Below.refl _ _⟩
set_option maxHeartbeats 2000000 in
theorem KF_12 : KF 12 := by
  intro ad m c st sh w hm hx hcm hc hs
  have HS := hid hs
  have HX := hid hx
  have HE := hid ((KF_end 12 m st).2.1 rfl)
  clear hs hx
  go_enter Tryd.func70, Tryd.ntmps70
  go_wp2_with (go_at_call 86; refine (callFits_all ad m c st sh _ hm HX.out hcm hc HS.out).mono ?_; rintro e w1 ⟨hs, hb⟩; have HB := hid hb; obtain ⟨b, rfl, hP⟩ := hs; have HP := hid hP; clear hb hP)
  go_ret
  exact ⟨⟨_, rfl, HP.out.trans HE.out.symm⟩, HB.out⟩
set_option maxHeartbeats 2000000 in
theorem KF_15 (kind : Int) (hk : kind = 15 ∨ kind = 20) : KF kind := by
  intro ad m c st sh w hm hx hcm hc hs
  have HS := hid hs
  have HE := hid ((KF_end kind m st).2.2.1 hk)
  clear hs hx
  rcases hk with rfl | rfl
  all_goals go_enter Tryd.func70, Tryd.ntmps70
  all_goals go_wp2_with (go_at_call 87; refine (fnFits_all ad m c st sh _ hm hcm hc HS.out).mono ?_; rintro e w1 ⟨hs, hb⟩; have HB := hid hb; obtain ⟨b, rfl, hP⟩ := hs; have HP := hid hP; clear hb hP)
  all_goals go_ret
  all_goals exact ⟨⟨_, rfl, HP.out.trans HE.out.symm⟩, HB.out⟩
set_option maxHeartbeats 2000000 in
theorem KF_23 : KF 23 := by
  intro ad m c st sh w hm hx hcm hc hs
  have HS := hid hs
  have HE := hid ((KF_end 23 m st).2.2.2.1 rfl)
  clear hs hx
  by_cases h1 : 1 ≤ m
  · by_cases h2 : m ≤ 200
    · go_enter Tryd.func70, Tryd.ntmps70
      go_wp2_with (go_at_call 84; refine (areKinds_any ad m c _ _ st sh _ hm HS.out).mono ?_; rintro e w1 ⟨hs, hb⟩; have HB := hid hb; clear hb; rcases hs.get with ⟨rfl, hP⟩ | ⟨rfl, hP⟩; all_goals (have HP := hid hP; clear hP hs))
      all_goals go_ret
      · exact ⟨says_t (HE.out.2 ⟨h1, h2, fun i hi => by have := HP.out i hi; omega⟩), HB.out⟩
      · exact ⟨says_f (fun h => HP.out fun i hi => by have := (HE.out.1 h).2.2 i hi; omega), HB.out⟩
    · go_enter Tryd.func70, Tryd.ntmps70
      go_wp2
      go_ret
      exact ⟨says_f (fun h => h2 (HE.out.1 h).2.1), Below.refl _ _⟩
  · go_enter Tryd.func70, Tryd.ntmps70
    go_wp2
    go_ret
    exact ⟨says_f (fun h => h1 (HE.out.1 h).1), Below.refl _ _⟩
set_option maxHeartbeats 2000000 in
theorem KF_24 : KF 24 := by
  intro ad m c st sh w hm hx hcm hc hs
  have HS := hid hs
  have HE := hid ((KF_end 24 m st).2.2.2.2.1 rfl)
  clear hs hx
  by_cases h2 : m ≤ 200
  · go_enter Tryd.func70, Tryd.ntmps70
    go_wp2_with (go_at_call 84; refine (areKinds_any ad m c _ _ st sh _ hm HS.out).mono ?_; rintro e w1 ⟨hs, hb⟩; have HB := hid hb; obtain ⟨b, rfl, hP⟩ := hs; have HP := hid hP; clear hb hP)
    go_ret
    exact ⟨⟨_, rfl, HP.out.trans ⟨fun h => HE.out.2 ⟨h2, h⟩, fun h => (HE.out.1 h).2⟩⟩, HB.out⟩
  · go_enter Tryd.func70, Tryd.ntmps70
    go_wp2
    go_ret
    exact ⟨says_f (fun h => h2 (HE.out.1 h).1), Below.refl _ _⟩
set_option maxHeartbeats 4000000 in
theorem KF_E (kind : Int) (hk : kind < 1 ∨ 24 < kind) : KF kind := by
  intro ad m c st sh w hm hx hcm hc hs
  have HE := hid ((KF_end kind m st).2.2.2.2.2 hk)
  clear hs hx
  have hn : ∀ x : Int, 1 ≤ x → x ≤ 24 → (kind == x) = false := fun x h1 h2 => by rw [beq_eq_false_iff_ne]; omega
  have n1 := hn 1 (by decide) (by decide)
  have n2 := hn 2 (by decide) (by decide)
  have n3 := hn 3 (by decide) (by decide)
  have n4 := hn 4 (by decide) (by decide)
  have n5 := hn 5 (by decide) (by decide)
  have n6 := hn 6 (by decide) (by decide)
  have n7 := hn 7 (by decide) (by decide)
  have n8 := hn 8 (by decide) (by decide)
  have n9 := hn 9 (by decide) (by decide)
  have n10 := hn 10 (by decide) (by decide)
  have n11 := hn 11 (by decide) (by decide)
  have n12 := hn 12 (by decide) (by decide)
  have n13 := hn 13 (by decide) (by decide)
  have n14 := hn 14 (by decide) (by decide)
  have n15 := hn 15 (by decide) (by decide)
  have n16 := hn 16 (by decide) (by decide)
  have n17 := hn 17 (by decide) (by decide)
  have n18 := hn 18 (by decide) (by decide)
  have n19 := hn 19 (by decide) (by decide)
  have n20 := hn 20 (by decide) (by decide)
  have n21 := hn 21 (by decide) (by decide)
  have n22 := hn 22 (by decide) (by decide)
  have n23 := hn 23 (by decide) (by decide)
  have n24 := hn 24 (by decide) (by decide)
  clear hn
  go_enter Tryd.func70, Tryd.ntmps70
  go_wp2
  go_ret
  exact ⟨says_f HE.out, Below.refl _ _⟩
theorem kidsFit_any (kind : Int) : KF kind := by
  by_cases a : kind = 1 ∨ kind = 2 ∨ kind = 3 ∨ kind = 4 ∨ kind = 5
  · exact KF_A kind a
  · by_cases b : kind = 6 ∨ kind = 11 ∨ kind = 17 ∨ kind = 18 ∨ kind = 21 ∨ kind = 22 ∨ kind = 7 ∨ kind = 10 ∨ kind = 14 ∨ kind = 13 ∨ kind = 16 ∨ kind = 19 ∨ kind = 8
    · exact KF_B kind b
    · by_cases e9 : kind = 9
      · subst e9; exact KF_9
      · by_cases e12 : kind = 12
        · subst e12; exact KF_12
        · by_cases e15 : kind = 15 ∨ kind = 20
          · exact KF_15 kind e15
          · by_cases e23 : kind = 23
            · subst e23; exact KF_23
            · by_cases e24 : kind = 24
              · subst e24; exact KF_24
              · exact KF_E kind (by omega)
end Go.Proofs.YtpobfklbbkdglaaDoor
namespace Go.Proofs.YtpobfklbbkdglaaDoor
open Go.RowKit
set_option maxRecDepth 20000
theorem run_full (s : ByteArray) : run letB s.data.toList = s.size ↔ ∀ i (h : i < s.size), letB s[i] = true := by
  constructor
  · intro h i hi
    exact run_all letB s.data.toList s.size (by omega) i hi (by rw [len_size]; exact hi)
  · intro h
    by_cases hl : run letB s.data.toList = s.size
    · exact hl
    · exfalso
      have h1 := run_le letB s.data.toList
      rw [len_size] at h1
      have h2 : run letB s.data.toList < s.data.toList.length := by rw [len_size]; omega
      have := run_step letB s.data.toList _ (Nat.le_refl _) h2 (h _ (by omega))
      omega
theorem name_iff (s : ByteArray) (h0 : 0 < s.size) : NameOk s ↔ s.size ≤ 30 ∧ run letB s.data.toList = s.size ∧ dig (s[0].toNat : Int) = false ∧ ¬ s.data.toList ∈ words := by
  rw [run_full]
  constructor
  · rintro ⟨_, h1, h2, h3, h4⟩
    refine ⟨h1, h4, ?_, h3⟩
    unfold begB beg at h2
    unfold dig
    simp at h2 ⊢
    omega
  · rintro ⟨h1, h2, h3, h4⟩
    refine ⟨h0, h1, ?_, h4, h2⟩
    have := h2 0 h0
    unfold letB let_ at this
    rw [h3] at this
    simpa [begB] using this
set_option maxHeartbeats 1000000 in
theorem isName_at (s : ByteArray) (r : Nat) (w : World) (hs : s.size ≤ maxLen) (hr : w.heap[r]? = some (.map (wordE 17) 17)) :
    Calls Tryd.prog 58 #[.string s, .map (some r)] w fun e w' => Says e (NameOk s) ∧ Below w.heap.size w w' := by
  have hml := hs
  unfold maxLen at hs
  by_cases h0 : s.size = 0
  · have HN : Hid (¬ NameOk s) := fun ⟨h, _⟩ => by omega
    have he : s = ⟨#[]⟩ := ByteArray.ext (Array.eq_empty_of_size_eq_zero h0)
    subst he
    go_enter Tryd.func58, Tryd.ntmps58
    go_wp2
    go_ret
    exact ⟨says_f HN.out, Below.refl _ _⟩
  · have hp : 0 < s.size := by omega
    have HI := hid (name_iff s hp)
    have hq := notEmpty s hp
    by_cases h30 : s.size ≤ 30
    · have hrl := run_le letB s.data.toList
      rw [len_size] at hrl
      obtain ⟨k, hk⟩ : ∃ k, run letB s.data.toList = k := ⟨_, rfl⟩
      rw [hk] at hrl
      have HK := hid hk
      clear hk
      by_cases hks : k = s.size
      · subst hks
        cases hd : dig (s[0].toNat : Int)
        · by_cases hm : s.data.toList ∈ words
          · have hlk := lookup_word w r hr s
            rw [if_pos hm, decide_eq_true hm] at hlk
            have HM := hid hm
            clear hm hr
            go_enter Tryd.func58, Tryd.ntmps58
            go_wp2_with (first
              | (go_at_call 79; refine (nameSize_any s _ hml).mono ?_; rintro e w' ⟨rfl, hw⟩; have hw2 := hw.symm; clear hw; subst hw2; rw [HK.out])
              | (go_at_call 80; refine (isDigit_any _ _).mono ?_; rintro e w' ⟨rfl, hw⟩; have hw2 := hw.symm; clear hw; subst hw2; rw [hd]))
            all_goals go_ret
            all_goals exact ⟨says_f (fun h => (HI.out.1 h).2.2.2 HM.out), Below.refl _ _⟩
          · have hlk := lookup_word w r hr s
            rw [if_neg hm, decide_eq_false hm] at hlk
            have HM := hid hm
            clear hm hr
            go_enter Tryd.func58, Tryd.ntmps58
            go_wp2_with (first
              | (go_at_call 79; refine (nameSize_any s _ hml).mono ?_; rintro e w' ⟨rfl, hw⟩; have hw2 := hw.symm; clear hw; subst hw2; rw [HK.out])
              | (go_at_call 80; refine (isDigit_any _ _).mono ?_; rintro e w' ⟨rfl, hw⟩; have hw2 := hw.symm; clear hw; subst hw2; rw [hd]))
            all_goals go_ret
            all_goals exact ⟨says_t (HI.out.2 ⟨h30, HK.out, hd, HM.out⟩), Below.refl _ _⟩
        · have HF : Hid (¬ NameOk s) := fun h => by have := (HI.out.1 h).2.2.1; rw [hd] at this; cases this
          go_enter Tryd.func58, Tryd.ntmps58
          go_wp2_with (first
            | (go_at_call 79; refine (nameSize_any s _ hml).mono ?_; rintro e w' ⟨rfl, hw⟩; have hw2 := hw.symm; clear hw; subst hw2; rw [HK.out])
            | (go_at_call 80; refine (isDigit_any _ _).mono ?_; rintro e w' ⟨rfl, hw⟩; have hw2 := hw.symm; clear hw; subst hw2; rw [hd]))
          all_goals go_ret
          all_goals exact ⟨says_f HF.out, Below.refl _ _⟩
      · have HF : Hid (¬ NameOk s) := fun h => by have := (HI.out.1 h).2.1; rw [HK.out] at this; exact hks this
        have hlt : k < s.size := by omega
        go_enter Tryd.func58, Tryd.ntmps58
        go_wp2_with (go_at_call 79; refine (nameSize_any s _ hml).mono ?_; rintro e w' ⟨rfl, hw⟩; have hw2 := hw.symm; clear hw; subst hw2; rw [HK.out])
        all_goals go_ret
        all_goals exact ⟨says_f HF.out, Below.refl _ _⟩
    · have HF : Hid (¬ NameOk s) := fun h => h30 (HI.out.1 h).1
      go_enter Tryd.func58, Tryd.ntmps58
      go_wp2
      go_ret
      exact ⟨says_f HF.out, Below.refl _ _⟩
set_option maxHeartbeats 1000000 in
theorem isPackage_any (s : ByteArray) (w : World) (hs : s.size ≤ maxLen) :
    Calls Tryd.prog 82 #[.string s] w fun e w' => Says e (PkgOk s) ∧ Below w.heap.size w w' := by
  unfold maxLen at hs
  by_cases h0 : s.size = 0
  · have HN : Hid (¬ PkgOk s) := fun h => by have := h.1; omega
    have he : s = ⟨#[]⟩ := ByteArray.ext (Array.eq_empty_of_size_eq_zero h0)
    subst he
    go_enter Tryd.func82, Tryd.ntmps82
    go_wp2
    go_ret
    exact ⟨says_f HN.out, Below.refl _ _⟩
  · have hp : 0 < s.size := by omega
    have hq := notEmpty s hp
    by_cases h30 : s.size ≤ 30
    · go_enter Tryd.func82, Tryd.ntmps82
      go_wp2
      go_loop [13] (fun i => ∃ k : Nat, k ≤ s.size ∧ i = .int .i64 k ∧ ∀ j (h : j < s.size), j < k → pkgB s[j] = true) (fun i => s.size - (intOf i).toNat)
      case atStart => exact ⟨0, Nat.zero_le _, rfl, fun j h h0 => absurd h0 (Nat.not_lt_zero _)⟩
      case round =>
        obtain ⟨k, hk, rfl, hr⟩ := hrel
        have HR := hid hr
        clear hr
        by_cases hlt : k < s.size
        · have NX0 : Hid (pkg_ (s[k].toNat : Int) = true → ∀ j (h : j < s.size), j < k + 1 → pkgB s[j] = true) := fun hp j h hj => by
            rcases Nat.lt_or_eq_of_le (Nat.lt_succ_iff.1 hj) with h' | h'
            · exact HR.out j h h'
            · subst h'; exact hp
          have HP : Hid (pkg_ (s[k].toNat : Int) = (let_ (s[k].toNat : Int) || (s[k].toNat : Int) == 45 || (s[k].toNat : Int) == 46 || (s[k].toNat : Int) == 47)) := by
            show _ = _
            unfold pkg_ let_ beg
            generalize dig (s[k].toNat : Int) = d
            cases d <;> simp
          have NE : Hid (pkg_ (s[k].toNat : Int) = false → ¬ PkgOk s) := fun hp h => by have := h.2.2 k hlt; unfold pkgB at this; rw [hp] at this; cases this
          cases hl : let_ (s[k].toNat : Int)
          · by_cases b1 : (s[k].toNat : Int) = 45
            · have NX := hid (NX0.out (by rw [HP.out, b1]; simp))
              have c1 : ((s[k].toNat : Int) != 45) = false := by rw [b1]; rfl
              clear b1
              go_wp2_with (go_at_call 92; refine (isName_any _ _).mono ?_; rintro e w' ⟨rfl, rfl⟩)
              go_round
              case rel => exact ⟨k + 1, by omega, by go_num, NX.out⟩
              case measure => simp [intOf]; omega
            · have c1 : ((s[k].toNat : Int) != 45) = true := by rw [bne_iff_ne]; exact b1
              by_cases b2 : (s[k].toNat : Int) = 46
              · have NX := hid (NX0.out (by rw [HP.out, b2]; simp))
                have c2 : ((s[k].toNat : Int) != 46) = false := by rw [b2]; rfl
                clear b2 b1
                go_wp2_with (go_at_call 92; refine (isName_any _ _).mono ?_; rintro e w' ⟨rfl, rfl⟩)
                go_round
                case rel => exact ⟨k + 1, by omega, by go_num, NX.out⟩
                case measure => simp [intOf]; omega
              · have c2 : ((s[k].toNat : Int) != 46) = true := by rw [bne_iff_ne]; exact b2
                by_cases b3 : (s[k].toNat : Int) = 47
                · have NX := hid (NX0.out (by rw [HP.out, b3]; simp))
                  have c3 : ((s[k].toNat : Int) != 47) = false := by rw [b3]; rfl
                  clear b3 b2 b1
                  go_wp2_with (go_at_call 92; refine (isName_any _ _).mono ?_; rintro e w' ⟨rfl, rfl⟩)
                  go_round
                  case rel => exact ⟨k + 1, by omega, by go_num, NX.out⟩
                  case measure => simp [intOf]; omega
                · have c3 : ((s[k].toNat : Int) != 47) = true := by rw [bne_iff_ne]; exact b3
                  have HE := hid (NE.out (by rw [HP.out, hl]; simp; omega))
                  clear b1 b2 b3
                  go_wp2_with (go_at_call 92; refine (isName_any _ _).mono ?_; rintro e w' ⟨rfl, rfl⟩)
                  go_ret
                  exact ⟨says_f HE.out, Below.refl _ _⟩
          · have NX := hid (NX0.out (by rw [HP.out, hl]; simp))
            go_wp2_with (go_at_call 92; refine (isName_any _ _).mono ?_; rintro e w' ⟨rfl, rfl⟩)
            go_round
            case rel => exact ⟨k + 1, by omega, by go_num, NX.out⟩
            case measure => simp [intOf]; omega
        · go_wp2
          go_ret
          exact ⟨says_t ⟨hp, h30, fun i h => HR.out i h (by omega)⟩, Below.refl _ _⟩
    · have HN : Hid (¬ PkgOk s) := fun h => h30 h.2.1
      go_enter Tryd.func82, Tryd.ntmps82
      go_wp2
      go_ret
      exact ⟨says_f HN.out, Below.refl _ _⟩
end Go.Proofs.YtpobfklbbkdglaaDoor
namespace Go.Proofs.YtpobfklbbkdglaaDoor
open Go.RowKit
set_option maxRecDepth 20000
def UF (k : Int) : Prop := ∀ (op n kids : Int) (t : ByteArray) (r : Nat) (w : World), t.size ≤ maxLen → w.heap[r]? = some (.map (wordE 17) 17) → Calls Tryd.prog 69 #[ndV ⟨k, op, n, t, kids⟩, .map (some r)] w fun e w' => Says e (PlainNd ⟨k, op, n, t, kids⟩ ∧ 1 ≤ k ∧ k ≤ 24) ∧ Below w.heap.size w w'
theorem below_two (w : World) (a b : Obj) : Below w.heap.size w ((w.alloc a).alloc b) := ((Below.refl _ _).alloc (Nat.le_refl _) a).alloc (by simp) b
theorem two_rows {w w1 : World} {a0 a1 a2 a3 a4 b0 b1 b2 b3 b4 : Value} {t u : TypeId} (h : Below ((w.alloc (.cells #[a0, a1, a2, a3, a4] t)).alloc (.cells #[b0, b1, b2, b3, b4] u)).heap.size ((w.alloc (.cells #[a0, a1, a2, a3, a4] t)).alloc (.cells #[b0, b1, b2, b3, b4] u)) w1) :
    (w1.cell? ⟨w.heap.size, 0, none⟩ = some a0 ∧ w1.cell? ⟨w.heap.size, 1, none⟩ = some a1 ∧ w1.cell? ⟨w.heap.size, 2, none⟩ = some a2 ∧ w1.cell? ⟨w.heap.size, 3, none⟩ = some a3 ∧ w1.cell? ⟨w.heap.size, 4, none⟩ = some a4) ∧
    (w1.cell? ⟨w.heap.size + 1, 0, none⟩ = some b0 ∧ w1.cell? ⟨w.heap.size + 1, 1, none⟩ = some b1 ∧ w1.cell? ⟨w.heap.size + 1, 2, none⟩ = some b2 ∧ w1.cell? ⟨w.heap.size + 1, 3, none⟩ = some b3 ∧ w1.cell? ⟨w.heap.size + 1, 4, none⟩ = some b4) ∧ Below w.heap.size w w1 := by
  have f : ∀ i, w1.cell? ⟨w.heap.size, i, none⟩ = #[a0, a1, a2, a3, a4][i]? := fun i => by
    rw [h.cell (p := ⟨w.heap.size, i, none⟩) (by simp; omega)]
    rw [((Below.refl (w.heap.size + 1) (w.alloc (.cells #[a0, a1, a2, a3, a4] t))).alloc (by simp) _).cell (p := ⟨w.heap.size, i, none⟩) (Nat.lt_succ_self _), cell_new_row]
  have g : ∀ i, w1.cell? ⟨w.heap.size + 1, i, none⟩ = #[b0, b1, b2, b3, b4][i]? := fun i => by
    rw [h.cell (p := ⟨w.heap.size + 1, i, none⟩) (by simp)]
    have := cell_new_row (w.alloc (.cells #[a0, a1, a2, a3, a4] t)) #[b0, b1, b2, b3, b4] u i
    rwa [World.size_alloc] at this
  exact ⟨⟨f 0, f 1, f 2, f 3, f 4⟩, ⟨g 0, g 1, g 2, g 3, g 4⟩, (below_two w _ _).trans (h.mono (by simp; omega))⟩
end Go.Proofs.YtpobfklbbkdglaaDoor
