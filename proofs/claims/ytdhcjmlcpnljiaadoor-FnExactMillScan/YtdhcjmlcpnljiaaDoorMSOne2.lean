import Derived.Test.YtdhcjmlcpnljiaaDoorMSOne
import Derived.Test.YtdhcjmlcpnljiaaDoorMSUnq
import Derived.Test.YtdhcjmlcpnljiaaDoorSOne2
namespace Go.Proofs.YtdhcjmlcpnljiaaDoor
open Go.RowKit
set_option maxRecDepth 20000
/-- What a text's reading means for the token. -/
theorem mtext_one (s : ByteArray) (n : Nat) (hn : n < s.size) :
    (unqAt (s.size - n) s.data.toList (n + 1) [] = none → mtext (s.data.toList.drop (n + 1)) = MOne.bad 4) ∧
    (∀ o q, unqAt (s.size - n) s.data.toList (n + 1) [] = some (o, q) → n + 1 < q ∧ q ≤ s.size ∧ (3000 < o.length → mtext (s.data.toList.drop (n + 1)) = MOne.bad 5) ∧ (o.length ≤ 3000 → mtext (s.data.toList.drop (n + 1)) = ⟨4, o, 0, 0, q - n, 0⟩)) := by
  have hu := unq_text s n hn
  constructor
  · intro h; rw [h] at hu; unfold mtext; rw [hu]; rfl
  · intro o q h
    rw [h] at hu
    have hq := unqF_pos hu
    rw [List.length_drop, len_size] at hq
    have h1 : n + 1 < q := by omega
    have h2 : q ≤ s.size := by omega
    refine ⟨h1, h2, fun h3 => ?_, fun h3 => ?_⟩
    · unfold mtext; rw [hu]; exact if_pos h3
    · unfold mtext; rw [hu]
      have e : q - (n + 1) + 1 = q - n := by omega
      show (if 3000 < o.length then MOne.bad 5 else ⟨4, o, 0, 0, q - (n + 1) + 1, 0⟩) = _
      rw [if_neg (by omega), e]
theorem mmS_size (k : Nat) : (mmS k).size = (mmarks.getD k []).length := by simp [mmS, ByteArray.size]
theorem mmark_first (L : List UInt8) (k : Nat) (hk : k < 28) (hp : (mmarks.getD k []).isPrefixOf L = true) (hn : ∀ j, j < k → (mmarks.getD j []).isPrefixOf L = false) : mmark L = ⟨5, mmarks.getD k [], 0, 0, (mmarks.getD k []).length, 0⟩ := by
  have hk' : k < mmarks.length := hk
  have e : mmarks.find? (fun m => m.isPrefixOf L) = some (mmarks.getD k []) := by
    rw [List.find?_eq_some_iff_getElem]
    refine ⟨hp, k, hk', by simp [hk'], fun j hj => ?_⟩
    have := hn j hj
    have hj' : j < mmarks.length := by omega
    simp [hj'] at this
    simp [this]
  unfold mmark; rw [e]
theorem mmark_none (L : List UInt8) (hn : ∀ j, j < 28 → (mmarks.getD j []).isPrefixOf L = false) : mmark L = MOne.bad 2 := by
  have e : mmarks.find? (fun m => m.isPrefixOf L) = none := by
    rw [List.find?_eq_none]
    intro x hx
    obtain ⟨j, hj, rfl⟩ := List.getElem_of_mem hx
    have := hn j hj
    simp [hj] at this
    simp [this]
  unfold mmark; rw [e]
theorem mmark_at (s : ByteArray) (n k : Nat) :
    ((mmarks.getD k []).isPrefixOf (s.data.toList.drop n) = true → n < s.size → ((n : Int) + ((mmS k).size : Int) ≤ s.size) ∧ ((s.extract n (n + (mmS k).size)).toList == (mmS k).toList) = true) ∧
    ((mmarks.getD k []).isPrefixOf (s.data.toList.drop n) = false → n + (mmS k).size ≤ s.size → ((s.extract n (n + (mmS k).size)).toList == (mmS k).toList) = false) := by
  have e1 : (mmS k).toList = mmarks.getD k [] := by rw [Lib.toList_data]; simp [mmS]
  have e2 : (s.extract n (n + (mmS k).size)).toList = (s.data.toList.drop n).take (mmarks.getD k []).length := by rw [Lib.toList_data, extract_list, mmS_size]
  rw [e1, e2, mmS_size]
  constructor
  · intro h hn
    have h := List.isPrefixOf_iff_prefix.1 h
    have hl := h.length_le
    rw [List.length_drop, len_size] at hl
    refine ⟨by omega, ?_⟩
    rw [beq_iff_eq]; exact (List.prefix_iff_eq_take.1 h).symm
  · intro h hl
    rw [beq_eq_false_iff_ne]
    intro e
    have : (mmarks.getD k []) <+: (s.data.toList.drop n) := List.prefix_iff_eq_take.2 e.symm
    rw [List.isPrefixOf_iff_prefix.2 this] at h; cases h
theorem mmS_cell1 (w : World) (X : Obj) (i : Nat) (h : i < 28) : ((w.alloc X).alloc (.cells (mmarks.map fun x => Value.string ⟨x.toArray⟩).toArray 9)).cell? ⟨w.heap.size + 1, i, none⟩ = some (.string (mmS i)) := by
  have h := mmS_cell (w.alloc X) i h
  rw [World.size_alloc] at h
  exact h
set_option maxHeartbeats 1000000 in
theorem l10One_text (s : ByteArray) (n : Nat) (w : World) (hs : s.size ≤ 12000) (hn : n < s.size) (hl0 : mlt (s[n].toNat : Int) = false) (hd : dig (s[n].toNat : Int) = false) (hq : ((s[n].toNat : Int) == 34) = true) :
    Calls Tryd.prog 17 #[.string s, .int .i64 n] w fun e w' => e = .returned (moneV (mtext (s.data.toList.drop (n + 1))) n) ∧ Below w.heap.size w w' := by
  have HT := hid (mtext_one s n hn)
  generalize hU : unqAt (s.size - n) s.data.toList (n + 1) [] = U
  rw [hU] at HT
  have HU := hid hU
  clear hU
  cases U with
  | none =>
    have HE := hid (moneV_bad (HT.out.1 rfl) (by decide) n)
    clear HT
    go_enter Tryd.func17, Tryd.ntmps17
    go_wp2_with (first
      | (go_at_call 26; refine (l10Digit_any _ _).mono ?_; rintro e w' ⟨rfl, hw⟩; have hw2 := hw.symm; clear hw; subst hw2)
      | (go_at_call 25; refine (l10Letter_any _ _).mono ?_; rintro e w' ⟨rfl, hw⟩; have hw2 := hw.symm; clear hw; subst hw2)
      | (go_at_call 30; refine (l10Unquote_any s n _ hs hn).mono ?_; rintro e w1 ⟨rfl, hb⟩; rw [HU.out]; unfold munqV; obtain ⟨hc, hf⟩ := bcell hb; have hz : w.heap.size + 1 ≤ w1.heap.size := by (have := hb.size; simp at this; omega)))
    have HBB := hid hb
    refine bodyPost_ret (v := .tuple #[.agg #[.int .i64 0, .string ⟨#[]⟩, .int .i64 0, .int .i64 0, .int .i64 0], .int .i64 n, .int .i64 4]) (by simp [results, Tryd.results17, go_sem, hc]) rfl ⟨by rw [HE.out]; rfl, ?_⟩
    exact below_set5 (Below.trans ((Below.refl w.heap.size w).alloc (Nat.le_refl _) _) (HBB.out.mono (B' := w.heap.size) (by simp)))
  | some x =>
    obtain ⟨o, q⟩ := x
    obtain ⟨hq1, hq2, h5, h4⟩ := HT.out.2 o q rfl
    by_cases hl : 3000 < o.length
    · have HE := hid (moneV_bad (h5 hl) (by decide) n)
      clear HT h5 h4
      have hl' : 3000 < (o.length : Int) := by omega
      clear hl
      go_enter Tryd.func17, Tryd.ntmps17
      go_wp2_with (first
        | (go_at_call 26; refine (l10Digit_any _ _).mono ?_; rintro e w' ⟨rfl, hw⟩; have hw2 := hw.symm; clear hw; subst hw2)
        | (go_at_call 25; refine (l10Letter_any _ _).mono ?_; rintro e w' ⟨rfl, hw⟩; have hw2 := hw.symm; clear hw; subst hw2)
        | (go_at_call 30; refine (l10Unquote_any s n _ hs hn).mono ?_; rintro e w1 ⟨rfl, hb⟩; rw [HU.out]; unfold munqV; obtain ⟨hc, hf⟩ := bcell hb; have hz : w.heap.size + 1 ≤ w1.heap.size := by (have := hb.size; simp at this; omega)))
      have HBB := hid hb
      refine bodyPost_ret (v := .tuple #[.agg #[.int .i64 0, .string ⟨#[]⟩, .int .i64 0, .int .i64 0, .int .i64 0], .int .i64 n, .int .i64 5]) (by simp [results, Tryd.results17, go_sem, hc]) rfl ⟨by rw [HE.out]; rfl, ?_⟩
      exact below_set5 (Below.trans ((Below.refl w.heap.size w).alloc (Nat.le_refl _) _) (HBB.out.mono (B' := w.heap.size) (by simp)))
    · have HE := hid (moneV_good (h4 (by omega)) n)
      clear HT h5 h4
      have hl' : (o.length : Int) ≤ 3000 := by omega
      have HQ : Hid ((n : Int) + ((q - n : Nat) : Int) = (q : Int)) := by show _ = _; omega
      clear hl
      go_enter Tryd.func17, Tryd.ntmps17
      go_wp2_with (first
        | (go_at_call 26; refine (l10Digit_any _ _).mono ?_; rintro e w' ⟨rfl, hw⟩; have hw2 := hw.symm; clear hw; subst hw2)
        | (go_at_call 25; refine (l10Letter_any _ _).mono ?_; rintro e w' ⟨rfl, hw⟩; have hw2 := hw.symm; clear hw; subst hw2)
        | (go_at_call 30; refine (l10Unquote_any s n _ hs hn).mono ?_; rintro e w1 ⟨rfl, hb⟩; rw [HU.out]; unfold munqV; obtain ⟨hc, hf⟩ := bcell hb; have hz : w.heap.size + 1 ≤ w1.heap.size := by (have := hb.size; simp at this; omega)))
      have HBB := hid hb
      refine bodyPost_ret (v := .tuple #[.agg #[.int .i64 4, .string ⟨o.toArray⟩, .int .i64 0, .int .i64 0, .int .i64 n], .int .i64 q, .int .i64 0]) (by simp [results, Tryd.results17, go_sem, hc]) rfl ⟨by rw [HE.out, HQ.out]; rfl, ?_⟩
      exact below_set5 (Below.trans ((Below.refl w.heap.size w).alloc (Nat.le_refl _) _) (HBB.out.mono (B' := w.heap.size) (by simp)))
set_option maxHeartbeats 1000000 in
theorem l10One_mark (s : ByteArray) (n : Nat) (w : World) (hs : s.size ≤ 12000) (hn : n < s.size) (hl0 : mlt (s[n].toNat : Int) = false) (hd : dig (s[n].toNat : Int) = false) (hq : ((s[n].toNat : Int) == 34) = false) :
    Calls Tryd.prog 17 #[.string s, .int .i64 n] w fun e w' => e = .returned (moneV (mmark (s.data.toList.drop n)) n) ∧ Below w.heap.size w w' := by
  go_enter Tryd.func17, Tryd.ntmps17
  go_wp2_with (first
    | (go_at_call 26; refine (l10Digit_any _ _).mono ?_; rintro e w' ⟨rfl, hw⟩; have hw2 := hw.symm; clear hw; subst hw2)
    | (go_at_call 25; refine (l10Letter_any _ _).mono ?_; rintro e w' ⟨rfl, hw⟩; have hw2 := hw.symm; clear hw; subst hw2)
    | (go_at_call 31; refine (l10Marks_any _).mono ?_; rintro e w' ⟨rfl, rfl⟩))
  go_loopw [17] (fun i wr => ∃ k q : Nat, k ≤ 28 ∧ i = .int .i64 k ∧ (∀ j, j < k → (mmarks.getD j []).isPrefixOf (s.data.toList.drop n) = false) ∧ wr = (((w.alloc (.cells #[.int .i64 0, .string ⟨#[]⟩, .int .i64 0, .int .i64 0, .int .i64 0] 39)).alloc (.cells (mmarks.map fun x => Value.string ⟨x.toArray⟩).toArray 9)).drewN q)) (fun i _ => 28 - (intOf i).toNat)
  case atStart => exact ⟨0, 0, Nat.zero_le _, rfl, fun j h => absurd h (Nat.not_lt_zero _), rfl⟩
  case round =>
    obtain ⟨k, q, hk, rfl, hno, hwr⟩ := hrel
    have HNO := hid hno
    have HB : Hid (Below w.heap.size w wr) := by
      rw [hwr]; exact below_drewN (((Below.refl w.heap.size w).alloc (Nat.le_refl _) _).alloc (by simp) _) q
    have HW := hid hwr
    have hzr : w.heap.size + 2 ≤ wr.heap.size := by rw [hwr]; simp
    clear hno
    have k0 : wr.cell? ⟨w.heap.size, 0, none⟩ = some (.int .i64 0) := by rw [hwr]; simp
    have k1 : wr.cell? ⟨w.heap.size, 1, none⟩ = some (.string ⟨#[]⟩) := by rw [hwr]; simp
    have k2 : wr.cell? ⟨w.heap.size, 2, none⟩ = some (.int .i64 0) := by rw [hwr]; simp
    have k3 : wr.cell? ⟨w.heap.size, 3, none⟩ = some (.int .i64 0) := by rw [hwr]; simp
    have k4 : wr.cell? ⟨w.heap.size, 4, none⟩ = some (.int .i64 0) := by rw [hwr]; simp
    have f0 : wr.frozen? ⟨w.heap.size, 0, none⟩ = false := by rw [hwr]; simp
    have f1 : wr.frozen? ⟨w.heap.size, 1, none⟩ = false := by rw [hwr]; simp
    have f2 : wr.frozen? ⟨w.heap.size, 2, none⟩ = false := by rw [hwr]; simp
    have f3 : wr.frozen? ⟨w.heap.size, 3, none⟩ = false := by rw [hwr]; simp
    have f4 : wr.frozen? ⟨w.heap.size, 4, none⟩ = false := by rw [hwr]; simp
    by_cases hlt : k < 28
    · have hcell : wr.cell? ⟨w.heap.size + 1, k, none⟩ = some (.string (mmS k)) := by
        rw [hwr]; exact mmS_cell1 w (.cells #[.int .i64 0, .string ⟨#[]⟩, .int .i64 0, .int .i64 0, .int .i64 0] 39) k hlt
      have HM := hid (mmark_at s n k)
      have hsm : (mmS k).size ≤ 2 := by
        have : ∀ j : Fin 28, (mmS j.1).size ≤ 2 := by decide
        exact this ⟨k, hlt⟩
      have hwp : IntKind.i64.wrap ((n : Int) + ((mmS k).size : Int)) = (n : Int) + ((mmS k).size : Int) := by rw [IntKind.wrap_i64]; omega
      clear hwr
      by_cases hp : (mmarks.getD k []).isPrefixOf (s.data.toList.drop n) = true
      · obtain ⟨hz2, he⟩ := HM.out.1 hp hn
        have HE := hid (moneV_good (mmark_first _ k hlt hp HNO.out) n)
        clear HM hp
        go_wp2_with fail
        go_quiet (fail)
        go_wp2
        refine bodyPost_ret (v := .tuple #[.agg #[.int .i64 5, .string (mmS k), .int .i64 0, .int .i64 0, .int .i64 n], .int .i64 (n + (mmS k).size), .int .i64 0]) (by simp [results, Tryd.results17, go_sem, k0, k1, k2, k3, k4]) rfl ⟨by rw [HE.out, ← mmS_size]; rfl, ?_⟩
        exact below_set5 (below_drewN HB.out _)
      · have hp' : (mmarks.getD k []).isPrefixOf (s.data.toList.drop n) = false := Bool.eq_false_iff.2 hp
        have HN2 : Hid (∀ j, j < k + 1 → (mmarks.getD j []).isPrefixOf (s.data.toList.drop n) = false) := fun j hj => by
          rcases Nat.lt_or_eq_of_le (Nat.lt_succ_iff.1 hj) with h | h
          · exact HNO.out j h
          · subst h; exact hp'
        by_cases hz : n + (mmS k).size ≤ s.size
        · have hz2 : (n : Int) + ((mmS k).size : Int) ≤ s.size := by omega
          have he := HM.out.2 hp' hz
          clear HM hp hp' hz
          go_wp2_with fail
          go_quiet (fail)
          go_wp2
          go_roundw
          case rel => exact ⟨k + 1, q + nq, by omega, by go_num, HN2.out, by rw [HW.out]; simp⟩
          case measure => simp [intOf]; omega
        · have hz2 : decide ((n : Int) + ((mmS k).size : Int) ≤ s.size) = false := by rw [decide_eq_false_iff_not]; omega
          clear HM hp hp' hz
          go_wp2_with fail
          go_quiet (fail)
          go_wp2
          go_roundw
          case rel => exact ⟨k + 1, q + nq, by omega, by go_num, HN2.out, by rw [HW.out]; simp⟩
          case measure => simp [intOf]; omega
    · have HE := hid (moneV_bad (mmark_none _ (fun j hj => HNO.out j (by omega))) (by decide) n)
      clear hwr
      go_wp2
      refine bodyPost_ret (v := .tuple #[.agg #[.int .i64 0, .string ⟨#[]⟩, .int .i64 0, .int .i64 0, .int .i64 0], .int .i64 n, .int .i64 2]) (by simp [results, Tryd.results17, go_sem, k0, k1, k2, k3, k4]) rfl ⟨by rw [HE.out]; rfl, ?_⟩
      exact below_set5 HB.out
/-- One token of the specification. -/
theorem l10One_any (s : ByteArray) (n : Nat) (w : World) (hs : s.size ≤ 12000) (hn : n < s.size) :
    Calls Tryd.prog 17 #[.string s, .int .i64 n] w fun e w' => e = .returned (moneV (mone (s.data.toList.drop n)) n) ∧ Below w.heap.size w w' := by
  have hl : n < s.data.toList.length := by rw [len_size]; exact hn
  have hd : s.data.toList.drop n = s[n] :: s.data.toList.drop (n + 1) := List.drop_eq_getElem_cons hl
  rw [hd]
  simp only [mone]
  by_cases h1 : s[n].toNat = 34
  · rw [if_pos h1]
    exact l10One_text s n w hs hn (by unfold mlt; rw [Bool.eq_false_iff]; simp; omega) (by unfold dig; rw [Bool.eq_false_iff]; simp; omega) (by rw [beq_iff_eq]; omega)
  · rw [if_neg h1]
    have h1' : ((s[n].toNat : Int) == 34) = false := by rw [beq_eq_false_iff_ne]; omega
    by_cases h2 : digB s[n] = true
    · rw [if_pos h2, ← hd]
      have h2' := (digB_iff _).1 h2
      exact l10One_num s n w hs hn (by unfold mlt; rw [Bool.eq_false_iff]; simp; omega) h2
    · rw [if_neg h2]
      have h2' : dig (s[n].toNat : Int) = false := by simpa [digB] using h2
      by_cases h3 : mltB s[n] = true
      · rw [if_pos h3, ← hd]
        exact l10One_name s n w hs hn h3
      · rw [if_neg h3, ← hd]
        exact l10One_mark s n w hs hn (by simpa [mltB] using h3) h2' h1'
end Go.Proofs.YtdhcjmlcpnljiaaDoor
