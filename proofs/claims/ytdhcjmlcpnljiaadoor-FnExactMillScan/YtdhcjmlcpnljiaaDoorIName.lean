import Derived.Test.YtdhcjmlcpnljiaaDoorIWord
namespace Go.Proofs.YtdhcjmlcpnljiaaDoor
open Go.RowKit Go.Shelf
theorem sl_clone_any (s : ByteArray) (w : World) (hlim : s.size ≤ 8000) :
    Calls Tryd.prog 92 #[.string s] w fun e w' => e = .returned (.string s) ∧ Below w.heap.size w w' :=
  Any.stringslite_Clone (ρ := laysPI_ren) { laysPI with } s w (by omega)
set_option maxHeartbeats 400000 in
theorem clone_any (s : ByteArray) (w : World) (hlim : s.size ≤ 8000) :
    Calls Tryd.prog 79 #[.string s] w fun e w' => e = .returned (.string s) ∧ Below w.heap.size w w' := by
  go_enter Tryd.func79, Tryd.ntmps79
  go_wp2_with (go_at_call 92; refine (sl_clone_any _ _ hlim).mono ?_; rintro e w' ⟨rfl, hb⟩)
  go_ret
  exact ⟨rfl, hb⟩
theorem words_len : ∀ x ∈ words, x.length ≤ 5 := by decide
set_option maxRecDepth 20000 in
set_option maxHeartbeats 1000000 in
theorem readName_any (s : ByteArray) (r : Nat) (w : World) (hs : s.size ≤ 8000) (hr : w.heap[r]? = some (.map (wordE 17) 17)) :
    Calls Tryd.prog 67 #[.string s, .map (some r)] w fun e w' => e = .returned (oneV (nameOne s.data.toList) 0) ∧ Below w.heap.size w w' := by
  have hms : s.size ≤ maxLen := by unfold maxLen; omega
  have hk2 := run_le letB s.data.toList
  have HX := hid (extract_take s (run letB s.data.toList))
  rw [len_size] at hk2
  have HD : Hid (∀ k, run letB s.data.toList = k → nameOne s.data.toList = if s.data.toList.take k ∈ words then ⟨2, s.data.toList.take k, 0, k, 0⟩ else if 30 < k then One.bad 5 else ⟨1, s.data.toList.take k, 0, k, 0⟩) := fun k hk => by subst hk; rfl
  generalize hK : run letB s.data.toList = k at *
  have HK := hid hK
  have HO := hid (HD.out k rfl)
  clear hK HD
  have HSZ : Hid ((s.extract 0 k).size ≤ 8000) := by show _ ≤ _; simp; omega
  have HTX : Hid ((⟨(s.data.toList.take k).toArray⟩ : ByteArray) = s.extract 0 k) := by show _ = _; rw [← HX.out]
  have hrl : r < w.heap.size := (Array.getElem?_eq_some_iff.1 hr).1
  have HR : Hid (∀ W, Below w.heap.size w W → W.heap[r]? = some (.map (wordE 17) 17)) := fun W hb => (hb.block r hrl).trans hr
  clear hr
  by_cases h30 : 30 < k
  · have hnw : ¬ s.data.toList.take k ∈ words := fun h => by
      have := words_len _ h
      rw [List.length_take, len_size] at this; omega
    have HE := hid (oneV_bad (HO.out.trans (by rw [if_neg hnw, if_pos h30])) (by decide) 0)
    clear hnw
    go_enter Tryd.func67, Tryd.ntmps67
    go_wp2_with (first
      | (go_at_call 81; refine (nameSize_any s _ hms).mono ?_; rintro e w' ⟨rfl, hw⟩; have hw2 := hw.symm; clear hw; subst hw2; rw [HK.out]))
    refine bodyPost_ret (v := .tuple #[.agg #[.int .i64 0, .string ⟨#[]⟩, .int .i64 0, .int .i64 0], .int .i64 0, .int .i64 5]) (by simp [results, Tryd.results67, go_sem]) rfl ⟨by rw [HE.out]; rfl, ?_⟩
    exact (Below.refl w.heap.size w).alloc (Nat.le_refl _) _
  · by_cases hw : s.data.toList.take k ∈ words
    · have HE := hid (oneV_good (HO.out.trans (by rw [if_pos hw])) 0)
      have HDE : Hid ((s.extract 0 k).data.toList ∈ words) := by show _ ∈ _; rw [HX.out]; exact hw
      clear hw
      go_enter Tryd.func67, Tryd.ntmps67
      go_wp2_with (first
        | (go_at_call 81; refine (nameSize_any s _ hms).mono ?_; rintro e w' ⟨rfl, hw⟩; have hw2 := hw.symm; clear hw; subst hw2; rw [HK.out])
        | (go_at_call 79; refine (clone_any _ _ HSZ.out).mono ?_; rintro e w1 ⟨rfl, hb⟩; have HB := hid hb; obtain ⟨⟨k0, k1, k2, k3⟩, ⟨k4, k5, k6, k7⟩⟩ := tok_cells (hb.mono (by simp)); have hlk := lookup_word w1 r (HR.out w1 (below_tok (hb.mono (by simp)))) (s.extract 0 k); rw [if_pos HDE.out, decide_eq_true HDE.out] at hlk; clear hb))
      refine bodyPost_ret (v := .tuple #[.agg #[.int .i64 2, .string (s.extract 0 k), .int .i64 0, .int .i64 0], .int .i64 k, .int .i64 0]) (by simp [results, Tryd.results67, go_sem, k0, k1, k2, k3]) rfl ⟨by rw [HE.out, HTX.out]; simp, ?_⟩
      exact below_set4 (below_tok (HB.out.mono (by simp)))
    · have HE := hid (oneV_good (HO.out.trans (by rw [if_neg hw, if_neg h30])) 0)
      have HDE : Hid (¬ (s.extract 0 k).data.toList ∈ words) := by show ¬ _ ∈ _; rw [HX.out]; exact hw
      clear hw
      go_enter Tryd.func67, Tryd.ntmps67
      go_wp2_with (first
        | (go_at_call 81; refine (nameSize_any s _ hms).mono ?_; rintro e w' ⟨rfl, hw⟩; have hw2 := hw.symm; clear hw; subst hw2; rw [HK.out])
        | (go_at_call 79; refine (clone_any _ _ HSZ.out).mono ?_; rintro e w1 ⟨rfl, hb⟩; have HB := hid hb; obtain ⟨⟨k0, k1, k2, k3⟩, ⟨k4, k5, k6, k7⟩⟩ := tok_cells (hb.mono (by simp)); have hlk := lookup_word w1 r (HR.out w1 (below_tok (hb.mono (by simp)))) (s.extract 0 k); rw [if_neg HDE.out, decide_eq_false HDE.out] at hlk; clear hb))
      refine bodyPost_ret (v := .tuple #[.agg #[.int .i64 1, .string (s.extract 0 k), .int .i64 0, .int .i64 0], .int .i64 k, .int .i64 0]) (by simp [results, Tryd.results67, go_sem, k0, k1, k2, k3]) rfl ⟨by rw [HE.out, HTX.out]; simp, ?_⟩
      exact below_set4 (below_tok (HB.out.mono (by simp)))
end Go.Proofs.YtdhcjmlcpnljiaaDoor
