import Derived.Test.YtdhcjmlcpnljiaaDoorPlain3
import Derived.Test.YtdhcjmlcpnljiaaDoorLay
import Derived.Test.YtdhcjmlcpnljiaaDoorITxt
import Derived.Lib.BufferWrite
import Derived.Lib.SmallJoins
namespace Go.Proofs.YtdhcjmlcpnljiaaDoor
open Go.RowKit Go.Shelf
/-- The table of marks, as the cells of an array. -/
def markArr : Array Value := (marks.map fun x => Value.string ⟨x.toArray⟩).toArray
/-- What the program's own scanning reads of the package-level variables. -/
structure Env (w : World) : Prop where
  bad : ∃ tp p, w.cell? ⟨3, 0, none⟩ = some (.iface tp p)
  big : ∃ tp p, w.cell? ⟨4, 0, none⟩ = some (.iface tp p)
  mark : ∃ t fr, w.heap[1]? = some (.cells markArr t fr)
  size : 6 ≤ w.heap.size
theorem Env.below {w w' : World} (h : Env w) (hb : Below w.heap.size w w') : Env w' := by
  have hs := h.size
  refine ⟨?_, ?_, ?_, Nat.le_trans hs hb.size⟩
  · obtain ⟨tp, p, e⟩ := h.bad
    exact ⟨tp, p, (hb.cell (p := ⟨3, 0, none⟩) (show 3 < w.heap.size by omega)).trans e⟩
  · obtain ⟨tp, p, e⟩ := h.big
    exact ⟨tp, p, (hb.cell (p := ⟨4, 0, none⟩) (show 4 < w.heap.size by omega)).trans e⟩
  · obtain ⟨t, fr, e⟩ := h.mark
    exact ⟨t, fr, (hb.block 1 (show 1 < w.heap.size by omega)).trans e⟩
theorem parseInt_bad (s : ByteArray) (w : World) (hs : s.size ≤ 8000) (hE : Env w) (h : ∀ v, Lib.parseIntB 64 s.data.toList ≠ .ok v) :
    Calls Tryd.prog 82 #[.string s, .int .i64 10, .int .i64 64] w fun e w' => ∃ x N, e = .returned (.tuple #[.int .i64 x, .iface 114 (.pointer (some ⟨N, 0, none⟩))]) ∧ Below w.heap.size w w' := by
  obtain ⟨tp, p, e1⟩ := hE.bad
  obtain ⟨tq, q, e2⟩ := hE.big
  rcases hp : Lib.parseIntB 64 s.data.toList with v | _ | _
  · exact absurd hp (h v)
  · refine (Any.strconv_ParseInt_10_at64_syntax laysPI s (by omega) hp (.iface tp p) w e1 (.inr ⟨tp, p, rfl⟩)).mono ?_
    rintro e w' ⟨N, rfl, _, _, hb⟩
    exact ⟨_, N, rfl, hb⟩
  · refine (Any.strconv_ParseInt_10_at64_range laysPI s (by omega) hp (.iface tq q) w e2 (.inr ⟨tq, q, rfl⟩)).mono ?_
    rintro e w' ⟨N, rfl, _, _, hb⟩
    exact ⟨_, N, rfl, hb⟩
theorem parseInt_good (s : ByteArray) (w : World) (hs : s.size ≤ 8000) (v : Int) (h : Lib.parseIntB 64 s.data.toList = .ok v) :
    Calls Tryd.prog 82 #[.string s, .int .i64 10, .int .i64 64] w fun e w' => e = .returned (.tuple #[.int .i64 v, .nilIface]) ∧ Below w.heap.size w w' := by
  refine (Any.strconv_ParseInt_10_at64_ok laysPI s (by omega) v h w).mono ?_
  rintro e w' ⟨rfl, rfl | ⟨t, rfl⟩⟩
  · exact ⟨rfl, Below.refl _ _⟩
  · exact ⟨rfl, Joins.below_bytesWorld _ _ _ _ (Nat.le_refl _)⟩
theorem extract_take (s : ByteArray) (k : Nat) : (s.extract 0 k).data.toList = s.data.toList.take k := by
  have h := extract_list s 0 k
  rw [Nat.zero_add, List.drop_zero] at h
  exact h
set_option maxRecDepth 20000 in
set_option maxHeartbeats 1000000 in
theorem readNumber_any (s : ByteArray) (w : World) (hs : s.size ≤ 8000) (hp : 0 < s.size) (hd : dig (s[0].toNat : Int) = true) (hE : Env w) :
    Calls Tryd.prog 65 #[.string s] w fun e w' => e = .returned (oneV (numOne s.data.toList) 0) ∧ Below w.heap.size w w' := by
  have hms : s.size ≤ maxLen := by unfold maxLen; omega
  have HN := hid (num_parse s.data.toList s[0] s.data.toList.tail (head_eq s hp) hd)
  have hk2 := run_le letB s.data.toList
  have hk1 : 1 ≤ run letB s.data.toList := by rw [head_eq s hp]; exact run_pos _ _ _ (dig_let hd)
  have HX := hid (extract_take s (run letB s.data.toList))
  have HTK : Hid (s.data.toList.take 1 = [s[0]]) := by show _ = _; rw [head_eq s hp]; rfl
  rw [len_size] at hk2
  generalize hK : run letB s.data.toList = k at *
  have HK := hid hK
  clear hK
  have HSZ : Hid ((s.extract 0 k).size ≤ 8000) := by show _ ≤ _; simp; omega
  have HEn : Hid (∀ X : Obj, Env (w.alloc X)) := fun X => hE.below ((Below.refl _ _).alloc (Nat.le_refl _) _)
  clear hE hd
  by_cases hg : ∃ v, Lib.parseIntB 64 (s.data.toList.take k) = .ok v
  · obtain ⟨v, hv⟩ := hg
    obtain ⟨h1, h2, h3⟩ := HN.out.1 v hv
    have HPV : Hid (Lib.parseIntB 64 (s.extract 0 k).data.toList = .ok v) := by show _ = _; rw [HX.out]; exact hv
    clear HN hv
    by_cases z : s[0].toNat = 48 ∧ 1 < k
    · have HE := hid (oneV_bad (num_bad s.data.toList k h1 (.inr (.inl ⟨by rw [HTK.out]; exact (sing48 _).2 z.1, z.2⟩))) (by decide) 0)
      have z1 : ((s[0].toNat : Int) == 48) = true := by rw [beq_iff_eq]; omega
      have z2 : 1 < (k : Int) := by omega
      clear z h1 h2 h3
      go_enter Tryd.func65, Tryd.ntmps65
      go_wp2_with (first
        | (go_at_call 81; refine (nameSize_any s _ hms).mono ?_; rintro e w' ⟨rfl, hw⟩; have hw2 := hw.symm; clear hw; subst hw2; rw [HK.out])
        | (go_at_call 82; refine (parseInt_good _ _ HSZ.out v HPV.out).mono ?_; rintro e w1 ⟨rfl, hb⟩; have HB := hid hb; obtain ⟨⟨k0, k1, k2, k3⟩, ⟨k4, k5, k6, k7⟩⟩ := tok_cells (hb.mono (by simp)); clear hb))
      refine bodyPost_ret (v := .tuple #[.agg #[.int .i64 0, .string ⟨#[]⟩, .int .i64 0, .int .i64 0], .int .i64 0, .int .i64 3]) (by simp [results, Tryd.results65, go_sem, k0, k1, k2, k3]) rfl ⟨by rw [HE.out]; rfl, ?_⟩
      exact below_set4 (below_tok (HB.out.mono (by simp)))
    · have HE := hid (oneV_good (num_good s.data.toList k h1 HK.out (by rw [HTK.out]; rintro ⟨a, b⟩; exact z ⟨(sing48 _).1 a, b⟩) h3) 0)
      have HV2 := hid h2
      clear h1 h2 h3
      by_cases z1 : s[0].toNat = 48
      · have z1' : ((s[0].toNat : Int) == 48) = true := by rw [beq_iff_eq]; omega
        have z2 : (k : Int) ≤ 1 := by omega
        clear z z1
        go_enter Tryd.func65, Tryd.ntmps65
        go_wp2_with (first
          | (go_at_call 81; refine (nameSize_any s _ hms).mono ?_; rintro e w' ⟨rfl, hw⟩; have hw2 := hw.symm; clear hw; subst hw2; rw [HK.out])
          | (go_at_call 82; refine (parseInt_good _ _ HSZ.out v HPV.out).mono ?_; rintro e w1 ⟨rfl, hb⟩; have HB := hid hb; obtain ⟨⟨k0, k1, k2, k3⟩, ⟨k4, k5, k6, k7⟩⟩ := tok_cells (hb.mono (by simp)); clear hb))
        refine bodyPost_ret (v := .tuple #[.agg #[.int .i64 3, .string ⟨#[]⟩, .int .i64 v, .int .i64 0], .int .i64 k, .int .i64 0]) (by simp [results, Tryd.results65, go_sem, k0, k1, k2, k3]) rfl ⟨by rw [HE.out, HV2.out]; simp, ?_⟩
        exact below_set4 (below_tok (HB.out.mono (by simp)))
      · have z1' : ((s[0].toNat : Int) == 48) = false := by rw [beq_eq_false_iff_ne]; omega
        clear z z1
        go_enter Tryd.func65, Tryd.ntmps65
        go_wp2_with (first
          | (go_at_call 81; refine (nameSize_any s _ hms).mono ?_; rintro e w' ⟨rfl, hw⟩; have hw2 := hw.symm; clear hw; subst hw2; rw [HK.out])
          | (go_at_call 82; refine (parseInt_good _ _ HSZ.out v HPV.out).mono ?_; rintro e w1 ⟨rfl, hb⟩; have HB := hid hb; obtain ⟨⟨k0, k1, k2, k3⟩, ⟨k4, k5, k6, k7⟩⟩ := tok_cells (hb.mono (by simp)); clear hb))
        refine bodyPost_ret (v := .tuple #[.agg #[.int .i64 3, .string ⟨#[]⟩, .int .i64 v, .int .i64 0], .int .i64 k, .int .i64 0]) (by simp [results, Tryd.results65, go_sem, k0, k1, k2, k3]) rfl ⟨by rw [HE.out, HV2.out]; simp, ?_⟩
        exact below_set4 (below_tok (HB.out.mono (by simp)))
  · have HE := hid (oneV_bad (HN.out.2 (fun v hv => hg ⟨v, hv⟩)) (by decide) 0)
    have HPV : Hid (∀ v, Lib.parseIntB 64 (s.extract 0 k).data.toList ≠ .ok v) := fun v hv => hg ⟨v, by rw [← HX.out]; exact hv⟩
    clear HN hg
    go_enter Tryd.func65, Tryd.ntmps65
    go_wp2_with (first
      | (go_at_call 81; refine (nameSize_any s _ hms).mono ?_; rintro e w' ⟨rfl, hw⟩; have hw2 := hw.symm; clear hw; subst hw2; rw [HK.out])
      | (go_at_call 82; refine (parseInt_bad _ _ HSZ.out (HEn.out _) HPV.out).mono ?_; rintro e w1 ⟨x, N, rfl, hb⟩; have HB := hid hb; obtain ⟨⟨k0, k1, k2, k3⟩, ⟨k4, k5, k6, k7⟩⟩ := tok_cells (hb.mono (by simp)); clear hb))
    refine bodyPost_ret (v := .tuple #[.agg #[.int .i64 0, .string ⟨#[]⟩, .int .i64 0, .int .i64 0], .int .i64 0, .int .i64 3]) (by simp [results, Tryd.results65, go_sem, k0, k1, k2, k3]) rfl ⟨by rw [HE.out]; rfl, ?_⟩
    exact below_set4 (below_tok (HB.out.mono (by simp)))
end Go.Proofs.YtdhcjmlcpnljiaaDoor
