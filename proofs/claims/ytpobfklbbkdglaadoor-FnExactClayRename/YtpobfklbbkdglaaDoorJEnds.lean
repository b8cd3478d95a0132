import Derived.Test.YtpobfklbbkdglaaDoorJBound
import Derived.Test.YtpobfklbbkdglaaDoorJMath
import Derived.Test.YtpobfklbbkdglaaDoorJInts
namespace Go.Proofs.YtpobfklbbkdglaaDoor
open Go.RowKit
set_option maxRecDepth 20000
/-- What the check tells: the first fault. -/
def FaultI (nd : Nat → Nd) (N : Nat) (c a : Int) : Prop := (¬ ValidT nd N ∧ c = 11 ∧ a = 0) ∨
  ∃ o x, ValidT nd N ∧ kidsF nd N = some (o, [x]) ∧ ((∃ k d r, fls (treeE nd o N) = (k, d) :: r ∧ d ≠ 0 ∧ c = ((d : Nat) : Int) ∧ a = ((k : Nat) : Int)) ∨ (fls (treeE nd o N) = [] ∧ c = 0 ∧ a = 0))
theorem FaultI.unique {nd : Nat → Nd} {N : Nat} {c a c' a' : Int} (h : FaultI nd N c a) (h' : FaultI nd N c' a') : c = c' ∧ a = a' := by
  rcases h with ⟨h1, rfl, rfl⟩ | ⟨o, x, hv, ho, h2⟩
  · rcases h' with ⟨_, rfl, rfl⟩ | ⟨o', x', hv', _⟩
    · exact ⟨rfl, rfl⟩
    · exact absurd hv' h1
  · rcases h' with ⟨h1, _⟩ | ⟨o', x', hv', ho', h2'⟩
    · exact absurd hv h1
    · rw [ho] at ho'
      injection ho' with e
      injection e with e1 _
      subst e1
      rcases h2 with ⟨k, d, r, e1, _, rfl, rfl⟩ | ⟨e1, rfl, rfl⟩
      · rcases h2' with ⟨k', d', r', e2, _, rfl, rfl⟩ | ⟨e2, _⟩
        · rw [e1] at e2
          injection e2 with e2 _
          injection e2 with e3 e4
          exact ⟨by rw [e4], by rw [e3]⟩
        · rw [e1] at e2; cases e2
      · rcases h2' with ⟨k', d', r', e2, _⟩ | ⟨_, rfl, rfl⟩
        · rw [e1] at e2; cases e2
        · exact ⟨rfl, rfl⟩
theorem code_pos {nd : Nat → Nd} {N x : Nat} {o : List (List Nat)} (hv : ValidT nd N) (ho : kidsF nd N = some (o, [x])) {k c : Nat} {r : List (Nat × Nat)} (h : fls (treeE nd o N) = (k, c) :: r) : c ≠ 0 := by
  obtain ⟨h1, _, h3, o', x', ho', hf⟩ := hv
  rw [ho] at ho'
  injection ho' with e
  injection e with e1 _
  subst e1
  have h1 := (srt_tree ho h1 (fun i hi => (hf i hi).2) h3).2 (k, c) (by rw [h]; simp)
  simp only at h1
  omega
theorem faultI_of {nd : Nat → Nd} {N : Nat} {c a : Int} (h : CheckR nd N c a) : FaultI nd N c a := by
  rcases h with h | ⟨o, x, hv, ho, cf, hok, h⟩
  · exact .inl h
  · refine .inr ⟨o, x, hv, ho, ?_⟩
    obtain ⟨h1, _, h3, o', x', ho', hf⟩ := id hv
    rw [ho] at ho'
    injection ho' with e
    injection e with e1 _
    subst e1
    have hs := first_same ho h1 (fun i hi => (hf i hi).2) h3 hok
    cases hfl : fls (treeE nd o N) with
    | nil =>
      have h0 := hs.1 hfl
      rcases h with ⟨_, rfl, rfl⟩ | ⟨i, hi, hc, _⟩
      · exact .inr ⟨rfl, rfl, rfl⟩
      · exact absurd (h0 i) hc
    | cons y l =>
      obtain ⟨k, d⟩ := y
      obtain ⟨hk, hc, hd, hlow⟩ := hs.2 k d l hfl
      refine .inl ⟨k, d, l, rfl, hd, ?_⟩
      rcases h with ⟨hz, _⟩ | ⟨i, hi, hci, hl2, rfl, rfl⟩
      · exact absurd (hz k hk) (by rw [hc]; exact hd)
      · have : i = k := by
          rcases Nat.lt_trichotomy i k with h | h | h
          · exact absurd (hlow i h) hci
          · exact h
          · exact absurd (hl2 k h) (by rw [hc]; exact hd)
        subst this
        exact ⟨by rw [hc], rfl⟩
/-- What the binding tells: none, or a row of N. -/
def BindI (nd : Nat → Nd) (N : Nat) (M : Nat) (bn : Nat → Int) : Prop := (M = 0 ∧ ¬ FaultI nd N 0 0) ∨ (M = N ∧ ∃ o x, ValidT nd N ∧ kidsF nd N = some (o, [x]) ∧ fls (treeE nd o N) = [] ∧ bn = apB (fun _ => -1) (treeE nd o N))
theorem BoundEnd.fault {nd : Nat → Nd} {N : Nat} {w w' : World} {e : Ending} (h : BoundEnd nd N w w' e) : Below w.heap.size w w' ∧ ∃ ad M c a bn, e = .returned (.tuple #[.slice ad M M, .agg #[.int .i64 c, .int .i64 a]]) ∧ FaultI nd N c a ∧ IntsA w' ad M bn ∧ BindI nd N M bn ∧ (M ≠ 0 → ∃ g, ad = some ⟨g, 0, none⟩ ∧ w.heap.size ≤ g) ∧ M ≤ N := by
  obtain ⟨hb, h⟩ := h
  refine ⟨hb, ?_⟩
  rcases h with ⟨hv, rfl⟩ | ⟨o, x, hv, ho, h⟩
  · have hf : FaultI nd N 11 0 := .inl ⟨hv, rfl, rfl⟩
    exact ⟨none, 0, 11, 0, fun _ => 0, rfl, hf, .inl rfl, .inl ⟨rfl, fun h => by have := (hf.unique h).1; omega⟩, fun h => absurd rfl h, Nat.zero_le _⟩
  · rcases h with ⟨k, c, r, hfl, rfl⟩ | ⟨hfl, gb, rfl, hg, hbn⟩
    · have hc := code_pos hv ho hfl
      have hf : FaultI nd N (c : Nat) (k : Nat) := .inr ⟨o, x, hv, ho, .inl ⟨k, c, r, hfl, hc, rfl, rfl⟩⟩
      exact ⟨none, 0, (c : Nat), (k : Nat), fun _ => 0, rfl, hf, .inl rfl, .inl ⟨rfl, fun h => by have := (hf.unique h).1; omega⟩, fun h => absurd rfl h, Nat.zero_le _⟩
    · have hf : FaultI nd N 0 0 := .inr ⟨o, x, hv, ho, .inr ⟨hfl, rfl, rfl⟩⟩
      obtain ⟨cur, h1, h2, h3⟩ := hbn
      exact ⟨some ⟨gb, 0, none⟩, N, 0, 0, _, rfl, hf, .inr ⟨gb, cur, rfl, h1, h3⟩, .inr ⟨rfl, o, x, hv, ho, hfl, rfl⟩, fun _ => ⟨gb, rfl, hg⟩, Nat.le_refl _⟩
theorem fault_row {w w1 : World} {b N cap : Nat} {c a : Int} (hb : Below (w.heap.size + 2) ((w.alloc (.cells #[.slice (some ⟨b, 0, none⟩) N cap] 31)).alloc (.cells #[.int .i64 0, .int .i64 0] 27)) w1) :
    (w1.alloc (.cells #[.int .i64 c, .int .i64 a] 27)).heap[w.heap.size + 1]? = some (.cells #[.int .i64 0, .int .i64 0] 27 (0, 0)) := by
  have hs := hb.size
  simp at hs
  rw [Below.heap_alloc _ _ _ (by omega), hb.block _ (by omega)]
  have := heap_alloc_new (w.alloc (.cells #[.slice (some ⟨b, 0, none⟩) N cap] 31)) (.cells #[.int .i64 0, .int .i64 0] 27)
  rw [World.size_alloc] at this
  exact this
set_option maxHeartbeats 2000000 in
theorem implCheck_any (b N cap : Nat) (nd : Nat → Nd) (w : World) (hN : N ≤ 1048576) (hb : b < w.heap.size) (hn : NodesAt w b N nd) (hx : ∀ i, i < N → (nd i).text.size ≤ maxLen) (hE : BEnv w) :
    Calls Tryd.prog 10 #[.agg #[.slice (some ⟨b, 0, none⟩) N cap]] w fun e w' => (∃ c a, e = .returned (.agg #[.int .i64 c, .int .i64 a]) ∧ FaultI nd N c a) ∧ Below w.heap.size w w' := by
  have HA : Hid (Below w.heap.size w ((w.alloc (.cells #[.slice (some ⟨b, 0, none⟩) N cap] 31)).alloc (.cells #[.int .i64 0, .int .i64 0] 27))) := ((Below.refl _ _).alloc (Nat.le_refl _) _).alloc (by simp) _
  have HN := hid (hn.below HA.out hb)
  have HX := hid hx
  have HE := hid (hE.below HA.out hE.pos)
  clear hn hx hE
  go_enter Tryd.func10, Tryd.ntmps10
  go_wp2_with fail
  refine (bound_any b N cap nd _ hN (by simp; omega) HN.out HX.out HE.out).mono ?_
  intro e w1 he
  obtain ⟨hb1, ad, M, c, a, bn, rfl, hf, -⟩ := he.fault
  have HF := hid hf
  have hsz : w.heap.size + 2 ≤ w1.heap.size := by have := hb1.size; simp at this; omega
  have hF4 := fault_row (c := c) (a := a) (hb1.mono (by simp))
  obtain ⟨r0, r1, r2, r3⟩ := zero2 hF4
  obtain ⟨q1, q2⟩ := ret2 hF4 (.int .i64 c) (.int .i64 a)
  have HB : Hid (Below w.heap.size w (((w1.alloc (.cells #[.int .i64 c, .int .i64 a] 27)).setCell ⟨w.heap.size + 1, 0, none⟩ (.int .i64 c)).setCell ⟨w.heap.size + 1, 1, none⟩ (.int .i64 a))) := (((HA.out.trans (hb1.mono (by simp; omega))).alloc (by omega) _).setCell (p := ⟨w.heap.size + 1, 0, none⟩) (Nat.le_succ _) _).setCell (p := ⟨w.heap.size + 1, 1, none⟩) (Nat.le_succ _) _
  clear hb1 hf he hF4
  go_wp2
  clear r0 r1 r2 r3
  generalize ((w1.alloc (.cells #[.int .i64 c, .int .i64 a] 27)).setCell ⟨w.heap.size + 1, 0, none⟩ (.int .i64 c)).setCell ⟨w.heap.size + 1, 1, none⟩ (.int .i64 a) = w5 at *
  refine bodyPost_ret (v := .agg #[.int .i64 c, .int .i64 a]) (by simp [results, Tryd.results10, go_sem, q1, q2]) rfl ?_
  exact ⟨⟨c, a, rfl, HF.out⟩, HB.out⟩
set_option maxHeartbeats 2000000 in
theorem implBinds_any (b N cap : Nat) (nd : Nat → Nd) (w : World) (hN : N ≤ 1048576) (hb : b < w.heap.size) (hn : NodesAt w b N nd) (hx : ∀ i, i < N → (nd i).text.size ≤ maxLen) (hE : BEnv w) :
    Calls Tryd.prog 14 #[.agg #[.slice (some ⟨b, 0, none⟩) N cap]] w fun e w' => (∃ ad M bn, e = .returned (.slice ad M M) ∧ IntsA w' ad M bn ∧ BindI nd N M bn ∧ (M ≠ 0 → ∃ g, ad = some ⟨g, 0, none⟩ ∧ w.heap.size ≤ g) ∧ M ≤ N) ∧ Below w.heap.size w w' := by
  have HA : Hid (Below w.heap.size w (w.alloc (.cells #[.slice (some ⟨b, 0, none⟩) N cap] 31))) := (Below.refl _ _).alloc (Nat.le_refl _) _
  have HN := hid (hn.below HA.out hb)
  have HX := hid hx
  have HE := hid (hE.below HA.out hE.pos)
  clear hn hx hE
  go_enter Tryd.func14, Tryd.ntmps14
  go_wp2_with fail
  refine (bound_any b N cap nd _ hN (by simp; omega) HN.out HX.out HE.out).mono ?_
  intro e w1 he
  obtain ⟨hb1, ad, M, c, a, bn, rfl, -, hi, hbi, hg, hM⟩ := he.fault
  have hsz : w.heap.size + 1 ≤ w1.heap.size := by have := hb1.size; simpa using this
  have HI : Hid (IntsA (w1.alloc (.cells #[.int .i64 c, .int .i64 a] 27)) ad M bn) := by
    rcases hi with rfl | ⟨g, cur, rfl, h1, h2⟩
    · exact .inl rfl
    · exact .inr ⟨g, cur, rfl, (Below.heap_alloc _ _ _ (Array.getElem?_eq_some_iff.1 h1).1).trans h1, h2⟩
  have HBI := hid hbi
  have HG : Hid (M ≠ 0 → ∃ g, ad = some ⟨g, 0, none⟩ ∧ w.heap.size ≤ g) := fun h => by obtain ⟨g, h1, h2⟩ := hg h; exact ⟨g, h1, by simp at h2; omega⟩
  have HB := hid ((HA.out.trans (hb1.mono (by simp))).alloc (by omega) (.cells #[.int .i64 c, .int .i64 a] 27))
  clear hb1 hi hbi hg he
  go_wp2
  go_ret
  exact ⟨⟨ad, M, bn, rfl, HI.out, HBI.out, HG.out, hM⟩, HB.out⟩
theorem field_code (c a : Int) (W : World) : (Instr.field 27 (.agg #[.int .i64 c, .int .i64 a]) 0).run Tryd.prog W = .ok (.int .i64 c) W := by
  simp [go_sem, Instr.field, asAgg]
set_option maxHeartbeats 2000000 in
theorem specFits_any (b N cap : Nat) (nd : Nat → Nd) (w : World) (hN : N ≤ 1048576) (hb : b < w.heap.size) (hn : NodesAt w b N nd) (hx : ∀ i, i < N → (nd i).text.size ≤ maxLen) :
    Calls Tryd.prog 30 #[.agg #[.slice (some ⟨b, 0, none⟩) N cap]] w fun e w' => (∃ c a, e = .returned (.bool (decide (c = 0))) ∧ FaultI nd N c a) ∧ Below w.heap.size w w' := by
  have HA : Hid (Below w.heap.size w (w.alloc (.cells #[.slice (some ⟨b, 0, none⟩) N cap] 31))) := (Below.refl _ _).alloc (Nat.le_refl _) _
  have HN := hid (hn.below HA.out hb)
  have HX := hid hx
  clear hn hx
  go_enter Tryd.func30, Tryd.ntmps30
  go_wp2_with fail
  refine (specCheck_any b N cap nd _ hN (by simp; omega) HN.out HX.out).mono ?_
  rintro e w1 ⟨⟨c, a, rfl, hc⟩, hb1⟩
  have HF := hid (faultI_of hc)
  have HB := hid (HA.out.trans (hb1.mono (by simp)))
  clear hc hb1
  have hfc := field_code c a w1
  go_wp2
  go_ret
  exact ⟨⟨c, a, by simp; exact Bool.eq_iff_iff.2 (by simp), HF.out⟩, HB.out⟩
set_option maxHeartbeats 2000000 in
theorem specBinds_any (b N cap : Nat) (nd : Nat → Nd) (w : World) (hN : N ≤ 1048576) (hb : b < w.heap.size) (hn : NodesAt w b N nd) (hx : ∀ i, i < N → (nd i).text.size ≤ maxLen) :
    Calls Tryd.prog 13 #[.agg #[.slice (some ⟨b, 0, none⟩) N cap]] w fun e w' => (∃ ad M c bn, e = .returned (.slice ad M c) ∧ IntsA w' ad M bn ∧ BindI nd N M bn ∧ M ≤ N ∧ (M ≠ 0 → ∃ g, ad = some ⟨g, 0, none⟩ ∧ w.heap.size ≤ g)) ∧ Below w.heap.size w w' := by
  have HA : Hid (Below w.heap.size w (w.alloc (.cells #[.slice (some ⟨b, 0, none⟩) N cap] 31))) := (Below.refl _ _).alloc (Nat.le_refl _) _
  have HN := hid hn
  have HX := hid hx
  clear hn hx
  go_enter Tryd.func13, Tryd.ntmps13
  go_wp2_with fail
  refine (specFits_any b N cap nd _ hN (by simp; omega) (HN.out.below HA.out hb) HX.out).mono ?_
  rintro e w1 ⟨⟨c, a, rfl, hc⟩, hb1⟩
  have HC := hid hc
  have HB1 := hid (HA.out.trans (hb1.mono (by simp)))
  have hw1 : w.heap.size < w1.heap.size := by have := hb1.size; simp at this; omega
  have t1 : w1.cell? ⟨w.heap.size, 0, none⟩ = some (.slice (some ⟨b, 0, none⟩) N cap) := by
    rw [hb1.cell (p := ⟨w.heap.size, 0, none⟩) (by simp)]
    exact cell_new_row w _ _ 0
  clear hc hb1
  by_cases h0 : c = 0
  · subst h0
    rw [decide_eq_true rfl]
    obtain ⟨o, x, hv, ho, hfl⟩ : ∃ o x, ValidT nd N ∧ kidsF nd N = some (o, [x]) ∧ fls (treeE nd o N) = [] := by
      rcases HC.out with ⟨_, h, _⟩ | ⟨o, x, hv, ho, ⟨k, d, r, _, hd, h, _⟩ | ⟨h, _⟩⟩
      · omega
      · omega
      · exact ⟨o, x, hv, ho, h⟩
    have HV := hid hv
    have HO := hid ho
    have HFL := hid hfl
    clear hv ho hfl
    go_wp2_with fail
    refine (l3Look_any b N cap nd o _ (Nat.lt_of_lt_of_le hb HB1.out.size) (HN.out.below HB1.out hb) HX.out HV.out x HO.out).mono ?_
    rintro e w2 ⟨wb, gc, gb, gk, b', cap', ck, cf, bn, rfl, hwb, hgc, hgb, hok, hbn, hg, hb2⟩
    have f3 : w2.cell? ⟨wb, 3, none⟩ = some (.slice (some ⟨gb, 0, none⟩) N N) := by unfold World.cell?; rw [hwb]; rfl
    have HFIN : Hid (IntsA w2 (some ⟨gb, 0, none⟩) N bn ∧ BindI nd N N bn ∧ Below w.heap.size w w2 ∧ w.heap.size ≤ gb) := by
      obtain ⟨h1, h2, h3, o', x', ho', hf⟩ := HV.out
      have ho := HO.out
      rw [ho] at ho'
      injection ho' with e
      injection e with e1 _
      subst e1
      have hfs := fun i hi => (hf i hi).2
      have e0 : fls (lookE nd o N) = [] := by
        cases hl : fls (lookE nd o N) with
        | nil => rfl
        | cons y l =>
          have : y ∈ fls (treeE nd o N) := (faults_same ho h1 hfs h3 y).2 (by rw [hl]; simp)
          rw [HFL.out] at this
          cases this
      have e1 := hbn e0
      rw [← binds_same ho h1 hfs h3 HFL.out] at e1
      obtain ⟨cur, u1, u2, u3⟩ := hgb
      exact ⟨.inr ⟨gb, cur, rfl, u1, u3⟩, .inr ⟨rfl, o, x, HV.out, ho, HFL.out, e1⟩, HB1.out.trans (hb2.mono HB1.out.size), Nat.le_trans HB1.out.size hg⟩
    clear hwb hgc hgb hok hbn hg hb2
    go_wp2
    go_ret
    exact ⟨⟨some ⟨gb, 0, none⟩, N, N, bn, rfl, HFIN.out.1, HFIN.out.2.1, Nat.le_refl _, fun _ => ⟨gb, rfl, HFIN.out.2.2.2⟩⟩, HFIN.out.2.2.1⟩
  · rw [decide_eq_false h0]
    have HNF : Hid (¬ FaultI nd N 0 0) := fun h => h0 (HC.out.unique h).1
    go_wp2
    go_ret
    exact ⟨⟨_, 0, _, fun _ => 0, rfl, .inl rfl, .inl ⟨rfl, HNF.out⟩, Nat.zero_le _, fun h => absurd rfl h⟩, HB1.out.alloc HB1.out.size _⟩
theorem BindI.unique {nd : Nat → Nd} {N M M' : Nat} {bn bn' : Nat → Int} (h : BindI nd N M bn) (h' : BindI nd N M' bn') : M = M' ∧ (M ≠ 0 → bn = bn') := by
  have hf : ∀ {M bn}, (M = N ∧ ∃ o x, ValidT nd N ∧ kidsF nd N = some (o, [x]) ∧ fls (treeE nd o N) = [] ∧ bn = apB (fun _ => -1) (treeE nd o N)) → FaultI nd N 0 0 := fun ⟨_, o, x, hv, ho, hfl, _⟩ => .inr ⟨o, x, hv, ho, .inr ⟨hfl, rfl, rfl⟩⟩
  rcases h with ⟨rfl, h⟩ | h
  · rcases h' with ⟨rfl, _⟩ | h'
    · exact ⟨rfl, fun h => absurd rfl h⟩
    · exact absurd (hf h') h
  · rcases h' with ⟨rfl, h'⟩ | h'
    · exact absurd (hf h) h'
    · obtain ⟨rfl, o, x, _, ho, _, rfl⟩ := h
      obtain ⟨rfl, o', x', _, ho', _, rfl⟩ := h'
      rw [ho] at ho'
      injection ho' with e
      injection e with e1 _
      subst e1
      exact ⟨rfl, fun _ => rfl⟩
end Go.Proofs.YtpobfklbbkdglaaDoor
