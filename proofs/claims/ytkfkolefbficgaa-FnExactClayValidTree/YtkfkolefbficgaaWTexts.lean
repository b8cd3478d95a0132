import Derived.Test.YtkfkolefbficgaaWAre
import Derived.Maps.OwnSet
import Derived.Maps.Views
import Derived.StringKeys
namespace Go.Proofs.Ytkfkolefbficgaa
open Go.RowKit Go.Maps Go.WideMaps
set_option maxRecDepth 20000
def keyL (t : ByteArray) : Lit := .string t.data.toList
theorem keyL_ne {a b : ByteArray} (h : ¬ a = b) : keyL a ≠ keyL b := fun e => h (ByteArray.ext (Array.toList_inj.1 (by injection e)))
/-- The set behind j texts. -/
def TxInv (D : DataW Unit) (j : Nat) (st : Nat → Nd) : Prop := (∀ t, Maps.has D (keyL t) = true ↔ ∃ i, i < j ∧ (st i).text = t) ∧ Maps.size D ≤ j ∧ (Maps.size D = j ↔ Apart j st)
theorem TxInv_zero (st : Nat → Nd) : TxInv (.map []) 0 st :=
  ⟨fun t => ⟨fun h => by simp [Maps.has_eq] at h, fun ⟨i, h, _⟩ => absurd h (Nat.not_lt_zero _)⟩, Nat.le_refl _, fun _ i h => absurd h (Nat.not_lt_zero _), fun _ => rfl⟩
theorem TxInv_succ {D : DataW Unit} {j : Nat} {st : Nat → Nd} (hT : Tidy D) (h : TxInv D j st) : TxInv (D.put (keyL (st j).text) (.agg [])) (j + 1) st := by
  obtain ⟨h1, h2, h3⟩ := h
  have hs := Maps.size_put (k := keyL (st j).text) hT (.agg [])
  refine ⟨fun t => ?_, ?_, ?_⟩
  · by_cases e : (st j).text = t
    · subst e
      exact ⟨fun _ => ⟨j, by omega, rfl⟩, fun _ => Maps.has_put_same hT.isMap (by simp [keyL, WideAt.IsKeyLit]) _⟩
    · rw [Maps.has_put_other (keyL_ne fun h => e h.symm), h1]
      constructor
      · rintro ⟨i, hi, he⟩; exact ⟨i, by omega, he⟩
      · rintro ⟨i, hi, he⟩
        rcases Nat.lt_or_eq_of_le (Nat.lt_succ_iff.1 hi) with h | h
        · exact ⟨i, h, he⟩
        · subst h; exact absurd he e
  · rw [hs]; split <;> omega
  · rw [hs]
    by_cases hh : Maps.has D (keyL (st j).text) = true
    · rw [if_pos hh]
      constructor
      · intro e; omega
      · intro ha
        obtain ⟨i, hi, he⟩ := (h1 _).1 hh
        exact absurd he (ha j (by omega) i hi)
    · rw [if_neg hh]
      constructor
      · intro e i hi k hk
        rcases Nat.lt_or_eq_of_le (Nat.lt_succ_iff.1 hi) with h | h
        · exact h3.1 (by omega) i h k hk
        · subst h
          exact fun e => hh ((h1 _).2 ⟨k, hk, e⟩)
      · intro ha
        rw [h3.2 (fun i hi k hk => ha i (by omega) k hk)]
set_option maxHeartbeats 1000000 in
theorem textsDiffer_any (g o m c : Nat) (st : Nat → Nd) (sh : Nat → Nat) (w : World) (hm : m ≤ 5000) (hx : ∀ i, i < m → (st i).text.size ≤ maxLen) (hg : g < w.heap.size) (hs : StandAt w g o m st sh) :
    Calls Try.prog 30 #[.slice (some ⟨g, o, none⟩) m c] w fun e w' => Says e (Apart m st) ∧ Below w.heap.size w w' := by
  have HS := hid hs
  have HX := hid hx
  clear hs hx
  have hmm := @run_makeMap Try.prog
  go_enter Try.func30, Try.ntmps30
  go_wp2
  go_loopw [9] (fun i wr => ∃ (j : Nat) (D : DataW Unit), j ≤ m ∧ i = .int .i64 j ∧ wr.ownsMap Try.prog 9 unitElem w.heap.size j D ∧ TxInv D j st ∧ Below w.heap.size w wr) (fun i _ => m - (intOf i).toNat)
  case atStart => exact ⟨0, .map [], Nat.zero_le _, rfl, World.ownsMap_made _ _ _ _, TxInv_zero st, (Below.refl _ _).alloc (Nat.le_refl _) _⟩
  case round =>
    obtain ⟨j, D, hj, rfl, hown, hinv, hbw⟩ := hrel
    have HBW := hid hbw
    have HINV := hid hinv
    have HOWN := hid hown
    clear hbw hinv hown
    by_cases hlt : j < m
    · obtain ⟨a0, a1, a2, a3, a4, a5⟩ := (HS.out.below HBW.out hg) j hlt
      have hT := HOWN.out.tidy (string_keyed Try.underlying9)
      have HN := hid (TxInv_succ hT HINV.out)
      obtain ⟨w1, hrun, hown1, hgrow1⟩ := (HOWN.out.alloc (.cells #[.int .i64 (st j).kind, .int .i64 (st j).op, .int .i64 (st j).n, .string (st j).text, .int .i64 (st j).kids, .int .i64 (sh j)] 51)).update (string_keyed Try.underlying9) Try.underlying71 (by unfold maxLen; omega) (keyOf_string_mk Try.underlying9 (HX.out j hlt)) unitElem_mk
      have HO1 := hid hown1
      have HB1 := hid ((HBW.out.alloc HBW.out.size _).grown hgrow1 (by have := HBW.out.size; simp; omega) (fun k e => by injection e with e; omega))
      clear hown1 hgrow1 hT
      go_wp2
      go_roundw
      case rel => exact ⟨j + 1, _, by omega, by go_num, HO1.out, HN.out, HB1.out⟩
      case measure => simp [intOf]; omega
    · obtain rfl : j = m := by omega
      have hlen := HOWN.out.len Try.underlying71
      by_cases hq : Maps.size D = j
      · have HQ := hid (HINV.out.2.2.1 hq)
        have hq' : ((Maps.size D : Int) == (j : Int)) = true := by rw [beq_iff_eq]; omega
        clear hq
        go_wp2
        go_ret
        exact ⟨says_t HQ.out, HBW.out⟩
      · have HQ := hid (fun h => hq (HINV.out.2.2.2 h))
        have hq' : ((Maps.size D : Int) == (j : Int)) = false := by rw [beq_eq_false_iff_ne]; omega
        clear hq
        go_wp2
        go_ret
        exact ⟨says_f HQ.out, HBW.out⟩
set_option maxHeartbeats 1000000 in
theorem textsDiffer_none (ad : Option Addr) (c : Nat) (w : World) :
    Calls Try.prog 30 #[.slice ad 0 c] w fun e w' => e = .returned (.bool true) ∧ Below w.heap.size w w' := by
  have hmm := @run_makeMap Try.prog
  go_enter Try.func30, Try.ntmps30
  go_wp2
  go_loopw [9] (fun i wr => i = .int .i64 0 ∧ wr = w.alloc (.map #[] 0)) (fun _ _ => 0)
  case atStart => exact ⟨rfl, rfl⟩
  case round =>
    obtain ⟨rfl, rfl⟩ := hrel
    have hlen := (World.ownsMap_made (H := Unit) w Try.prog 9 unitElem).len Try.underlying71
    rw [Maps.size_eq] at hlen
    go_wp2
    go_ret
    exact ⟨rfl, (Below.refl _ _).alloc (Nat.le_refl _) _⟩
theorem textsDiffer_all (ad : Option Addr) (m c : Nat) (st : Nat → Nd) (sh : Nat → Nat) (w : World) (hm : m ≤ 5000) (hx : ∀ i, i < m → (st i).text.size ≤ maxLen) (hs : StA w ad m st sh) :
    Calls Try.prog 30 #[.slice ad m c] w fun e w' => Says e (Apart m st) ∧ Below w.heap.size w w' := by
  rcases hs with rfl | ⟨g, o, rfl, h1, h2⟩
  · refine (textsDiffer_none ad c w).mono ?_
    rintro e w' ⟨rfl, hb⟩
    exact ⟨says_t (fun i h => absurd h (Nat.not_lt_zero _)), hb⟩
  · exact textsDiffer_any g o m c st sh w hm hx h1 h2
end Go.Proofs.Ytkfkolefbficgaa
