import Derived.Maps.OwnSet
import Derived.Maps.Views
import Derived.StringKeys
import Derived.Test.YtpobfklbbkdglaaDoorJKid
import Derived.Test.YtpobfklbbkdglaaDoorJPl
namespace Go.Proofs.YtpobfklbbkdglaaDoor
open Go.RowKit
set_option maxRecDepth 20000
/-- The six cells of a standing node. -/
def SixAt (W : World) (g o : Nat) (x : Nd) (h : Nat) : Prop :=
  W.cell? ⟨g, o, none⟩ = some (.int .i64 x.kind) ∧ W.cell? ⟨g, o + 1, none⟩ = some (.int .i64 x.op) ∧ W.cell? ⟨g, o + 2, none⟩ = some (.int .i64 x.n) ∧ W.cell? ⟨g, o + 3, none⟩ = some (.string x.text) ∧ W.cell? ⟨g, o + 4, none⟩ = some (.int .i64 x.kids) ∧ W.cell? ⟨g, o + 5, none⟩ = some (.int .i64 h)
theorem SixAt.below {W W' : World} {B g o h : Nat} {x : Nd} (hs : SixAt W g o x h) (hb : Below B W W') (hB : g < B) : SixAt W' g o x h := by
  obtain ⟨h0, h1, h2, h3, h4, h5⟩ := hs
  exact ⟨(hb.cell (p := ⟨g, _, none⟩) hB).trans h0, (hb.cell (p := ⟨g, _, none⟩) hB).trans h1, (hb.cell (p := ⟨g, _, none⟩) hB).trans h2, (hb.cell (p := ⟨g, _, none⟩) hB).trans h3, (hb.cell (p := ⟨g, _, none⟩) hB).trans h4, (hb.cell (p := ⟨g, _, none⟩) hB).trans h5⟩
/-- m standing nodes from place o of block g on. -/
def StandAt (W : World) (g o m : Nat) (st : Nat → Nd) (hi : Nat → Nat) : Prop := ∀ i, i < m → SixAt W g (o + i * 6) (st i) (hi i)
theorem StandAt.below {W W' : World} {B g o m : Nat} {st : Nat → Nd} {hi : Nat → Nat} (h : StandAt W g o m st hi) (hb : Below B W W') (hB : g < B) : StandAt W' g o m st hi := fun i hm => (h i hm).below hb hB
set_option maxHeartbeats 1000000 in
theorem highAbove_any (g o m c : Nat) (st : Nat → Nd) (hi : Nat → Nat) (w : World) (hm : m ≤ 5000) (hh : ∀ i, i < m → hi i ≤ 5000) (hg : g < w.heap.size) (hs : StandAt w g o m st hi) :
    Calls Tryd.prog 71 #[.slice (some ⟨g, o, none⟩) m c] w fun e w' => e = .returned (.int .i64 (upK ((List.range m).map hi))) ∧ Below w.heap.size w w' := by
  have HS := hid hs
  clear hs
  go_enter Tryd.func71, Tryd.ntmps71
  go_wp2
  go_loopw [3, 8] (fun h i wr => ∃ j : Nat, j ≤ m ∧ i = .int .i64 j ∧ h = .int .i64 (upK ((List.range j).map hi)) ∧ upK ((List.range j).map hi) ≤ 5001 ∧ Below w.heap.size w wr) (fun _ i _ => m - (intOf i).toNat)
  case atStart => exact ⟨0, Nat.zero_le _, rfl, rfl, by simp [upK], Below.refl _ _⟩
  case round =>
    obtain ⟨j, hj, rfl, rfl, hu, hbw⟩ := hrel
    have HBW := hid hbw
    clear hbw
    by_cases hlt : j < m
    · obtain ⟨a0, a1, a2, a3, a4, a5⟩ := (HS.out.below HBW.out hg) j hlt
      have HU : Hid (upK ((List.range (j + 1)).map hi) = max (upK ((List.range j).map hi)) (hi j + 1)) := by
        show _ = _
        rw [List.range_succ, List.map_append, ← upK_snoc]; rfl
      have hhj := hh j hlt
      generalize upK ((List.range j).map hi) = u at *
      go_wp2
      go_roundw
      case rel => exact ⟨j + 1, by omega, by go_num, by rw [HU.out]; congr 1; split <;> omega, by rw [HU.out]; omega, HBW.out.alloc HBW.out.size _⟩
      case measure => simp [intOf]; omega
    · obtain rfl : j = m := by omega
      go_wp2
      go_ret
      exact ⟨rfl, HBW.out⟩
set_option maxHeartbeats 400000 in
theorem highAbove_none (ad : Option Addr) (c : Nat) (w : World) :
    Calls Tryd.prog 71 #[.slice ad 0 c] w fun e w' => e = .returned (.int .i64 0) ∧ w' = w := by
  go_enter Tryd.func71, Tryd.ntmps71
  go_wp2
  go_loopw [3, 8] (fun h i wr => i = .int .i64 0 ∧ h = .int .i64 0 ∧ wr = w) (fun _ _ _ => 0)
  case atStart => exact ⟨rfl, rfl, rfl⟩
  case round =>
    obtain ⟨rfl, rfl, rfl⟩ := hrel
    go_wp2
    go_ret
    exact ⟨rfl, rfl⟩
/-- A slice of m standing nodes, by its address: nothing is asked where it is empty. -/
def StA (W : World) (ad : Option Addr) (m : Nat) (st : Nat → Nd) (hi : Nat → Nat) : Prop := m = 0 ∨ ∃ g o, ad = some ⟨g, o, none⟩ ∧ g < W.heap.size ∧ StandAt W g o m st hi
theorem StA.below {W W' : World} {ad : Option Addr} {m : Nat} {st : Nat → Nd} {hi : Nat → Nat} (h : StA W ad m st hi) (hb : Below W.heap.size W W') : StA W' ad m st hi := by
  rcases h with h | ⟨g, o, rfl, h1, h2⟩
  · exact .inl h
  · exact .inr ⟨g, o, rfl, Nat.lt_of_lt_of_le h1 hb.size, h2.below hb h1⟩
theorem highAbove_all (ad : Option Addr) (m c : Nat) (st : Nat → Nd) (hi : Nat → Nat) (w : World) (hm : m ≤ 5000) (hh : ∀ i, i < m → hi i ≤ 5000) (hs : StA w ad m st hi) :
    Calls Tryd.prog 71 #[.slice ad m c] w fun e w' => e = .returned (.int .i64 (upK ((List.range m).map hi))) ∧ Below w.heap.size w w' := by
  rcases hs with rfl | ⟨g, o, rfl, h1, h2⟩
  · refine (highAbove_none ad c w).mono ?_
    rintro e w' ⟨rfl, rfl⟩
    exact ⟨rfl, Below.refl _ _⟩
  · exact highAbove_any g o m c st hi w hm hh h1 h2
end Go.Proofs.YtpobfklbbkdglaaDoor
namespace Go.Proofs.YtpobfklbbkdglaaDoor
open Go.RowKit
set_option maxRecDepth 20000
theorem cell_alloc_lt (w : World) (X : Obj) (g o : Nat) (h : g < w.heap.size) : (w.alloc X).cell? ⟨g, o, none⟩ = w.cell? ⟨g, o, none⟩ := ((Below.refl (w.heap.size) w).alloc (Nat.le_refl _) X).cell (p := ⟨g, o, none⟩) h
/-- What IndexFunc owes: the first place at which P holds, or -1. -/
def FirstP (m : Nat) (P : Nat → Prop) (e : Ending) : Prop := (∃ i : Nat, i < m ∧ e = .returned (.int .i64 i) ∧ P i ∧ ∀ j, j < i → ¬ P j) ∨ e = .returned (.int .i64 (-1)) ∧ ∀ j, j < m → ¬ P j
theorem none_succ {P : Nat → Prop} {j : Nat} (h : ∀ i, i < j → ¬ P i) (hj : ¬ P j) : ∀ i, i < j + 1 → ¬ P i := fun i hi => by
  rcases Nat.lt_or_eq_of_le (Nat.lt_succ_iff.1 hi) with h1 | h1
  · exact h i h1
  · subst h1; exact hj
set_option maxHeartbeats 1000000 in
theorem indexKinds_any (ga gb g o m c : Nat) (lo hi : Int) (st : Nat → Nd) (sh : Nat → Nat) (w : World) (hm : m ≤ 5000) (hg : g < w.heap.size) (hs : StandAt w g o m st sh) (ha : w.cell? ⟨ga, 0, none⟩ = some (.int .i64 lo)) (hb : w.cell? ⟨gb, 0, none⟩ = some (.int .i64 hi)) (la : ga < w.heap.size) (lb : gb < w.heap.size) :
    Calls Tryd.prog 95 #[.slice (some ⟨g, o, none⟩) m c, .func (.func 94) #[] #[.pointer (some ⟨ga, 0, none⟩), .pointer (some ⟨gb, 0, none⟩)]] w fun e w' => FirstP m (fun i => (st i).kind < lo ∨ hi < (st i).kind) e ∧ Below w.heap.size w w' := by
  have HS := hid hs
  have HA0 := hid ha
  have HB0 := hid hb
  clear hs ha hb
  go_enter Tryd.func95, Tryd.ntmps95
  go_wp2
  go_loopw [8] (fun i wr => ∃ j : Nat, j ≤ m ∧ i = .int .i64 j ∧ (∀ i, i < j → ¬ ((st i).kind < lo ∨ hi < (st i).kind)) ∧ Below w.heap.size w wr) (fun i _ => m - (intOf i).toNat)
  case atStart => exact ⟨0, Nat.zero_le _, rfl, fun i h => absurd h (Nat.not_lt_zero _), Below.refl _ _⟩
  case round =>
    obtain ⟨j, hj, rfl, hin, hbw⟩ := hrel
    have HBW := hid hbw
    have HIN := hid hin
    clear hbw hin
    by_cases hlt : j < m
    · obtain ⟨a0, a1, a2, a3, a4, a5⟩ := (HS.out.below HBW.out hg) j hlt
      have HN := hid (HBW.out.alloc HBW.out.size (.cells #[.int .i64 (st j).kind, .int .i64 (st j).op, .int .i64 (st j).n, .string (st j).text, .int .i64 (st j).kids, .int .i64 (sh j)] 103))
      have ha' := (HN.out.cell (p := ⟨ga, 0, none⟩) la).trans HA0.out
      have hb' := (HN.out.cell (p := ⟨gb, 0, none⟩) lb).trans HB0.out
      by_cases c1 : (st j).kind < lo
      · have HC : Hid ((st j).kind < lo ∨ hi < (st j).kind) := .inl c1
        go_wp2
        go_ret
        exact ⟨.inl ⟨j, hlt, rfl, HC.out, HIN.out⟩, HN.out⟩
      · by_cases c2 : hi < (st j).kind
        · have HC : Hid ((st j).kind < lo ∨ hi < (st j).kind) := .inr c2
          go_wp2
          go_ret
          exact ⟨.inl ⟨j, hlt, rfl, HC.out, HIN.out⟩, HN.out⟩
        · have HX := hid (none_succ HIN.out (fun h => h.elim c1 c2))
          go_wp2
          go_roundw
          case rel => exact ⟨j + 1, by omega, by go_num, HX.out, HN.out⟩
          case measure => simp [intOf]; omega
    · obtain rfl : j = m := by omega
      go_wp2
      go_ret
      exact ⟨.inr ⟨rfl, HIN.out⟩, HBW.out⟩
set_option maxHeartbeats 400000 in
theorem index_none (ad : Option Addr) (c : Nat) (f : Value) (w : World) :
    Calls Tryd.prog 95 #[.slice ad 0 c, f] w fun e w' => e = .returned (.int .i64 (-1)) ∧ w' = w := by
  go_enter Tryd.func95, Tryd.ntmps95
  go_wp2
  go_loopw [8] (fun i wr => i = .int .i64 0 ∧ wr = w) (fun _ _ => 0)
  case atStart => exact ⟨rfl, rfl⟩
  case round =>
    obtain ⟨rfl, rfl⟩ := hrel
    go_wp2
    go_ret
    exact ⟨rfl, rfl⟩
theorem indexKinds_all (ga gb : Nat) (ad : Option Addr) (m c : Nat) (lo hi : Int) (st : Nat → Nd) (sh : Nat → Nat) (w : World) (hm : m ≤ 5000) (hs : StA w ad m st sh) (ha : w.cell? ⟨ga, 0, none⟩ = some (.int .i64 lo)) (hb : w.cell? ⟨gb, 0, none⟩ = some (.int .i64 hi)) (la : ga < w.heap.size) (lb : gb < w.heap.size) :
    Calls Tryd.prog 95 #[.slice ad m c, .func (.func 94) #[] #[.pointer (some ⟨ga, 0, none⟩), .pointer (some ⟨gb, 0, none⟩)]] w fun e w' => FirstP m (fun i => (st i).kind < lo ∨ hi < (st i).kind) e ∧ Below w.heap.size w w' := by
  rcases hs with rfl | ⟨g, o, rfl, h1, h2⟩
  · refine (index_none ad c _ w).mono ?_
    rintro e w' ⟨rfl, rfl⟩
    exact ⟨.inr ⟨rfl, fun j h => absurd h (Nat.not_lt_zero _)⟩, Below.refl _ _⟩
  · exact indexKinds_any ga gb g o m c lo hi st sh w hm h1 h2 ha hb la lb
theorem two_cells (w : World) (a b : Value) (t : TypeId) : ((w.alloc (.cells #[a] t)).alloc (.cells #[b] t)).cell? ⟨w.heap.size, 0, none⟩ = some a ∧ ((w.alloc (.cells #[a] t)).alloc (.cells #[b] t)).cell? ⟨w.heap.size + 1, 0, none⟩ = some b := by
  constructor
  · rw [cell_alloc_lt _ _ _ _ (by simp), cell_new_row]; rfl
  · have := cell_new_row (w.alloc (.cells #[a] t)) #[b] t 0
    rw [World.size_alloc] at this
    rw [this]; rfl
set_option maxHeartbeats 1000000 in
theorem containsKinds_any (ga gb : Nat) (ad : Option Addr) (m c : Nat) (lo hi : Int) (st : Nat → Nd) (sh : Nat → Nat) (w : World) (hm : m ≤ 5000) (hs : StA w ad m st sh) (ha : w.cell? ⟨ga, 0, none⟩ = some (.int .i64 lo)) (hb : w.cell? ⟨gb, 0, none⟩ = some (.int .i64 hi)) (la : ga < w.heap.size) (lb : gb < w.heap.size) :
    Calls Tryd.prog 93 #[.slice ad m c, .func (.func 94) #[] #[.pointer (some ⟨ga, 0, none⟩), .pointer (some ⟨gb, 0, none⟩)]] w fun e w' => Says e (∃ i, i < m ∧ ((st i).kind < lo ∨ hi < (st i).kind)) ∧ Below w.heap.size w w' := by
  have HS := hid hs
  have HA0 := hid ha
  have HB0 := hid hb
  clear hs ha hb
  go_enter Tryd.func93, Tryd.ntmps93
  go_wp2_with (go_at_call 95; refine (indexKinds_all ga gb ad m c lo hi st sh _ hm HS.out HA0.out HB0.out la lb).mono ?_; rintro e w' ⟨⟨i, hi1, rfl, hP, hno⟩ | ⟨rfl, hno⟩, hb2⟩)
  · have HP := hid hP
    clear hP
    go_ret
    exact ⟨says_t ⟨i, hi1, HP.out⟩, hb2⟩
  · go_ret
    exact ⟨says_f (fun ⟨i, h1, h2⟩ => hno i h1 h2), hb2⟩
set_option maxHeartbeats 1000000 in
theorem areKinds_any (ad : Option Addr) (m c : Nat) (lo hi : Int) (st : Nat → Nd) (sh : Nat → Nat) (w : World) (hm : m ≤ 5000) (hs : StA w ad m st sh) :
    Calls Tryd.prog 84 #[.slice ad m c, .int .i64 lo, .int .i64 hi] w fun e w' => Says e (∀ i, i < m → lo ≤ (st i).kind ∧ (st i).kind ≤ hi) ∧ Below w.heap.size w w' := by
  have HB2 := hid (((Below.refl w.heap.size w).alloc (Nat.le_refl _) (.cells #[.int .i64 lo] 3)).alloc (by simp) (.cells #[.int .i64 hi] 3))
  have HS := hid (hs.below HB2.out)
  have HTC := hid (two_cells w (.int .i64 lo) (.int .i64 hi) 3)
  clear hs
  go_enter Tryd.func84, Tryd.ntmps84
  go_wp2_with (go_at_call 93; refine (containsKinds_any _ _ ad m c lo hi st sh _ hm HS.out HTC.out.1 HTC.out.2 (by simp; omega) (by simp)).mono ?_; rintro e w' ⟨hs, hb2⟩; have HB3 := hid hb2; clear hb2; rcases hs.get with ⟨rfl, hP⟩ | ⟨rfl, hP⟩; all_goals (have HP := hid hP; clear hP hs))
  all_goals go_ret
  · exact ⟨says_f (fun h => by obtain ⟨i, h1, h2⟩ := HP.out; have := h i h1; omega), HB2.out.trans (HB3.out.mono (by simp; omega))⟩
  · exact ⟨says_t (fun i h1 => by by_cases c1 : (st i).kind < lo; exact absurd ⟨i, h1, .inl c1⟩ HP.out; by_cases c2 : hi < (st i).kind; exact absurd ⟨i, h1, .inr c2⟩ HP.out; omega), HB2.out.trans (HB3.out.mono (by simp; omega))⟩
set_option maxHeartbeats 1000000 in
theorem areE_any (ad : Option Addr) (m c : Nat) (lo hi : Int) (st : Nat → Nd) (sh : Nat → Nat) (w : World) (hm : m ≤ 5000) (hs : StA w ad m st sh) :
    Calls Tryd.prog 83 #[.slice ad m c, .int .i64 lo, .int .i64 hi] w fun e w' => Says e (lo ≤ m ∧ m ≤ hi ∧ AllE m st) ∧ Below w.heap.size w w' := by
  have HS := hid hs
  clear hs
  by_cases h1 : lo ≤ m
  · by_cases h2 : (m : Int) ≤ hi
    · go_enter Tryd.func83, Tryd.ntmps83
      go_wp2_with (go_at_call 84; refine (areKinds_any ad m c _ _ st sh _ hm HS.out).mono ?_; rintro e w' ⟨hs, hb2⟩; have HB3 := hid hb2; clear hb2; rcases hs.get with ⟨rfl, hP⟩ | ⟨rfl, hP⟩; all_goals (have HP := hid hP; clear hP hs))
      all_goals go_ret
      · exact ⟨says_t ⟨h1, h2, fun i hi => by have := HP.out i hi; unfold isE inR; simp; omega⟩, HB3.out⟩
      · exact ⟨says_f (fun h => HP.out fun i hi => by have := h.2.2 i hi; unfold isE inR at this; simp at this; omega), HB3.out⟩
    · go_enter Tryd.func83, Tryd.ntmps83
      go_wp2
      go_ret
      exact ⟨says_f (fun h => by omega), Below.refl _ _⟩
  · go_enter Tryd.func83, Tryd.ntmps83
    go_wp2
    go_ret
    exact ⟨says_f (fun h => by omega), Below.refl _ _⟩
end Go.Proofs.YtpobfklbbkdglaaDoor
namespace Go.Proofs.YtpobfklbbkdglaaDoor
open Go.RowKit Go.Maps Go.WideMaps
set_option maxRecDepth 20000
def keyL (t : ByteArray) : Lit := .string t.data.toList
theorem keyL_ne {a b : ByteArray} (h : ¬ a = b) : keyL a ≠ keyL b := fun e => h (ByteArray.ext (Array.toList_inj.1 (by injection e)))
/-- The set behind j texts. -/
def TxInv (D : DataW Unit) (j : Nat) (st : Nat → Nd) : Prop := (∀ t, Maps.has D (keyL t) = true ↔ ∃ i, i < j ∧ (st i).text = t) ∧ Maps.size D ≤ j ∧ (Maps.size D = j ↔ Apart j st)
theorem TxInv_zero (st : Nat → Nd) : TxInv (.map []) 0 st :=
  ⟨fun t => ⟨fun h => by simp [Maps.has_eq] at h, fun ⟨i, h, _⟩ => absurd h (Nat.not_lt_zero _)⟩, Nat.le_refl _, fun _ i h => absurd h (Nat.not_lt_zero _), fun _ => rfl⟩
theorem TxInv_succ {D : DataW Unit} {j : Nat} {st : Nat → Nd} (hT : Tidy D) (h : TxInv D j st) : TxInv (D.put (keyL (st j).text) (.agg [])) (j + 1) st := by
  obtain ⟨h1, h2, h3⟩ := h
  have hs := Maps.size_put (k := keyL (st j).text) hT (.agg [])
  refine ⟨fun t => ?_, ?_, ?_⟩
  · by_cases e : (st j).text = t
    · subst e
      exact ⟨fun _ => ⟨j, by omega, rfl⟩, fun _ => Maps.has_put_same hT.isMap (by simp [keyL, WideAt.IsKeyLit]) _⟩
    · rw [Maps.has_put_other (keyL_ne fun h => e h.symm), h1]
      constructor
      · rintro ⟨i, hi, he⟩; exact ⟨i, by omega, he⟩
      · rintro ⟨i, hi, he⟩
        rcases Nat.lt_or_eq_of_le (Nat.lt_succ_iff.1 hi) with h | h
        · exact ⟨i, h, he⟩
        · subst h; exact absurd he e
  · rw [hs]; split <;> omega
  · rw [hs]
    by_cases hh : Maps.has D (keyL (st j).text) = true
    · rw [if_pos hh]
      constructor
      · intro e; omega
      · intro ha
        obtain ⟨i, hi, he⟩ := (h1 _).1 hh
        exact absurd he (ha j (by omega) i hi)
    · rw [if_neg hh]
      constructor
      · intro e i hi k hk
        rcases Nat.lt_or_eq_of_le (Nat.lt_succ_iff.1 hi) with h | h
        · exact h3.1 (by omega) i h k hk
        · subst h
          exact fun e => hh ((h1 _).2 ⟨k, hk, e⟩)
      · intro ha
        rw [h3.2 (fun i hi k hk => ha i (by omega) k hk)]
set_option maxHeartbeats 1000000 in
theorem textsDiffer_any (g o m c : Nat) (st : Nat → Nd) (sh : Nat → Nat) (w : World) (hm : m ≤ 5000) (hx : ∀ i, i < m → (st i).text.size ≤ maxLen) (hg : g < w.heap.size) (hs : StandAt w g o m st sh) :
    Calls Tryd.prog 85 #[.slice (some ⟨g, o, none⟩) m c] w fun e w' => Says e (Apart m st) ∧ Below w.heap.size w w' := by
  have HS := hid hs
  have HX := hid hx
  clear hs hx
  have hmm := @run_makeMap Tryd.prog
  go_enter Tryd.func85, Tryd.ntmps85
  go_wp2
  go_loopw [9] (fun i wr => ∃ (j : Nat) (D : DataW Unit), j ≤ m ∧ i = .int .i64 j ∧ wr.ownsMap Tryd.prog 9 unitElem w.heap.size j D ∧ TxInv D j st ∧ Below w.heap.size w wr) (fun i _ => m - (intOf i).toNat)
  case atStart => exact ⟨0, .map [], Nat.zero_le _, rfl, World.ownsMap_made _ _ _ _, TxInv_zero st, (Below.refl _ _).alloc (Nat.le_refl _) _⟩
  case round =>
    obtain ⟨j, D, hj, rfl, hown, hinv, hbw⟩ := hrel
    have HBW := hid hbw
    have HINV := hid hinv
    have HOWN := hid hown
    clear hbw hinv hown
    by_cases hlt : j < m
    · obtain ⟨a0, a1, a2, a3, a4, a5⟩ := (HS.out.below HBW.out hg) j hlt
      have hT := HOWN.out.tidy (string_keyed Tryd.underlying9)
      have HN := hid (TxInv_succ hT HINV.out)
      obtain ⟨w1, hrun, hown1, hgrow1⟩ := (HOWN.out.alloc (.cells #[.int .i64 (st j).kind, .int .i64 (st j).op, .int .i64 (st j).n, .string (st j).text, .int .i64 (st j).kids, .int .i64 (sh j)] 103)).update (string_keyed Tryd.underlying9) Tryd.underlying121 (by unfold maxLen; omega) (keyOf_string_mk Tryd.underlying9 (HX.out j hlt)) unitElem_mk
      have HO1 := hid hown1
      have HB1 := hid ((HBW.out.alloc HBW.out.size _).grown hgrow1 (by have := HBW.out.size; simp; omega) (fun k e => by injection e with e; omega))
      clear hown1 hgrow1 hT
      go_wp2
      go_roundw
      case rel => exact ⟨j + 1, _, by omega, by go_num, HO1.out, HN.out, HB1.out⟩
      case measure => simp [intOf]; omega
    · obtain rfl : j = m := by omega
      have hlen := HOWN.out.len Tryd.underlying121
      by_cases hq : Maps.size D = j
      · have HQ := hid (HINV.out.2.2.1 hq)
        have hq' : ((Maps.size D : Int) == (j : Int)) = true := by rw [beq_iff_eq]; omega
        clear hq
        go_wp2
        go_ret
        exact ⟨says_t HQ.out, HBW.out⟩
      · have HQ := hid (fun h => hq (HINV.out.2.2.2 h))
        have hq' : ((Maps.size D : Int) == (j : Int)) = false := by rw [beq_eq_false_iff_ne]; omega
        clear hq
        go_wp2
        go_ret
        exact ⟨says_f HQ.out, HBW.out⟩
set_option maxHeartbeats 1000000 in
theorem textsDiffer_none (ad : Option Addr) (c : Nat) (w : World) :
    Calls Tryd.prog 85 #[.slice ad 0 c] w fun e w' => e = .returned (.bool true) ∧ Below w.heap.size w w' := by
  have hmm := @run_makeMap Tryd.prog
  go_enter Tryd.func85, Tryd.ntmps85
  go_wp2
  go_loopw [9] (fun i wr => i = .int .i64 0 ∧ wr = w.alloc (.map #[] 0)) (fun _ _ => 0)
  case atStart => exact ⟨rfl, rfl⟩
  case round =>
    obtain ⟨rfl, rfl⟩ := hrel
    have hlen := (World.ownsMap_made (H := Unit) w Tryd.prog 9 unitElem).len Tryd.underlying121
    rw [Maps.size_eq] at hlen
    go_wp2
    go_ret
    exact ⟨rfl, (Below.refl _ _).alloc (Nat.le_refl _) _⟩
theorem textsDiffer_all (ad : Option Addr) (m c : Nat) (st : Nat → Nd) (sh : Nat → Nat) (w : World) (hm : m ≤ 5000) (hx : ∀ i, i < m → (st i).text.size ≤ maxLen) (hs : StA w ad m st sh) :
    Calls Tryd.prog 85 #[.slice ad m c] w fun e w' => Says e (Apart m st) ∧ Below w.heap.size w w' := by
  rcases hs with rfl | ⟨g, o, rfl, h1, h2⟩
  · refine (textsDiffer_none ad c w).mono ?_
    rintro e w' ⟨rfl, hb⟩
    exact ⟨says_t (fun i h => absurd h (Nat.not_lt_zero _)), hb⟩
  · exact textsDiffer_any g o m c st sh w hm hx h1 h2
end Go.Proofs.YtpobfklbbkdglaaDoor
namespace Go.Proofs.YtpobfklbbkdglaaDoor
open Go.RowKit
set_option maxRecDepth 20000
theorem StandAt.front {W : World} {g o m f : Nat} {st : Nat → Nd} {sh : Nat → Nat} (h : StandAt W g o m st sh) (hf : f ≤ m) : StandAt W g o f st sh := fun i hi => h i (by omega)
theorem StandAt.back {W : World} {g o m f : Nat} {st : Nat → Nd} {sh : Nat → Nat} (h : StandAt W g o m st sh) : StandAt W g (o + f * 6) (m - f) (fun i => st (f + i)) (fun i => sh (f + i)) := fun i hi => by
  have := h (f + i) (by omega)
  rw [show o + (f + i) * 6 = o + f * 6 + i * 6 by omega] at this
  exact this
set_option maxHeartbeats 1000000 in
theorem fnFits_any (g o m c : Nat) (st : Nat → Nd) (sh : Nat → Nat) (w : World) (hm : m ≤ 5000) (h0 : 0 < m) (hcm : m ≤ c) (_hc : c ≤ maxLen) (hg : g < w.heap.size) (hs : StandAt w g o m st sh) :
    Calls Tryd.prog 87 #[.slice (some ⟨g, o, none⟩) m c] w fun e w' => Says e (1 ≤ m ∧ m ≤ 9 ∧ (∀ i, i + 1 < m → (st i).kind = 19) ∧ isE (st (m - 1)).kind = true) ∧ Below w.heap.size w w' := by
  obtain ⟨l, rfl⟩ : ∃ l, m = l + 1 := ⟨m - 1, by omega⟩
  have HF : Hid (StA w (some ⟨g, o, none⟩) l st sh) := .inr ⟨g, o, rfl, hg, hs.front (by omega)⟩
  have HK : Hid (∀ w', Below w.heap.size w w' → StA w' (some ⟨g, o + l * 6, none⟩) 1 (fun i => st (l + i)) (fun i => sh (l + i))) := fun w' hb => by
    have := hs.back (f := l)
    rw [Nat.add_sub_cancel_left] at this
    exact .inr ⟨g, _, rfl, Nat.lt_of_lt_of_le hg hb.size, this.below hb hg⟩
  clear hs
  by_cases h8 : l ≤ 8
  · go_enter Tryd.func87, Tryd.ntmps87
    go_wp2_with (first
      | (go_at_call 84; refine (areKinds_any (some ⟨g, o, none⟩) l c _ _ st sh _ (by omega) HF.out).mono ?_; rintro e w1 ⟨hs1, hb1⟩; have HB1 := hid hb1; clear hb1; rcases hs1.get with ⟨rfl, hP1⟩ | ⟨rfl, hP1⟩; all_goals (have HP1 := hid hP1; clear hP1 hs1))
      | (go_at_call 83; refine (areE_any (some ⟨g, o + l * 6, none⟩) 1 _ _ _ (fun i => st (l + i)) (fun i => sh (l + i)) _ (by omega) (HK.out _ HB1.out)).mono ?_; rintro e w2 ⟨hs2, hb2⟩; have HB2 := hid hb2; clear hb2; rcases hs2.get with ⟨rfl, hP2⟩ | ⟨rfl, hP2⟩; all_goals (have HP2 := hid hP2; clear hP2 hs2)))
    all_goals go_ret
    · exact ⟨says_t ⟨by omega, by omega, fun i hi => by have := HP1.out i (by omega); omega, HP2.out.2.2 0 (by omega)⟩, HB1.out.trans (HB2.out.mono HB1.out.size)⟩
    · refine ⟨says_f (fun h => HP2.out ⟨by omega, by omega, fun i hi => ?_⟩), HB1.out.trans (HB2.out.mono HB1.out.size)⟩
      obtain rfl : i = 0 := by omega
      exact h.2.2.2
    · exact ⟨says_f (fun h => HP1.out fun i hi => by have := h.2.2.1 i (by omega); omega), HB1.out⟩
  · go_enter Tryd.func87, Tryd.ntmps87
    go_wp2
    go_ret
    exact ⟨says_f (fun h => by omega), Below.refl _ _⟩
set_option maxHeartbeats 1000000 in
theorem fnFits_none (ad : Option Addr) (c : Nat) (w : World) :
    Calls Tryd.prog 87 #[.slice ad 0 c] w fun e w' => e = .returned (.bool false) ∧ w' = w := by
  go_enter Tryd.func87, Tryd.ntmps87
  go_wp2
  go_ret
  exact ⟨rfl, rfl⟩
end Go.Proofs.YtpobfklbbkdglaaDoor
namespace Go.Proofs.YtpobfklbbkdglaaDoor
open Go.RowKit
set_option maxRecDepth 20000
set_option maxHeartbeats 1000000 in
theorem indexNamed_any (g o m c : Nat) (st : Nat → Nd) (sh : Nat → Nat) (w : World) (hm : m ≤ 5000) (hg : g < w.heap.size) (hs : StandAt w g o m st sh) :
    Calls Tryd.prog 95 #[.slice (some ⟨g, o, none⟩) m c, .func (.func 96) #[] #[]] w fun e w' => FirstP m (fun i => (st i).kind = 18) e ∧ Below w.heap.size w w' := by
  have HS := hid hs
  clear hs
  go_enter Tryd.func95, Tryd.ntmps95
  go_wp2
  go_loopw [8] (fun i wr => ∃ j : Nat, j ≤ m ∧ i = .int .i64 j ∧ (∀ i, i < j → ¬ (st i).kind = 18) ∧ Below w.heap.size w wr) (fun i _ => m - (intOf i).toNat)
  case atStart => exact ⟨0, Nat.zero_le _, rfl, fun i h => absurd h (Nat.not_lt_zero _), Below.refl _ _⟩
  case round =>
    obtain ⟨j, hj, rfl, hin, hbw⟩ := hrel
    have HBW := hid hbw
    have HIN := hid hin
    clear hbw hin
    by_cases hlt : j < m
    · obtain ⟨a0, a1, a2, a3, a4, a5⟩ := (HS.out.below HBW.out hg) j hlt
      have HN := hid (HBW.out.alloc HBW.out.size (.cells #[.int .i64 (st j).kind, .int .i64 (st j).op, .int .i64 (st j).n, .string (st j).text, .int .i64 (st j).kids, .int .i64 (sh j)] 103))
      by_cases c1 : (st j).kind = 18
      · have HC := hid c1
        have hq : ((st j).kind == 18) = true := by rw [c1]; rfl
        clear c1
        go_wp2
        go_ret
        exact ⟨.inl ⟨j, hlt, rfl, HC.out, HIN.out⟩, HN.out⟩
      · have HX := hid (none_succ HIN.out c1)
        have hq : ((st j).kind == 18) = false := by rw [beq_eq_false_iff_ne]; exact c1
        clear c1
        go_wp2
        go_roundw
        case rel => exact ⟨j + 1, by omega, by go_num, HX.out, HN.out⟩
        case measure => simp [intOf]; omega
    · obtain rfl : j = m := by omega
      go_wp2
      go_ret
      exact ⟨.inr ⟨rfl, HIN.out⟩, HBW.out⟩
/-- What a call's kids owe. -/
def CallOk (m : Nat) (st : Nat → Nd) : Prop := ∃ f, 1 ≤ f ∧ f ≤ m ∧ m ≤ 9 ∧ AllE f st ∧ (∀ i, f ≤ i → i < m → (st i).kind = 18) ∧ Apart (m - f) (fun i => st (f + i))
theorem call_at {m f : Nat} {st : Nat → Nd} (hf : f ≤ m) (h1 : f < m → (st f).kind = 18) (h2 : ∀ i, i < f → ¬ (st i).kind = 18) : CallOk m st ↔ m ≤ 9 ∧ (1 ≤ f ∧ f ≤ 9 ∧ AllE f st) ∧ (∀ i, i < m - f → 18 ≤ (st (f + i)).kind ∧ (st (f + i)).kind ≤ 18) ∧ Apart (m - f) (fun i => st (f + i)) := by
  constructor
  · rintro ⟨f', a1, a2, a3, a4, a5, a6⟩
    have e : f' = f := by
      rcases Nat.lt_trichotomy f' f with h | h | h
      · exact absurd (a5 f' (Nat.le_refl _) (by omega)) (h2 f' h)
      · exact h
      · have b1 := a4 f h
        rw [h1 (by omega)] at b1
        exact absurd b1 (by decide)
    subst e
    exact ⟨a3, ⟨a1, by omega, a4⟩, fun i hi => by have := a5 (f' + i) (by omega) (by omega); omega, a6⟩
  · rintro ⟨a1, ⟨a2, a3, a4⟩, a5, a6⟩
    exact ⟨f, a2, hf, a1, a4, fun i h3 h4 => by have := a5 (i - f) (by omega); rw [show f + (i - f) = i by omega] at this; omega, a6⟩
set_option maxHeartbeats 2000000 in
theorem callFits_any (g o m c : Nat) (st : Nat → Nd) (sh : Nat → Nat) (w : World) (hm : m ≤ 5000) (hx : ∀ i, i < m → (st i).text.size ≤ maxLen) (h0 : 0 < m) (hcm : m ≤ c) (_hc : c ≤ maxLen) (hg : g < w.heap.size) (hs : StandAt w g o m st sh) :
    Calls Tryd.prog 86 #[.slice (some ⟨g, o, none⟩) m c] w fun e w' => Says e (CallOk m st) ∧ Below w.heap.size w w' := by
  have HX := hid hx
  have HS := hid hs
  have hc0 : ¬ c = 0 := by omega
  clear hs hx
  have HF : Hid (∀ f w', f ≤ m → Below w.heap.size w w' → StA w' (some ⟨g, o, none⟩) f st sh) := fun f w' hf hb => .inr ⟨g, o, rfl, Nat.lt_of_lt_of_le hg hb.size, (HS.out.front hf).below hb hg⟩
  have HK : Hid (∀ f w', Below w.heap.size w w' → StA w' (some ⟨g, o + f * 6, none⟩) (m - f) (fun i => st (f + i)) (fun i => sh (f + i))) := fun f w' hb => .inr ⟨g, _, rfl, Nat.lt_of_lt_of_le hg hb.size, HS.out.back.below hb hg⟩
  by_cases h9 : m ≤ 9
  · go_enter Tryd.func86, Tryd.ntmps86
    go_wp2_with (first
      | (go_at_call 95; refine (indexNamed_any g o m c st sh _ hm hg HS.out).mono ?_; rintro e w1 ⟨he, hb1⟩; have HB1 := hid hb1; clear hb1; rcases he with ⟨f, hf, rfl, hP1, hP2⟩ | ⟨rfl, hP2⟩; rotate_left; all_goals (first | (have HAT := hid (call_at (Nat.le_of_lt hf) (fun _ => hP1) hP2); clear hP1 hP2) | (have HAT := hid (call_at (Nat.le_refl m) (fun h => absurd h (Nat.lt_irrefl _)) hP2); clear hP2))))
    · rw [Nat.sub_self] at HAT
      by_cases hcc : c = m
      all_goals (go_wp2_with (first
        | (go_at_call 83; refine (areE_any (some ⟨g, o, none⟩) m c _ _ st sh _ (by omega) (HF.out m _ (by omega) HB1.out)).mono ?_; rintro e w2 ⟨hs2, hb2⟩; have HB2 := hid (HB1.out.trans (hb2.mono HB1.out.size)); clear hb2; rcases hs2.get with ⟨rfl, hQ1⟩ | ⟨rfl, hQ1⟩; all_goals (have HQ1 := hid hQ1; clear hQ1 hs2))
        | (go_at_call 84; refine (areKinds_any _ (0) _ _ _ (fun i => st (m + i)) (fun i => sh (m + i)) _ (by omega) (.inl rfl)).mono ?_; rintro e w3 ⟨hs3, hb3⟩; have HB3 := hid (HB2.out.trans (hb3.mono HB2.out.size)); clear hb3; rcases hs3.get with ⟨rfl, hQ2⟩ | ⟨rfl, hQ2⟩; all_goals (have HQ2 := hid hQ2; clear hQ2 hs3))
        | (go_at_call 85; refine (textsDiffer_all _ (0) _ (fun i => st (m + i)) (fun i => sh (m + i)) _ (by omega) (fun i hi => HX.out _ (by omega)) (.inl rfl)).mono ?_; rintro e w4 ⟨hs4, hb4⟩; have HB4 := hid (HB3.out.trans (hb4.mono HB3.out.size)); clear hb4; rcases hs4.get with ⟨rfl, hQ3⟩ | ⟨rfl, hQ3⟩; all_goals (have HQ3 := hid hQ3; clear hQ3 hs4))))
      all_goals go_ret
      all_goals first
        | exact ⟨says_t (HAT.out.2 ⟨h9, ⟨by have := HQ1.out.1; omega, by omega, HQ1.out.2.2⟩, HQ2.out, HQ3.out⟩), HB4.out⟩
        | exact ⟨says_f (fun h => HQ3.out (HAT.out.1 h).2.2.2), HB4.out⟩
        | exact ⟨says_f (fun h => HQ2.out (HAT.out.1 h).2.2.1), HB3.out⟩
        | exact ⟨says_f (fun h => HQ1.out (by have := (HAT.out.1 h).2.1; exact ⟨by omega, by omega, this.2.2⟩)), HB2.out⟩
    · have hfc : ¬ c = f := by omega
      have hfm : f ≤ m := by omega
      go_wp2_with (first
        | (go_at_call 83; refine (areE_any (some ⟨g, o, none⟩) f c _ _ st sh _ (by omega) (HF.out f _ (by omega) HB1.out)).mono ?_; rintro e w2 ⟨hs2, hb2⟩; have HB2 := hid (HB1.out.trans (hb2.mono HB1.out.size)); clear hb2; rcases hs2.get with ⟨rfl, hQ1⟩ | ⟨rfl, hQ1⟩; all_goals (have HQ1 := hid hQ1; clear hQ1 hs2))
        | (go_at_call 84; refine (areKinds_any (some ⟨g, o + f * 6, none⟩) (m - f) _ _ _ (fun i => st (f + i)) (fun i => sh (f + i)) _ (by omega) (HK.out f _ HB2.out)).mono ?_; rintro e w3 ⟨hs3, hb3⟩; have HB3 := hid (HB2.out.trans (hb3.mono HB2.out.size)); clear hb3; rcases hs3.get with ⟨rfl, hQ2⟩ | ⟨rfl, hQ2⟩; all_goals (have HQ2 := hid hQ2; clear hQ2 hs3))
        | (go_at_call 85; refine (textsDiffer_all (some ⟨g, o + f * 6, none⟩) (m - f) _ (fun i => st (f + i)) (fun i => sh (f + i)) _ (by omega) (fun i hi => HX.out _ (by omega)) (HK.out f _ HB3.out)).mono ?_; rintro e w4 ⟨hs4, hb4⟩; have HB4 := hid (HB3.out.trans (hb4.mono HB3.out.size)); clear hb4; rcases hs4.get with ⟨rfl, hQ3⟩ | ⟨rfl, hQ3⟩; all_goals (have HQ3 := hid hQ3; clear hQ3 hs4)))
      all_goals go_ret
      all_goals first
        | exact ⟨says_t (HAT.out.2 ⟨h9, ⟨by have := HQ1.out.1; omega, by omega, HQ1.out.2.2⟩, HQ2.out, HQ3.out⟩), HB4.out⟩
        | exact ⟨says_f (fun h => HQ3.out (HAT.out.1 h).2.2.2), HB4.out⟩
        | exact ⟨says_f (fun h => HQ2.out (HAT.out.1 h).2.2.1), HB3.out⟩
        | exact ⟨says_f (fun h => HQ1.out (by have := (HAT.out.1 h).2.1; exact ⟨by omega, by omega, this.2.2⟩)), HB2.out⟩
  · go_enter Tryd.func86, Tryd.ntmps86
    go_wp2_with (first
      | (go_at_call 95; refine (indexNamed_any g o m c st sh _ hm hg HS.out).mono ?_; rintro e w1 ⟨he, hb1⟩; have HB1 := hid hb1; clear hb1; rcases he with ⟨f, hf, rfl, hP1, hP2⟩ | ⟨rfl, hP2⟩; all_goals clear hP2))
    all_goals go_ret
    all_goals exact ⟨says_f (fun ⟨f, _, _, h, _⟩ => by omega), HB1.out⟩
set_option maxHeartbeats 1000000 in
theorem callFits_none (ad : Option Addr) (c : Nat) (w : World) :
    Calls Tryd.prog 86 #[.slice ad 0 c] w fun e w' => e = .returned (.bool false) ∧ Below w.heap.size w w' := by
  go_enter Tryd.func86, Tryd.ntmps86
  go_wp2_with (first
    | (go_at_call 95; refine (index_none ad c _ _).mono ?_; rintro e w1 ⟨rfl, rfl⟩)
    | (go_at_call 83; refine (areE_any _ 0 c _ _ (fun _ => ⟨0, 0, 0, ⟨#[]⟩, 0⟩) (fun _ => 0) _ (by omega) (.inl rfl)).mono ?_; rintro e w2 ⟨hs2, hb2⟩; rcases hs2.get with ⟨rfl, hQ1⟩ | ⟨rfl, hQ1⟩; all_goals clear hs2))
  · exact absurd hQ1.1 (by omega)
  · go_ret
    exact ⟨rfl, hb2⟩
theorem callFits_all (ad : Option Addr) (m c : Nat) (st : Nat → Nd) (sh : Nat → Nat) (w : World) (hm : m ≤ 5000) (hx : ∀ i, i < m → (st i).text.size ≤ maxLen) (hcm : m ≤ c) (hc : c ≤ maxLen) (hs : StA w ad m st sh) :
    Calls Tryd.prog 86 #[.slice ad m c] w fun e w' => Says e (CallOk m st) ∧ Below w.heap.size w w' := by
  by_cases h0 : 0 < m
  · obtain ⟨g, o, rfl, h1, h2⟩ := hs.resolve_left (by omega)
    exact callFits_any g o m c st sh w hm hx h0 hcm hc h1 h2
  · obtain rfl : m = 0 := by omega
    refine (callFits_none ad c w).mono ?_
    rintro e w' ⟨rfl, hb⟩
    exact ⟨says_f (fun ⟨f, h1, h2, _⟩ => by omega), hb⟩
theorem fnFits_all (ad : Option Addr) (m c : Nat) (st : Nat → Nd) (sh : Nat → Nat) (w : World) (hm : m ≤ 5000) (hcm : m ≤ c) (hc : c ≤ maxLen) (hs : StA w ad m st sh) :
    Calls Tryd.prog 87 #[.slice ad m c] w fun e w' => Says e (1 ≤ m ∧ m ≤ 9 ∧ (∀ i, i + 1 < m → (st i).kind = 19) ∧ isE (st (m - 1)).kind = true) ∧ Below w.heap.size w w' := by
  by_cases h0 : 0 < m
  · obtain ⟨g, o, rfl, h1, h2⟩ := hs.resolve_left (by omega)
    exact fnFits_any g o m c st sh w hm h0 hcm hc h1 h2
  · obtain rfl : m = 0 := by omega
    refine (fnFits_none ad c w).mono ?_
    rintro e w' ⟨rfl, rfl⟩
    exact ⟨says_f (fun h => by omega), Below.refl _ _⟩
end Go.Proofs.YtpobfklbbkdglaaDoor
