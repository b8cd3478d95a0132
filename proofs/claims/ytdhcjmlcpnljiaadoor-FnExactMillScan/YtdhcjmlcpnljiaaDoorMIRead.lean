import Derived.Test.YtdhcjmlcpnljiaaDoorMIWord
import Derived.Test.YtdhcjmlcpnljiaaDoorMSOne2
import Derived.Test.YtdhcjmlcpnljiaaDoorIScan
/-! Printed by gen_read.py. -/
namespace Go.Proofs.YtdhcjmlcpnljiaaDoor
open Go.RowKit Go.Shelf
/-- The table of marks, as the cells of an array. -/
def mmarkArr : Array Value := (mmarks.map fun x => Value.string ⟨x.toArray⟩).toArray
/-- What the program's own scanning reads of the package-level variables. -/
structure EnvM (w : World) : Prop where
  big : ∃ tp p, w.cell? ⟨4, 0, none⟩ = some (.iface tp p)
  mark : ∃ t fr, w.heap[0]? = some (.cells mmarkArr t fr)
  size : 6 ≤ w.heap.size
theorem EnvM.low {w w' : World} {n0 : Nat} (h : EnvM w) (h6 : 6 ≤ n0) (hn : n0 ≤ w.heap.size) (hb : Below n0 w w') : EnvM w' := by
  refine ⟨?_, ?_, Nat.le_trans (Nat.le_trans h6 hn) hb.size⟩
  · obtain ⟨tp, p, e⟩ := h.big
    exact ⟨tp, p, (hb.cell (p := ⟨4, 0, none⟩) (show 4 < n0 by omega)).trans e⟩
  · obtain ⟨t, fr, e⟩ := h.mark
    exact ⟨t, fr, (hb.block 0 (show 0 < n0 by omega)).trans e⟩
theorem EnvM.below {w w' : World} (h : EnvM w) (hb : Below w.heap.size w w') : EnvM w' := h.low h.size (Nat.le_refl _) hb
/-- The cells of the token that the call hands back, in a later world. -/
theorem mtok_cells {w w1 : World} (h : Below (w.heap.size + 1) (w.alloc (.cells #[.int .i64 0, .string ⟨#[]⟩, .int .i64 0, .int .i64 0, .int .i64 0] 39)) w1) :
    (w1.cell? ⟨w.heap.size, 0, none⟩ = some (.int .i64 0) ∧ w1.cell? ⟨w.heap.size, 1, none⟩ = some (.string ⟨#[]⟩) ∧ w1.cell? ⟨w.heap.size, 2, none⟩ = some (.int .i64 0) ∧ w1.cell? ⟨w.heap.size, 3, none⟩ = some (.int .i64 0) ∧ w1.cell? ⟨w.heap.size, 4, none⟩ = some (.int .i64 0)) ∧
    (w1.frozen? ⟨w.heap.size, 0, none⟩ = false ∧ w1.frozen? ⟨w.heap.size, 1, none⟩ = false ∧ w1.frozen? ⟨w.heap.size, 2, none⟩ = false ∧ w1.frozen? ⟨w.heap.size, 3, none⟩ = false ∧ w1.frozen? ⟨w.heap.size, 4, none⟩ = false) := by
  refine ⟨⟨?_, ?_, ?_, ?_, ?_⟩, ⟨?_, ?_, ?_, ?_, ?_⟩⟩
  · rw [h.cell (p := ⟨w.heap.size, 0, none⟩) (Nat.lt_succ_self _), cell_new_row]; rfl
  · rw [h.cell (p := ⟨w.heap.size, 1, none⟩) (Nat.lt_succ_self _), cell_new_row]; rfl
  · rw [h.cell (p := ⟨w.heap.size, 2, none⟩) (Nat.lt_succ_self _), cell_new_row]; rfl
  · rw [h.cell (p := ⟨w.heap.size, 3, none⟩) (Nat.lt_succ_self _), cell_new_row]; rfl
  · rw [h.cell (p := ⟨w.heap.size, 4, none⟩) (Nat.lt_succ_self _), cell_new_row]; rfl
  · rw [h.frozen (p := ⟨w.heap.size, 0, none⟩) (Nat.lt_succ_self _)]; simp
  · rw [h.frozen (p := ⟨w.heap.size, 1, none⟩) (Nat.lt_succ_self _)]; simp
  · rw [h.frozen (p := ⟨w.heap.size, 2, none⟩) (Nat.lt_succ_self _)]; simp
  · rw [h.frozen (p := ⟨w.heap.size, 3, none⟩) (Nat.lt_succ_self _)]; simp
  · rw [h.frozen (p := ⟨w.heap.size, 4, none⟩) (Nat.lt_succ_self _)]; simp
theorem below_mtok {w w1 : World} (h : Below (w.heap.size + 1) (w.alloc (.cells #[.int .i64 0, .string ⟨#[]⟩, .int .i64 0, .int .i64 0, .int .i64 0] 39)) w1) : Below w.heap.size w w1 :=
  ((Below.refl w.heap.size w).alloc (Nat.le_refl _) _).trans (h.mono (by omega))
set_option maxRecDepth 20000 in
set_option maxHeartbeats 1000000 in
theorem mReadText_any (s : ByteArray) (w : World) (hs : s.size ≤ 12000) (hp0 : 0 < s.size) :
    Calls Tryd.prog 56 #[.string s] w fun e w' => e = .returned (moneV (mtext (s.data.toList.drop 1)) 0) ∧ Below w.heap.size w w' := by
  have HT := hid (mtext_one s 0 hp0)
  simp only [Nat.zero_add, Nat.sub_zero] at HT
  have HQ : Hid (∀ W : World, Calls Tryd.prog 73 #[.string s] W fun e w' => e = .returned (quoV (unqAt s.size s.data.toList 1 [])) ∧ Below W.heap.size W w') := fun W => readQuoted_any s W hs hp0
  generalize hU : unqAt s.size s.data.toList 1 [] = U at HT HQ
  clear hU
  cases U with
  | none =>
    have HE := hid (moneV_bad (HT.out.1 rfl) (by decide) 0)
    clear HT
    go_enter Tryd.func56, Tryd.ntmps56
    go_wp2_with (go_at_call 73; refine (HQ.out _).mono ?_; rintro e w1 ⟨rfl, hb⟩; unfold quoV; have HB := hid hb; obtain ⟨⟨k0, k1, k2, k3, k4⟩, ⟨f0, f1, f2, f3, f4⟩⟩ := mtok_cells (hb.mono (by simp)); clear hb)
    refine bodyPost_ret (v := .tuple #[.agg #[.int .i64 0, .string ⟨#[]⟩, .int .i64 0, .int .i64 0, .int .i64 0], .int .i64 0, .int .i64 4]) (by simp [results, Tryd.results56, go_sem, k0, k1, k2, k3, k4]) rfl ⟨by rw [HE.out]; rfl, ?_⟩
    exact below_set5 (below_mtok (HB.out.mono (by simp)))
  | some x =>
    obtain ⟨o, q⟩ := x
    obtain ⟨hq1, hq2, h5, h4⟩ := HT.out.2 o q rfl
    have hq0 : ((q : Int) == 0) = false := by rw [beq_eq_false_iff_ne]; omega
    have hsz : (⟨o.toArray⟩ : ByteArray).size = o.length := by simp [ByteArray.size]
    by_cases hl : 3000 < o.length
    · have HE := hid (moneV_bad (h5 hl) (by decide) 0)
      clear HT h5 h4
      have hl' : 3000 < (o.length : Int) := by omega
      clear hl
      go_enter Tryd.func56, Tryd.ntmps56
      go_wp2_with (go_at_call 73; refine (HQ.out _).mono ?_; rintro e w1 ⟨rfl, hb⟩; unfold quoV; have HB := hid hb; obtain ⟨⟨k0, k1, k2, k3, k4⟩, ⟨f0, f1, f2, f3, f4⟩⟩ := mtok_cells (hb.mono (by simp)); clear hb)
      refine bodyPost_ret (v := .tuple #[.agg #[.int .i64 0, .string ⟨#[]⟩, .int .i64 0, .int .i64 0, .int .i64 0], .int .i64 0, .int .i64 5]) (by simp [results, Tryd.results56, go_sem, k0, k1, k2, k3, k4]) rfl ⟨by rw [HE.out]; rfl, ?_⟩
      exact below_set5 (below_mtok (HB.out.mono (by simp)))
    · have HE := hid (moneV_good (h4 (by omega)) 0)
      clear HT h5 h4
      have hl' : (o.length : Int) ≤ 3000 := by omega
      clear hl
      go_enter Tryd.func56, Tryd.ntmps56
      go_wp2_with (go_at_call 73; refine (HQ.out _).mono ?_; rintro e w1 ⟨rfl, hb⟩; unfold quoV; have HB := hid hb; obtain ⟨⟨k0, k1, k2, k3, k4⟩, ⟨f0, f1, f2, f3, f4⟩⟩ := mtok_cells (hb.mono (by simp)); clear hb)
      refine bodyPost_ret (v := .tuple #[.agg #[.int .i64 4, .string ⟨o.toArray⟩, .int .i64 0, .int .i64 0, .int .i64 0], .int .i64 q, .int .i64 0]) (by simp [results, Tryd.results56, go_sem, k0, k1, k2, k3, k4]) rfl ⟨by rw [HE.out]; simp, ?_⟩
      exact below_set5 (below_mtok (HB.out.mono (by simp)))
theorem mmarkArr_get (k : Nat) (h : k < 28) : mmarkArr[k]? = some (.string (mmS k)) := by
  have hl : k < mmarks.length := h
  simp [mmarkArr, mmS, hl]
theorem index_mmarks (k : Nat) (h : k < 28) (W : World) : (Instr.index 91 (.agg mmarkArr) (.int .i64 k)).run Tryd.prog W = .ok (.string (mmS k)) W := by
  have hg := mmarkArr_get k h
  have hz := Tryd.sizeOf9 W
  simp [Instr.index, asIntOf, run_underlying Tryd.underlying91, h, hz, part, hg]
set_option maxRecDepth 20000 in
set_option maxHeartbeats 1000000 in
theorem mReadMark_any (s : ByteArray) (w : World) (hE : EnvM w) :
    Calls Tryd.prog 61 #[.string s] w fun e w' => e = .returned (moneV (mmark s.data.toList) 0) ∧ Below w.heap.size w w' := by
  obtain ⟨t, fr, hg⟩ := (hE.below ((Below.refl _ _).alloc (Nat.le_refl _) (.cells #[.int .i64 0, .string ⟨#[]⟩, .int .i64 0, .int .i64 0, .int .i64 0] 39))).mark
  have HG := hid hg
  clear hE hg
  go_enter Tryd.func61, Tryd.ntmps61
  go_wp2_with (refine wpList_load_row rfl 91 (.global 0) rfl 0 rfl t mmarkArr fr (.array 28 9) HG.out Tryd.underlying91 rfl (by kernel_rfl) ?_)
  go_loop [6, 8] (fun _ i => ∃ k : Nat, k ≤ 28 ∧ i = .int .i64 k ∧ ∀ j, j < k → (mmarks.getD j []).isPrefixOf s.data.toList = false) (fun _ i => 28 - (intOf i).toNat)
  case atStart => exact ⟨0, Nat.zero_le _, rfl, fun j h => absurd h (Nat.not_lt_zero _)⟩
  case round =>
    obtain ⟨k, hk, rfl, hno⟩ := hrel
    have HNO := hid hno
    clear hno
    by_cases hlt : k < 28
    · have hidx := index_mmarks k hlt
      have em : (mmS k).data.toList = mmarks.getD k [] := by simp [mmS]
      by_cases hp : (mmarks.getD k []).isPrefixOf s.data.toList = true
      · have HP : Hid ((mmS k).data.toList.isPrefixOf s.data.toList = true) := by show _ = _; rw [em]; exact hp
        have HE := hid (moneV_good (mmark_first _ k hlt hp HNO.out) 0)
        clear hp em
        go_wp2_with (go_at_call 80; refine (hasPrefix_any _ _ _).mono ?_; rintro e w' ⟨rfl, hw⟩; rw [hw, HP.out])
        refine bodyPost_ret (v := .tuple #[.agg #[.int .i64 5, .string (mmS k), .int .i64 0, .int .i64 0, .int .i64 0], .int .i64 (mmS k).size, .int .i64 0]) (by simp [results, Tryd.results61, go_sem]) rfl ⟨by rw [HE.out, ← mmS_size]; simp; rfl, ?_⟩
        exact (Below.refl w.heap.size w).alloc (Nat.le_refl _) _
      · have hp' : (mmarks.getD k []).isPrefixOf s.data.toList = false := Bool.eq_false_iff.2 hp
        have HP : Hid ((mmS k).data.toList.isPrefixOf s.data.toList = false) := by show _ = _; rw [em]; exact hp'
        have HN2 : Hid (∀ j, j < k + 1 → (mmarks.getD j []).isPrefixOf s.data.toList = false) := fun j hj => by
          rcases Nat.lt_or_eq_of_le (Nat.lt_succ_iff.1 hj) with h | h
          · exact HNO.out j h
          · subst h; exact hp'
        clear hp hp' em
        go_wp2_with (go_at_call 80; refine (hasPrefix_any _ _ _).mono ?_; rintro e w' ⟨rfl, hw⟩; rw [hw, HP.out])
        go_round
        case rel => exact ⟨k + 1, by omega, by go_num, HN2.out⟩
        case measure => simp [intOf]; omega
    · have HE := hid (moneV_bad (mmark_none _ (fun j hj => HNO.out j (by omega))) (by decide) 0)
      go_wp2
      refine bodyPost_ret (v := .tuple #[.agg #[.int .i64 0, .string ⟨#[]⟩, .int .i64 0, .int .i64 0, .int .i64 0], .int .i64 0, .int .i64 2]) (by simp [results, Tryd.results61, go_sem]) rfl ⟨by rw [HE.out]; rfl, ?_⟩
      exact (Below.refl w.heap.size w).alloc (Nat.le_refl _) _
theorem mres_name (tm : Array Value) (W : World) (b : Nat) (c0 c1 c2 c3 c4 x y : Value) (h4 : tm[4]? = some (.pointer (some ⟨b, 0, none⟩))) (h5 : tm[5]? = some x) (h6 : tm[6]? = some y)
    (hh : W.heap[b]? = some (.cells #[c0, c1, c2, c3, c4] 39 (0, 0))) : (results Tryd.f60 tm).run Tryd.prog W = .ok (.tuple #[.agg #[c0, c1, c2, c3, c4], x, y]) W := by
  have q0 : W.cell? ⟨b, 0, none⟩ = some c0 := cell_heap hh 0
  have q1 : W.cell? ⟨b, 1, none⟩ = some c1 := cell_heap hh 1
  have q2 : W.cell? ⟨b, 2, none⟩ = some c2 := cell_heap hh 2
  have q3 : W.cell? ⟨b, 3, none⟩ = some c3 := cell_heap hh 3
  have q4 : W.cell? ⟨b, 4, none⟩ = some c4 := cell_heap hh 4
  simp [results, Tryd.results60, go_sem, h4, h5, h6, q0, q1, q2, q3, q4]
theorem heap_set5 {W : World} {b : Nat} {u0 u1 u2 u3 u4 : Value} {t : TypeId} (h : W.heap[b]? = some (.cells #[u0, u1, u2, u3, u4] t (0, 0))) (c0 c1 c2 c3 c4 : Value) :
    (((((W.setCell ⟨b, 0, none⟩ c0).setCell ⟨b, 1, none⟩ c1).setCell ⟨b, 2, none⟩ c2).setCell ⟨b, 3, none⟩ c3).setCell ⟨b, 4, none⟩ c4).heap[b]? = some (.cells #[c0, c1, c2, c3, c4] t (0, 0)) :=
  set_heap (set_heap (set_heap (set_heap (set_heap h c0) c1) c2) c3) c4
theorem heap_tok {w w2 : World} {o : Obj} (h : Below (w.alloc o).heap.size (w.alloc o) w2) : w2.heap[w.heap.size]? = some o :=
  (h.block w.heap.size (by simp)).trans (heap_alloc_new w o)
set_option maxRecDepth 20000 in
set_option maxHeartbeats 1000000 in
theorem mReadName_any (s : ByteArray) (r : Nat) (w : World) (hs : s.size ≤ 12000) (hr : w.heap[r]? = some (.map (mwE 35) 35)) :
    Calls Tryd.prog 60 #[.string s, .map (some r)] w fun e w' => e = .returned (moneV (mname s.data.toList) 0) ∧ Below w.heap.size w w' := by
  have hk2 := run_le letB s.data.toList
  have HX := hid (extract_take s (run letB s.data.toList))
  rw [len_size] at hk2
  have HD : Hid (∀ k, run letB s.data.toList = k → mname s.data.toList = if s.data.toList.take k ∈ mws then ⟨2, s.data.toList.take k, 0, 0, k, 0⟩ else if 30 < k then MOne.bad 5 else ⟨1, s.data.toList.take k, 0, 0, k, 0⟩) := fun k hk => by subst hk; rfl
  have HNS : Hid (∀ W : World, Calls Tryd.prog 74 #[.string s] W fun e w' => e = .returned (.int .i64 (run letB s.data.toList)) ∧ Below W.heap.size W w') := fun W => millNameSize_any s W hs
  generalize hK : run letB s.data.toList = k at *
  have HO := hid (HD.out k rfl)
  clear hK HD
  have HSZ : Hid ((s.extract 0 k).size ≤ 30 → (s.extract 0 k).size ≤ 8000) := fun h => by omega
  have hxs : (s.extract 0 k).size = k := by simp; omega
  have HTX : Hid ((⟨(s.data.toList.take k).toArray⟩ : ByteArray) = s.extract 0 k) := by show _ = _; rw [← HX.out]
  have hrl : r < w.heap.size := (Array.getElem?_eq_some_iff.1 hr).1
  have HR : Hid (∀ w1, Below w.heap.size w w1 → w1.heap[r]? = some (.map (mwE 35) 35)) := fun w1 hb => (hb.block r hrl).trans hr
  clear hr hrl
  by_cases h30 : 30 < k
  · have hnw : ¬ s.data.toList.take k ∈ mws := fun h => by
      have := mws_len _ h
      rw [List.length_take, len_size] at this; omega
    have HE : Hid (moneV (mname s.data.toList) 0 = .tuple #[.agg #[.int .i64 0, .string ⟨#[]⟩, .int .i64 0, .int .i64 0, .int .i64 0], .int .i64 0, .int .i64 (5 : Nat)]) := moneV_bad (by rw [HO.out, if_neg hnw, if_pos h30]) (by decide) 0
    have h30' : 30 < (k : Int) := by omega
    clear hnw HO h30
    go_enter Tryd.func60, Tryd.ntmps60
    go_wp2_with (go_at_call 74; refine (HNS.out _).mono ?_; rintro e w1 ⟨rfl, hb⟩; have HB := hid hb; obtain ⟨⟨k0, k1, k2, k3, k4⟩, ⟨f0, f1, f2, f3, f4⟩⟩ := mtok_cells (hb.mono (by simp)); clear hb)
    refine bodyPost_ret (v := .tuple #[.agg #[.int .i64 0, .string ⟨#[]⟩, .int .i64 0, .int .i64 0, .int .i64 0], .int .i64 0, .int .i64 5]) (by simp [results, Tryd.results60, go_sem, k0, k1, k2, k3, k4]) rfl ⟨by rw [HE.out]; rfl, ?_⟩
    exact below_set5 (below_mtok (HB.out.mono (by simp)))
  · have h30' : (k : Int) ≤ 30 := by omega
    have HS30 := hid (HSZ.out (by omega))
    by_cases hm : s.data.toList.take k ∈ mws
    · have HDE : Hid ((s.extract 0 k).data.toList ∈ mws) := by show _ ∈ _; rw [HX.out]; exact hm
      have HE : Hid (moneV (mname s.data.toList) 0 = .tuple #[.agg #[.int .i64 2, .string (s.extract 0 k), .int .i64 0, .int .i64 0, .int .i64 0], .int .i64 k, .int .i64 0]) := by
        show _ = _; rw [moneV_good (by rw [HO.out, if_pos hm]), HTX.out]; simp
      clear hm HO h30
      go_enter Tryd.func60, Tryd.ntmps60
      go_wp2_with (first
        | (go_at_call 74; refine (HNS.out _).mono ?_; rintro e w1 ⟨rfl, hb⟩; have HB := hid hb; have hz1 : w.heap.size + 1 ≤ w1.heap.size := (by have := hb.size; simp at this; omega); clear hb)
        | (go_at_call 79; refine (clone_any _ _ HS30.out).mono ?_; rintro e w2 ⟨rfl, hb⟩; have HB2 := hid (HB.out.trans (hb.mono HB.out.size)); obtain ⟨⟨k0, k1, k2, k3, k4⟩, ⟨f0, f1, f2, f3, f4⟩⟩ := mtok_cells (HB2.out.mono (by simp)); have hlk := mlookup2 (((((w2.setCell ⟨w.heap.size, 0, none⟩ (.int .i64 1)).setCell ⟨w.heap.size, 1, none⟩ (.string (s.extract 0 k))).setCell ⟨w.heap.size, 2, none⟩ (.int .i64 0)).setCell ⟨w.heap.size, 3, none⟩ (.int .i64 0)).setCell ⟨w.heap.size, 4, none⟩ (.int .i64 0)) r (HR.out _ (below_set5 (below_mtok (HB2.out.mono (by simp))))) (s.extract 0 k); rw [decide_eq_true HDE.out] at hlk; clear hb))
      refine bodyPost_ret (mres_name _ _ w.heap.size _ _ _ _ _ _ _ rfl rfl rfl (heap_set5 (set_heap (i := 0) (heap_set5 (heap_tok HB2.out) _ _ _ _ _) (.int .i64 2)) _ _ _ _ _)) rfl ⟨by rw [HE.out]; rfl, ?_⟩
      exact below_set5 ((below_set5 (below_mtok (HB2.out.mono (by simp)))).setCell (p := ⟨w.heap.size, 0, none⟩) (Nat.le_refl _) _)
    · have HDE : Hid (¬ (s.extract 0 k).data.toList ∈ mws) := by show ¬ _; rw [HX.out]; exact hm
      have HE : Hid (moneV (mname s.data.toList) 0 = .tuple #[.agg #[.int .i64 1, .string (s.extract 0 k), .int .i64 0, .int .i64 0, .int .i64 0], .int .i64 k, .int .i64 0]) := by
        show _ = _; rw [moneV_good (by rw [HO.out, if_neg hm, if_neg h30]), HTX.out]; simp
      clear hm HO h30
      go_enter Tryd.func60, Tryd.ntmps60
      go_wp2_with (first
        | (go_at_call 74; refine (HNS.out _).mono ?_; rintro e w1 ⟨rfl, hb⟩; have HB := hid hb; have hz1 : w.heap.size + 1 ≤ w1.heap.size := (by have := hb.size; simp at this; omega); clear hb)
        | (go_at_call 79; refine (clone_any _ _ HS30.out).mono ?_; rintro e w2 ⟨rfl, hb⟩; have HB2 := hid (HB.out.trans (hb.mono HB.out.size)); obtain ⟨⟨k0, k1, k2, k3, k4⟩, ⟨f0, f1, f2, f3, f4⟩⟩ := mtok_cells (HB2.out.mono (by simp)); have hlk := mlookup2 (((((w2.setCell ⟨w.heap.size, 0, none⟩ (.int .i64 1)).setCell ⟨w.heap.size, 1, none⟩ (.string (s.extract 0 k))).setCell ⟨w.heap.size, 2, none⟩ (.int .i64 0)).setCell ⟨w.heap.size, 3, none⟩ (.int .i64 0)).setCell ⟨w.heap.size, 4, none⟩ (.int .i64 0)) r (HR.out _ (below_set5 (below_mtok (HB2.out.mono (by simp))))) (s.extract 0 k); rw [decide_eq_false HDE.out] at hlk; clear hb))
      refine bodyPost_ret (mres_name _ _ w.heap.size _ _ _ _ _ _ _ rfl rfl rfl (heap_set5 (heap_set5 (heap_tok HB2.out) _ _ _ _ _) _ _ _ _ _)) rfl ⟨by rw [HE.out]; rfl, ?_⟩
      exact below_set5 (below_set5 (below_mtok (HB2.out.mono (by simp))))
end Go.Proofs.YtdhcjmlcpnljiaaDoor
