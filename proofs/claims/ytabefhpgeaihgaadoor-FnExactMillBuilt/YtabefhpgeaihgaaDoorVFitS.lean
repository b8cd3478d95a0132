import Derived.Test.YtabefhpgeaihgaaDoorVBox
/-! What fits a built word: the model's. Printed by gen_vfit.py. -/
namespace Go.Proofs.YtabefhpgeaihgaaDoor.V
open Go.RowKit Go.Shelf
set_option maxRecDepth 20000
/-- What a built word wants, and gives; 'any' for any integer type. -/
def wants (any op : Int) : List Int := if op = 6 then [2] else if op = 7 then [2, 10] else if op = 8 then [2, 10, 10] else if op = 9 then [2, 2] else if op = 10 then [3] else if op = 11 then [any] else [2]
def gives (op : Int) : Int := if op = 6 then 10 else if op = 7 then 3 else if op = 8 then 2 else if op = 9 then 10 else if op = 10 then 2 else if op = 11 then 2 else 10
/-- A type fits what is wanted. -/
def fit1 (any w t : Int) : Prop := t = w ∨ (w = any ∧ 3 ≤ t ∧ t ≤ 10)
instance (any w t : Int) : Decidable (fit1 any w t) := by unfold fit1; infer_instance
def FitL (any : Int) (wl ts : List Int) : Prop := wl.length = ts.length ∧ ∀ i, i < ts.length → fit1 any (wl.getD i 0) (ts.getD i 0)
/-- Numbers that lie in a slice. -/
def IntsIn (W : World) (g : Nat) (ts : List Int) : Prop := ∀ i, i < ts.length → W.cell? ⟨g, i, none⟩ = some (.int .i64 (ts.getD i 0))
theorem IntsIn.next {W V : World} {g : Nat} {ts : List Int} (h : IntsIn W g ts) (hg : g < W.heap.size) (hb : Below W.heap.size W V) : IntsIn V g ts := fun i hi => (hb.cell (p := ⟨g, i, none⟩) hg).trans (h i hi)
theorem lit_ints (w : World) (cs : Array Value) (ts : List Int) (e : cs = (ts.map fun t => Value.int .i64 t).toArray) (ty : TypeId) : IntsIn (w.alloc (.cells cs ty)) w.heap.size ts := fun i hi => by
  have h : (w.alloc (.cells cs ty)).heap[w.heap.size]? = some (.cells cs ty) := heap_new w _
  unfold World.cell?
  rw [h, e]
  simp [hi]
set_option maxHeartbeats 1000000 in
theorem l12Wants_6 (w : World) :
    Calls Tryd.prog 23 #[.int .i64 6] w fun e w' => e = .returned (.tuple #[.slice (some ⟨w.heap.size, 0, none⟩) 1 1, .int .i64 10]) ∧ w' = w.alloc (.cells #[.int .i64 2] 3) := by
  go_enter Tryd.func23, Tryd.ntmps23
  go_wp2
  exact bodyPost_ret (v := .tuple #[.slice (some ⟨w.heap.size, 0, none⟩) 1 1, .int .i64 10]) (by simp [results, Tryd.results23, go_sem]) rfl ⟨rfl, rfl⟩
set_option maxHeartbeats 1000000 in
theorem l12Wants_7 (w : World) :
    Calls Tryd.prog 23 #[.int .i64 7] w fun e w' => e = .returned (.tuple #[.slice (some ⟨w.heap.size, 0, none⟩) 2 2, .int .i64 3]) ∧ w' = w.alloc (.cells #[.int .i64 2, .int .i64 10] 3) := by
  go_enter Tryd.func23, Tryd.ntmps23
  go_wp2
  exact bodyPost_ret (v := .tuple #[.slice (some ⟨w.heap.size, 0, none⟩) 2 2, .int .i64 3]) (by simp [results, Tryd.results23, go_sem]) rfl ⟨rfl, rfl⟩
set_option maxHeartbeats 1000000 in
theorem l12Wants_8 (w : World) :
    Calls Tryd.prog 23 #[.int .i64 8] w fun e w' => e = .returned (.tuple #[.slice (some ⟨w.heap.size, 0, none⟩) 3 3, .int .i64 2]) ∧ w' = w.alloc (.cells #[.int .i64 2, .int .i64 10, .int .i64 10] 3) := by
  go_enter Tryd.func23, Tryd.ntmps23
  go_wp2
  exact bodyPost_ret (v := .tuple #[.slice (some ⟨w.heap.size, 0, none⟩) 3 3, .int .i64 2]) (by simp [results, Tryd.results23, go_sem]) rfl ⟨rfl, rfl⟩
set_option maxHeartbeats 1000000 in
theorem l12Wants_9 (w : World) :
    Calls Tryd.prog 23 #[.int .i64 9] w fun e w' => e = .returned (.tuple #[.slice (some ⟨w.heap.size, 0, none⟩) 2 2, .int .i64 10]) ∧ w' = w.alloc (.cells #[.int .i64 2, .int .i64 2] 3) := by
  go_enter Tryd.func23, Tryd.ntmps23
  go_wp2
  exact bodyPost_ret (v := .tuple #[.slice (some ⟨w.heap.size, 0, none⟩) 2 2, .int .i64 10]) (by simp [results, Tryd.results23, go_sem]) rfl ⟨rfl, rfl⟩
set_option maxHeartbeats 1000000 in
theorem l12Wants_10 (w : World) :
    Calls Tryd.prog 23 #[.int .i64 10] w fun e w' => e = .returned (.tuple #[.slice (some ⟨w.heap.size, 0, none⟩) 1 1, .int .i64 2]) ∧ w' = w.alloc (.cells #[.int .i64 3] 3) := by
  go_enter Tryd.func23, Tryd.ntmps23
  go_wp2
  exact bodyPost_ret (v := .tuple #[.slice (some ⟨w.heap.size, 0, none⟩) 1 1, .int .i64 2]) (by simp [results, Tryd.results23, go_sem]) rfl ⟨rfl, rfl⟩
set_option maxHeartbeats 1000000 in
theorem l12Wants_11 (w : World) :
    Calls Tryd.prog 23 #[.int .i64 11] w fun e w' => e = .returned (.tuple #[.slice (some ⟨w.heap.size, 0, none⟩) 1 1, .int .i64 2]) ∧ w' = w.alloc (.cells #[.int .i64 0] 3) := by
  go_enter Tryd.func23, Tryd.ntmps23
  go_wp2
  exact bodyPost_ret (v := .tuple #[.slice (some ⟨w.heap.size, 0, none⟩) 1 1, .int .i64 2]) (by simp [results, Tryd.results23, go_sem]) rfl ⟨rfl, rfl⟩
set_option maxHeartbeats 1000000 in
theorem l12Wants_12 (w : World) :
    Calls Tryd.prog 23 #[.int .i64 12] w fun e w' => e = .returned (.tuple #[.slice (some ⟨w.heap.size, 0, none⟩) 1 1, .int .i64 10]) ∧ w' = w.alloc (.cells #[.int .i64 2] 3) := by
  go_enter Tryd.func23, Tryd.ntmps23
  go_wp2
  exact bodyPost_ret (v := .tuple #[.slice (some ⟨w.heap.size, 0, none⟩) 1 1, .int .i64 10]) (by simp [results, Tryd.results23, go_sem]) rfl ⟨rfl, rfl⟩
theorem wants_any (op : Int) (h6 : 6 ≤ op) (h12 : op ≤ 12) (w : World) :
    Calls Tryd.prog 23 #[.int .i64 op] w fun e w' => e = .returned (.tuple #[.slice (some ⟨w.heap.size, 0, none⟩) (wants 0 op).length (wants 0 op).length, .int .i64 (gives op)]) ∧ IntsIn w' w.heap.size (wants 0 op) ∧ w.heap.size < w'.heap.size ∧ Below w.heap.size w w' := by
  obtain rfl | rfl | rfl | rfl | rfl | rfl | rfl : op = 6 ∨ op = 7 ∨ op = 8 ∨ op = 9 ∨ op = 10 ∨ op = 11 ∨ op = 12 := by omega
  · refine (l12Wants_6 w).mono ?_
    rintro e w' ⟨rfl, rfl⟩
    exact ⟨rfl, lit_ints w _ _ rfl _, by simp, alloc_below _ _⟩
  · refine (l12Wants_7 w).mono ?_
    rintro e w' ⟨rfl, rfl⟩
    exact ⟨rfl, lit_ints w _ _ rfl _, by simp, alloc_below _ _⟩
  · refine (l12Wants_8 w).mono ?_
    rintro e w' ⟨rfl, rfl⟩
    exact ⟨rfl, lit_ints w _ _ rfl _, by simp, alloc_below _ _⟩
  · refine (l12Wants_9 w).mono ?_
    rintro e w' ⟨rfl, rfl⟩
    exact ⟨rfl, lit_ints w _ _ rfl _, by simp, alloc_below _ _⟩
  · refine (l12Wants_10 w).mono ?_
    rintro e w' ⟨rfl, rfl⟩
    exact ⟨rfl, lit_ints w _ _ rfl _, by simp, alloc_below _ _⟩
  · refine (l12Wants_11 w).mono ?_
    rintro e w' ⟨rfl, rfl⟩
    exact ⟨rfl, lit_ints w _ _ rfl _, by simp, alloc_below _ _⟩
  · refine (l12Wants_12 w).mono ?_
    rintro e w' ⟨rfl, rfl⟩
    exact ⟨rfl, lit_ints w _ _ rfl _, by simp, alloc_below _ _⟩
theorem FitL.more {any : Int} {wl ts : List Int} (h : wl.length = ts.length) (hi : ∀ i, i < ts.length → fit1 any (wl.getD i 0) (ts.getD i 0)) : FitL any wl ts := ⟨h, hi⟩
set_option maxHeartbeats 4000000 in
theorem l12Built_any (op : Int) (g N cap : Nat) (ad : Option Addr) (ts : List Int) (h6 : 6 ≤ op) (h12 : op ≤ 12) (hN : ts.length = N) (hN3 : N ≤ 3) (w : World) (had : N = 0 ∨ ad = some ⟨g, 0, none⟩) (hg : N = 0 ∨ g < w.heap.size) (hts : IntsIn w g ts) :
    Calls Tryd.prog 12 #[.int .i64 op, .slice ad N cap] w fun e w' => ((FitL 0 (wants 0 op) ts ∧ e = .returned (.int .i64 (gives op))) ∨ (¬ FitL 0 (wants 0 op) ts ∧ e = .returned (.int .i64 0))) ∧ Below w.heap.size w w' := by
  have HN := hid hN
  have HTS := hid hts
  have HW := hid (wants_any op h6 h12 w)
  obtain ⟨wl, hwl⟩ : ∃ wl, wants 0 op = wl := ⟨_, rfl⟩
  obtain ⟨gv, hgv⟩ : ∃ gv, gives op = gv := ⟨_, rfl⟩
  rw [hwl, hgv] at HW
  rw [hwl, hgv]
  have hL : wl.length ≤ 3 := by
    rw [← hwl]
    obtain rfl | rfl | rfl | rfl | rfl | rfl | rfl : op = 6 ∨ op = 7 ∨ op = 8 ∨ op = 9 ∨ op = 10 ∨ op = 11 ∨ op = 12 := by omega
    all_goals decide
  obtain ⟨L, hLe⟩ : ∃ L, wl.length = L := ⟨_, rfl⟩
  rw [hLe] at HW hL
  have HLE := hid hLe
  clear hN hts hwl hgv hLe
  by_cases hl : L = N
  · subst hl
    have e1 : ((L : Int) != (L : Int)) = false := by simp
    go_enter Tryd.func12, Tryd.ntmps12
    go_wp2_with fail
    refine HW.out.mono ?_
    rintro e w1 ⟨rfl, hi1, hl1, hb1⟩
    have HI1 := hid hi1
    have HB1 := hid hb1
    clear hi1 hb1
    go_wp2
    go_loopw [7] (fun c wr => ∃ j : Nat, c = .int .i64 j ∧ j ≤ L ∧ (∀ i, i < j → fit1 0 (wl.getD i 0) (ts.getD i 0)) ∧ Below w1.heap.size w1 wr) (fun c _ => L - (intOf c).toNat)
    case atStart => exact ⟨0, rfl, by omega, fun i h => by omega, Below.refl _ _⟩
    case round =>
      obtain ⟨j, rfl, hj, hfit, hbr⟩ := hrel
      have HF := hid hfit
      have HBR := hid hbr
      clear hfit hbr
      by_cases hlt : j < L
      · obtain rfl : ad = some ⟨g, 0, none⟩ := had.resolve_left (by omega)
        have hg2 : g < w.heap.size := hg.resolve_left (by omega)
        have c1 : wr.cell? ⟨g, j, none⟩ = some (.int .i64 (ts.getD j 0)) := (HTS.out.next hg2 (go2 HB1.out HBR.out)) j (by rw [HN.out]; exact hlt)
        have c2 : wr.cell? ⟨w.heap.size, j, none⟩ = some (.int .i64 (wl.getD j 0)) := (HI1.out.next hl1 HBR.out) j (by rw [HLE.out]; exact hlt)
        obtain ⟨t, ht⟩ : ∃ t, ts.getD j 0 = t := ⟨_, rfl⟩
        obtain ⟨x, hx⟩ : ∃ x, wl.getD j 0 = x := ⟨_, rfl⟩
        rw [ht] at c1
        rw [hx] at c2
        have HNX : Hid (fit1 0 x t → ∀ i, i < j + 1 → fit1 0 (wl.getD i 0) (ts.getD i 0)) := fun hf i hi => by
          by_cases hij : i = j
          · rw [hij, ht, hx]; exact hf
          · exact HF.out i (by omega)
        have HNO : Hid (¬ fit1 0 x t → ¬ FitL 0 wl ts) := fun hf h => hf (by have := h.2 j (by rw [HN.out]; exact hlt); rwa [ht, hx] at this)
        by_cases htx : t = x
        · subst htx
          have hb : (t != t) = false := by simp
          have HX := hid (HNX.out (.inl rfl))
          go_wp2_with fail
          go_quiet (fail)
          go_wp2
          go_roundw
          case rel => exact ⟨j + 1, by go_num, by omega, HX.out, go2 HBR.out (drewN_below _ _)⟩
          case measure => simp [intOf]; omega
        · have hb : (t != x) = true := by simpa using htx
          by_cases hx0 : x = 0
          · subst hx0
            have hb0 : ((0 : Int) != 0) = false := by simp
            by_cases hi : 3 ≤ t ∧ t ≤ 10
            · have HX := hid (HNX.out (.inr ⟨rfl, hi⟩))
              have HLI := hid (fun W => l10Integer_t t hi.1 hi.2 W)
              clear hi
              go_wp2_with fail
              go_quiet (first | (go_at_call 21; exact Calls.quiet_of_same (HLI.out _)) | fail)
              go_wp2
              go_roundw
              case rel => exact ⟨j + 1, by go_num, by omega, HX.out, go2 HBR.out (drewN_below _ _)⟩
              case measure => simp [intOf]; omega
            · have HX := hid (HNO.out (fun h => by rcases h with h | h; exact htx h; exact hi h.2))
              have HLI := hid (fun W => l10Integer_f t hi W)
              clear hi
              go_wp2_with fail
              go_quiet (first | (go_at_call 21; exact Calls.quiet_of_same (HLI.out _)) | fail)
              go_wp2
              go_ret
              exact ⟨.inr ⟨HX.out, rfl⟩, go2 HB1.out (go2 HBR.out (drewN_below _ _))⟩
          · have hb0 : (x != 0) = true := by simpa using hx0
            have HX := hid (HNO.out (fun h => by rcases h with h | h; exact htx h; exact hx0 h.1))
            go_wp2_with fail
            go_quiet (fail)
            go_wp2
            go_ret
            exact ⟨.inr ⟨HX.out, rfl⟩, go2 HB1.out (go2 HBR.out (drewN_below _ _))⟩
      · have HX : Hid (FitL 0 wl ts) := ⟨by rw [HLE.out, HN.out], fun i hi => HF.out i (by rw [HN.out] at hi; omega)⟩
        go_wp2
        go_ret
        exact ⟨.inl ⟨HX.out, rfl⟩, go2 HB1.out HBR.out⟩
  · have e1 : ((L : Int) != (N : Int)) = true := by simp; omega
    have HX : Hid (¬ FitL 0 wl ts) := fun h => hl (by have := h.1; rw [HLE.out, HN.out] at this; exact this)
    go_enter Tryd.func12, Tryd.ntmps12
    go_wp2_with fail
    refine HW.out.mono ?_
    rintro e w1 ⟨rfl, hi1, hl1, hb1⟩
    have HB1 := hid hb1
    clear hi1 hb1
    go_wp2
    go_ret
    exact ⟨.inr ⟨HX.out, rfl⟩, HB1.out⟩
end Go.Proofs.YtabefhpgeaihgaaDoor.V
