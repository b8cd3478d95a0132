import Derived.Test.YtabefhpgeaihgaaDoorVFitS
/-! What fits a built word: the program's. Printed by gen_vfit.py. -/
namespace Go.Proofs.YtabefhpgeaihgaaDoor.V
open Go.RowKit Go.Shelf
set_option maxRecDepth 20000
/-- Ints that came in at an address. -/
def IntsA (W : World) (a : Addr) (ts : List Int) : Prop := ∀ i, i < ts.length → W.cell? (a.add i) = some (.int .i64 (ts.getD i 0))
theorem IntsA.next {W V : World} {a : Addr} {ts : List Int} (h : IntsA W a ts) (hg : a.block < W.heap.size) (hb : Below W.heap.size W V) : IntsA V a ts := fun i hi => (hb.cell (p := a.add i) (by unfold Addr.add; split <;> exact hg)).trans (h i hi)
/-- The signs of built words lie in a variable. -/
structure EnvG (W : World) : Prop where
  sz : 3 < W.heap.size
  sg : ∀ op : Int, 6 ≤ op → op ≤ 12 → ∃ ka : Addr, W.cell? ⟨3, op.toNat * 2, none⟩ = some (.slice (some ka) (wants (-1) op).length (wants (-1) op).length) ∧ W.cell? ⟨3, op.toNat * 2 + 1, none⟩ = some (.int .i64 (gives op)) ∧ ka.block < W.heap.size ∧ IntsA W ka (wants (-1) op)
theorem EnvG.next {W V : World} (h : EnvG W) (hb : Below W.heap.size W V) : EnvG V := by
  refine ⟨Nat.lt_of_lt_of_le h.sz hb.size, fun op h6 h12 => ?_⟩
  obtain ⟨g, h1, h2, h3, h4⟩ := h.sg op h6 h12
  exact ⟨g, (hb.cell (p := ⟨3, _, none⟩) h.sz).trans h1, (hb.cell (p := ⟨3, _, none⟩) h.sz).trans h2, Nat.lt_of_lt_of_le h3 hb.size, h4.next h3 hb⟩
set_option maxHeartbeats 1000000 in
theorem kindFits_t (x t : Int) (h : fit1 (-1) x t) (w : World) :
    Calls Tryd.prog 61 #[.int .i64 x, .int .i64 t] w fun e w' => e = .returned (.bool true) ∧ w' = w := by
  by_cases htx : x = t
  · subst htx
    have hb : (x == x) = true := by simp
    go_enter Tryd.func61, Tryd.ntmps61
    go_wp2
    go_ret
    exact ⟨rfl, rfl⟩
  · have hb : (x == t) = false := by simpa using htx
    obtain ⟨rfl, h3, h10⟩ := h.resolve_left (fun e => htx e.symm)
    have HLI := hid (fun W => millIsInteger_t t h3 h10 W)
    clear h h3 h10
    go_enter Tryd.func61, Tryd.ntmps61
    go_wp2_with (first | (go_at_call 43; refine (HLI.out _).mono ?_; rintro e w' ⟨rfl, hw⟩; have hw2 := hw.symm; clear hw; subst hw2) | fail)
    go_ret
    exact ⟨rfl, rfl⟩
set_option maxHeartbeats 1000000 in
theorem kindFits_f (x t : Int) (h : ¬ fit1 (-1) x t) (w : World) :
    Calls Tryd.prog 61 #[.int .i64 x, .int .i64 t] w fun e w' => e = .returned (.bool false) ∧ w' = w := by
  have hb : (x == t) = false := by simpa using fun e : x = t => h (.inl e.symm)
  by_cases hx : x = -1
  · subst hx
    have hi : ¬ (3 ≤ t ∧ t ≤ 10) := fun hh => h (.inr ⟨rfl, hh⟩)
    have HLI := hid (fun W => millIsInteger_f t hi W)
    clear h hi
    go_enter Tryd.func61, Tryd.ntmps61
    go_wp2_with (first | (go_at_call 43; refine (HLI.out _).mono ?_; rintro e w' ⟨rfl, hw⟩; have hw2 := hw.symm; clear hw; subst hw2) | fail)
    go_ret
    exact ⟨rfl, rfl⟩
  · have hb0 : (x == -1) = false := by simpa using hx
    go_enter Tryd.func61, Tryd.ntmps61
    go_wp2
    go_ret
    exact ⟨rfl, rfl⟩
set_option maxHeartbeats 4000000 in
theorem fit_any (k : Addr) (g N cap : Nat) (wl ts : List Int) (gv : Int) (hL : wl.length ≤ 3) (hN : ts.length = N) (hN2 : N ≤ 1048576) (w : World) (hk : k.block < w.heap.size) (hg : N = 0 ∨ g < w.heap.size) (hwl : IntsA w k wl) (hts : IntsIn w g ts) (ad : Option Addr) (had : N = 0 ∨ ad = some ⟨g, 0, none⟩) :
    Calls Tryd.prog 45 #[.agg #[.slice (some k) wl.length wl.length, .int .i64 gv], .slice ad N cap] w fun e w' => ((FitL (-1) wl ts ∧ e = .returned (.bool true)) ∨ (¬ FitL (-1) wl ts ∧ e = .returned (.bool false))) ∧ Below w.heap.size w w' := by
  have HN := hid hN
  have HTS := hid hts
  have HWL := hid hwl
  obtain ⟨L, hLe⟩ : ∃ L, wl.length = L := ⟨_, rfl⟩
  rw [hLe] at hL ⊢
  have HLE := hid hLe
  clear hN hts hwl hLe
  have HBX : Hid (∀ V, Below (w.heap.size + 1) (w.alloc (.cells #[.slice (some k) L L, .int .i64 gv] 76)) V → V.cell? ⟨w.heap.size, 0, none⟩ = some (.slice (some k) L L) ∧ Below w.heap.size w V) := fun V hV => by
    refine ⟨?_, (alloc_below w _).trans (hV.mono (by omega))⟩
    have e := heap_new w (.cells #[.slice (some k) L L, .int .i64 gv] 76)
    have e2 := (hV.block w.heap.size (by omega)).trans e
    unfold World.cell?
    rw [e2]
    rfl
  have HB0 := hid (Below.refl (w.heap.size + 1) (w.alloc (.cells #[.slice (some k) L L, .int .i64 gv] 76)))
  obtain ⟨s0, _⟩ := HBX.out _ HB0.out
  by_cases hl : N = L
  · subst hl
    have e1 : ((N : Int) != (N : Int)) = false := by simp
    go_enter Tryd.func45, Tryd.ntmps45
    go_wp2
    clear s0
    go_loopw [15] (fun c wr => ∃ j : Nat, c = .int .i64 j ∧ j ≤ N ∧ (∀ i, i < j → fit1 (-1) (wl.getD i 0) (ts.getD i 0)) ∧ Below (w.heap.size + 1) (w.alloc (.cells #[.slice (some k) N N, .int .i64 gv] 76)) wr) (fun c _ => N - (intOf c).toNat)
    case atStart => exact ⟨0, rfl, by omega, fun i h => by omega, HB0.out⟩
    case round =>
      obtain ⟨j, rfl, hj, hfit, hbr⟩ := hrel
      have HF := hid hfit
      have HBR := hid hbr
      obtain ⟨s0, hbw⟩ := HBX.out _ hbr
      have HBW := hid hbw
      clear hfit hbr hbw
      by_cases hlt : j < N
      · obtain rfl : ad = some ⟨g, 0, none⟩ := had.resolve_left (by omega)
        have hg2 : g < w.heap.size := hg.resolve_left (by omega)
        have c1 : wr.cell? ⟨g, j, none⟩ = some (.int .i64 (ts.getD j 0)) := (HTS.out.next hg2 HBW.out) j (by rw [HN.out]; exact hlt)
        have c2 : wr.cell? (k.add j) = some (.int .i64 (wl.getD j 0)) := (HWL.out.next hk HBW.out) j (by rw [HLE.out]; exact hlt)
        obtain ⟨t, ht⟩ : ∃ t, ts.getD j 0 = t := ⟨_, rfl⟩
        obtain ⟨x, hx⟩ : ∃ x, wl.getD j 0 = x := ⟨_, rfl⟩
        rw [ht] at c1
        rw [hx] at c2
        have HNX : Hid (fit1 (-1) x t → ∀ i, i < j + 1 → fit1 (-1) (wl.getD i 0) (ts.getD i 0)) := fun hf i hi => by
          by_cases hij : i = j
          · rw [hij, ht, hx]; exact hf
          · exact HF.out i (by omega)
        have HNO : Hid (¬ fit1 (-1) x t → ¬ FitL (-1) wl ts) := fun hf h => hf (by have := h.2 j (by rw [HN.out]; exact hlt); rwa [ht, hx] at this)
        by_cases hf : fit1 (-1) x t
        · have HX := hid (HNX.out hf)
          have HLI := hid (fun W => kindFits_t x t hf W)
          clear hf
          go_wp2_with (first | (go_at_call 61; refine (HLI.out _).mono ?_; rintro e w' ⟨rfl, hw⟩; have hw2 := hw.symm; clear hw; subst hw2) | fail)
          go_roundw
          case rel => exact ⟨j + 1, by go_num, by omega, HX.out, HBR.out⟩
          case measure => simp [intOf]; omega
        · have HX := hid (HNO.out hf)
          have HLI := hid (fun W => kindFits_f x t hf W)
          clear hf
          go_wp2_with (first | (go_at_call 61; refine (HLI.out _).mono ?_; rintro e w' ⟨rfl, hw⟩; have hw2 := hw.symm; clear hw; subst hw2) | fail)
          go_ret
          exact ⟨.inr ⟨HX.out, rfl⟩, HBW.out⟩
      · have HX : Hid (FitL (-1) wl ts) := ⟨by rw [HLE.out, HN.out], fun i hi => HF.out i (by rw [HN.out] at hi; omega)⟩
        go_wp2
        go_ret
        exact ⟨.inl ⟨HX.out, rfl⟩, HBW.out⟩
  · have e1 : ((N : Int) != (L : Int)) = true := by simp; omega
    have HX : Hid (¬ FitL (-1) wl ts) := fun h => hl (by have := h.1; rw [HLE.out, HN.out] at this; exact this.symm)
    go_enter Tryd.func45, Tryd.ntmps45
    go_wp2
    go_ret
    exact ⟨.inr ⟨HX.out, rfl⟩, (HBX.out _ HB0.out).2⟩
end Go.Proofs.YtabefhpgeaihgaaDoor.V
