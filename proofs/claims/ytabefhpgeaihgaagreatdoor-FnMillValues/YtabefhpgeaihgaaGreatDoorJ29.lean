import Derived.Test.YtabefhpgeaihgaaGreatDoorJ18
import Derived.Test.YtabefhpgeaihgaaGreatDoorJ16
/-! Draws: texts, numbers. -/
namespace Go.Proofs.YtabefhpgeaihgaaGreatDoor.V
open Go.RowKit Go.Shelf
set_option maxRecDepth 20000
theorem own_sv {w w1 : World} {R B e size k : Nat} {v : Value} {xs : List Value} (h : w.ownsRow B e size v k xs) (hb : Sv (fun k => k = R) w w1) (hR : R < B) : w1.ownsRow B e size v k xs := by
  obtain ⟨h1, h2 | ⟨g, cap, cur, a, b, c, d⟩⟩ := h
  · exact ⟨h1, .inl h2⟩
  · refine ⟨h1, .inr ⟨g, cap, cur, a, b, ?_, d⟩⟩
    have hg : g < w.heap.size := (Array.getElem?_eq_some_iff.1 c).1
    rw [hb.block g hg (by omega)]; exact c
theorem At.grown {R b B : Nat} {w W W2 : World} {row : Option Nat} (h : At R w b W) (hg : W.grownBy W2 row) (hr : ∀ k, row = some k → B ≤ k) (hR : R < B) (hB : w.heap.size ≤ B) (hBW : B ≤ W.heap.size) : At R w b W2 := by
  have hb : Below B W W2 := (Below.refl B W).grown hg hBW hr
  obtain ⟨q, h1, h2, h3⟩ := h
  obtain ⟨ad, n, cap, e1, e2, e3⟩ := h2
  refine ⟨q, h1, ⟨ad, n, cap, (hb.block R hR).trans e1, e2, ?_⟩, ⟨hb.os.trans h3.os, hb.tape.trans h3.tape, hb.output.trans h3.output, Nat.le_trans h3.size hb.size, fun k hk hs => (hb.block k (by omega)).trans (h3.block k hk hs)⟩⟩
  rcases e3 with e3 | ⟨a, f1, f2, f3⟩
  · exact .inl e3
  · refine .inr ⟨a, f1, f2, fun j hj => ?_⟩
    obtain ⟨x, hx⟩ := f3 j hj
    exact ⟨x, (hb.cell (p := a.add j) (by rw [add_block]; omega)).trans hx⟩
set_option maxHeartbeats 4000000 in
theorem text_at {R b : Nat} {w W : World} (h : At R w b W) (hb : b ≤ 800000) :
    Calls Tryz.prog 51 #[.pointer (some ⟨R, 0, none⟩)] W fun e w' => ∃ s : ByteArray, e = .returned (.string s) ∧ At R w (b + 10) w' := by
  have HA := hid h
  have HR := hid h.lt
  have HZ := hid h.size
  clear h
  obtain ⟨i0, hi, hz0, hz1, hz2⟩ := info_parts (P := Tryz.prog) (e := 5) (z := .int .u8 0) (size := 1) (bytes := 1) (by kernel_rfl)
  have HHI := hid (And.intro hi (And.intro hz0 (And.intro hz1 hz2)))
  clear hi hz0 hz1 hz2
  go_enter Tryz.func51, Tryz.ntmps51
  go_wp2_with fail
  refine (pick_at HA.out (by omega) 12 (by omega)).mono ?_
  rintro e w1 ⟨x, rfl, hx, a1, s1⟩
  have HA1 := hid a1
  have HZ1 := hid s1.size
  clear a1 s1
  by_cases h6 : x ≤ 6
  · obtain rfl | rfl | rfl | rfl | rfl | rfl | rfl : x = 0 ∨ x = 1 ∨ x = 2 ∨ x = 3 ∨ x = 4 ∨ x = 5 ∨ x = 6 := by omega
    iterate 6
      · go_wp2
        go_ret
        exact ⟨_, rfl, HA1.out.mono (by omega)⟩
    · go_wp2_with fail
      refine (path_at HA1.out (by omega)).mono ?_
      rintro e w2 ⟨s, rfl, a2⟩
      have HA2 := hid a2
      clear a2
      go_wp2
      go_ret
      exact ⟨s, rfl, HA2.out.mono (by omega)⟩
  · have n0 : ¬ x = 0 := by omega
    have n1 : ¬ x = 1 := by omega
    have n2 : ¬ x = 2 := by omega
    have n3 : ¬ x = 3 := by omega
    have n4 : ¬ x = 4 := by omega
    have n5 : ¬ x = 5 := by omega
    have n6 : ¬ x = 6 := by omega
    go_wp2_with fail
    refine (pick_at HA1.out (by omega) 5 (by omega)).mono ?_
    rintro e w2 ⟨y, rfl, hy, a2, s2⟩
    have HA2 := hid a2
    have HZ2 := hid (Nat.le_trans HZ1.out s2.size)
    have hy4 : y ≤ 4 := by omega
    clear a2 s2 hy n0 n1 n2 n3 n4 n5 n6 h6 hx
    have HST : Hid ((w2.alloc (.cells #[] 5)).ownsRow W.heap.size 5 1 (.slice (some ⟨w2.heap.size, 0, none⟩) 0 0) 0 (Lib.byteCells [])) :=
      ⟨rfl, .inr ⟨w2.heap.size, 0, #[], rfl, HZ2.out, heap_alloc_new w2 _, Nat.le_refl _, by unfold maxLen; omega, rfl, rfl⟩⟩
    go_wp2
    go_loopw [4, 5] (fun v c wr => ∃ (L : List UInt8) (i : Nat), c = .int .i64 i ∧ i ≤ y + 1 ∧ L.length = i ∧ wr.ownsRow W.heap.size 5 1 v L.length (Lib.byteCells L) ∧ At R w (b + 2 + i) wr ∧ W.heap.size ≤ wr.heap.size) (fun _ c _ => y + 1 - (intOf c).toNat)
    case atStart => exact ⟨[], 0, rfl, by omega, rfl, HST.out, HA2.out.alloc _, by have := HZ2.out; simp; omega⟩
    case round =>
      obtain ⟨L, i, rfl, hi, hL, hown, hat, hsz⟩ := hrel
      have OWN := hid hown
      have HAT := hid hat
      have HSZ := hid hsz
      have HLL := hid hL
      clear hown hat hsz hL
      by_cases hlt : i ≤ y
      · obtain ⟨ao, cap, rfl⟩ := own_slice' OWN.out
        go_wp2_with fail
        refine (pick_at HAT.out (by omega) 4 (by omega)).mono ?_
        rintro e w3 ⟨z, rfl, hz, a3, s3⟩
        have HA3 := hid a3
        have OW3 := hid (own_sv OWN.out s3 HR.out)
        have HS3 := hid (Nat.le_trans HSZ.out s3.size)
        have hl6 : L.length ≤ 5 := by have := HLL.out; omega
        clear a3 s3
        obtain ⟨c, hc⟩ : ∃ c : UInt8, (97 : Int) + z = c.toNat := by
          obtain rfl | rfl | rfl | rfl : z = 0 ∨ z = 1 ∨ z = 2 ∨ z = 3 := by omega
          · exact ⟨97, rfl⟩
          · exact ⟨98, rfl⟩
          · exact ⟨99, rfl⟩
          · exact ⟨100, rfl⟩
        have hcb := c.toNat_lt
        have hz4 : (z : Int) ≤ 3 := by omega
        go_wp2_with (at_builtin; refine wpList_append_own _ rfl _ _ 22 rfl W.heap.size 5 i0 (.int .u8 0) 1 1 Tryz.underlying22 HHI.out.1 HHI.out.2.1 HHI.out.2.2.1 HHI.out.2.2.2 rfl (by decide) _ _ _ rfl (OW3.out.alloc _) ⟨w3.heap.size, 0, none⟩ 1 1 [.int .u8 c.toNat] rfl rfl ?c1 ?c2 ?c3 ?c4 ?c5 ?_)
        case c1 =>
          intro j u hj
          match j, hj with
          | 0, hj => simp at hj; subst hj; simp [Addr.add]
        case c2 => intro u hu; simp at hu; subst hu; rfl
        case c3 => unfold maxLen; omega
        case c4 => omega
        case c5 => have := HS3.out; simp; omega
        intro v' w4 hown' hgrow _
        have HO4 : Hid (w4.ownsRow W.heap.size 5 1 v' (L ++ [c]).length (Lib.byteCells (L ++ [c]))) := by
          show World.ownsRow _ _ _ _ _ _ _
          simpa [Lib.byteCells] using hown'
        have HA4 := hid ((HA3.out.alloc (.cells #[.int .u8 c.toNat] 5)).grown hgrow (fun k e => (OW3.out.lt k e).1) HR.out HZ.out (by have := HS3.out; simp; omega))
        have HS4 := hid (Nat.le_trans HS3.out (Nat.le_trans (by simp) hgrow.size))
        obtain ⟨a1, c1, rfl⟩ := own_slice' HO4.out
        clear hown' hgrow
        go_wp2
        go_roundw
        case rel => exact ⟨L ++ [c], i + 1, by go_num, by omega, by simp [HLL.out], HO4.out, HA4.out.mono (by omega), HS4.out⟩
        case measure => simp [intOf]; omega
      · obtain ⟨ao, cap, rfl⟩ := own_slice' OWN.out
        have hcv := conv_row wr W.heap.size _ L OWN.out
        go_wp2
        go_ret
        exact ⟨_, rfl, HAT.out.mono (by omega)⟩
end Go.Proofs.YtabefhpgeaihgaaGreatDoor.V
/-! What fits a built word: the program's. Printed by gen_vfit.py. -/
namespace Go.Proofs.YtabefhpgeaihgaaGreatDoor.V
open Go.RowKit Go.Shelf
set_option maxRecDepth 20000
/-- Ints that came in at an address. -/
def IntsA (W : World) (a : Addr) (ts : List Int) : Prop := ∀ i, i < ts.length → W.cell? (a.add i) = some (.int .i64 (ts.getD i 0))
theorem IntsA.next {W V : World} {a : Addr} {ts : List Int} (h : IntsA W a ts) (hg : a.block < W.heap.size) (hb : Below W.heap.size W V) : IntsA V a ts := fun i hi => (hb.cell (p := a.add i) (by unfold Addr.add; split <;> exact hg)).trans (h i hi)
/-- The signs of built words lie in a variable. -/
structure EnvG (W : World) : Prop where
  sz : 4 < W.heap.size
  sg : ∀ op : Int, 6 ≤ op → op ≤ 12 → ∃ ka : Addr, W.cell? ⟨4, op.toNat * 2, none⟩ = some (.slice (some ka) (wants (-1) op).length (wants (-1) op).length) ∧ W.cell? ⟨4, op.toNat * 2 + 1, none⟩ = some (.int .i64 (gives op)) ∧ ka.block < W.heap.size ∧ IntsA W ka (wants (-1) op)
theorem EnvG.next {W V : World} (h : EnvG W) (hb : Below W.heap.size W V) : EnvG V := by
  refine ⟨Nat.lt_of_lt_of_le h.sz hb.size, fun op h6 h12 => ?_⟩
  obtain ⟨g, h1, h2, h3, h4⟩ := h.sg op h6 h12
  exact ⟨g, (hb.cell (p := ⟨4, _, none⟩) h.sz).trans h1, (hb.cell (p := ⟨4, _, none⟩) h.sz).trans h2, Nat.lt_of_lt_of_le h3 hb.size, h4.next h3 hb⟩
set_option maxHeartbeats 1000000 in
theorem kindFits_t (x t : Int) (h : fit1 (-1) x t) (w : World) :
    Calls Tryz.prog 110 #[.int .i64 x, .int .i64 t] w fun e w' => e = .returned (.bool true) ∧ w' = w := by
  by_cases htx : x = t
  · subst htx
    have hb : (x == x) = true := by simp
    go_enter Tryz.func110, Tryz.ntmps110
    go_wp2
    go_ret
    exact ⟨rfl, rfl⟩
  · have hb : (x == t) = false := by simpa using htx
    obtain ⟨rfl, h3, h10⟩ := h.resolve_left (fun e => htx e.symm)
    have HLI := hid (fun W => millIsInteger_t t h3 h10 W)
    clear h h3 h10
    go_enter Tryz.func110, Tryz.ntmps110
    go_wp2_with (first | (go_at_call 21; refine (HLI.out _).mono ?_; rintro e w' ⟨rfl, hw⟩; have hw2 := hw.symm; clear hw; subst hw2) | fail)
    go_ret
    exact ⟨rfl, rfl⟩
set_option maxHeartbeats 1000000 in
theorem kindFits_f (x t : Int) (h : ¬ fit1 (-1) x t) (w : World) :
    Calls Tryz.prog 110 #[.int .i64 x, .int .i64 t] w fun e w' => e = .returned (.bool false) ∧ w' = w := by
  have hb : (x == t) = false := by simpa using fun e : x = t => h (.inl e.symm)
  by_cases hx : x = -1
  · subst hx
    have hi : ¬ (3 ≤ t ∧ t ≤ 10) := fun hh => h (.inr ⟨rfl, hh⟩)
    have HLI := hid (fun W => millIsInteger_f t hi W)
    clear h hi
    go_enter Tryz.func110, Tryz.ntmps110
    go_wp2_with (first | (go_at_call 21; refine (HLI.out _).mono ?_; rintro e w' ⟨rfl, hw⟩; have hw2 := hw.symm; clear hw; subst hw2) | fail)
    go_ret
    exact ⟨rfl, rfl⟩
  · have hb0 : (x == -1) = false := by simpa using hx
    go_enter Tryz.func110, Tryz.ntmps110
    go_wp2
    go_ret
    exact ⟨rfl, rfl⟩
set_option maxHeartbeats 4000000 in
theorem fit_any (k : Addr) (g N cap : Nat) (wl ts : List Int) (gv : Int) (hL : wl.length ≤ 3) (hN : ts.length = N) (hN2 : N ≤ 1048576) (w : World) (hk : k.block < w.heap.size) (hg : N = 0 ∨ g < w.heap.size) (hwl : IntsA w k wl) (hts : IntsIn w g ts) (ad : Option Addr) (had : N = 0 ∨ ad = some ⟨g, 0, none⟩) :
    Calls Tryz.prog 90 #[.agg #[.slice (some k) wl.length wl.length, .int .i64 gv], .slice ad N cap] w fun e w' => ((FitL (-1) wl ts ∧ e = .returned (.bool true)) ∨ (¬ FitL (-1) wl ts ∧ e = .returned (.bool false))) ∧ Below w.heap.size w w' := by
  have HN := hid hN
  have HTS := hid hts
  have HWL := hid hwl
  obtain ⟨L, hLe⟩ : ∃ L, wl.length = L := ⟨_, rfl⟩
  rw [hLe] at hL ⊢
  have HLE := hid hLe
  clear hN hts hwl hLe
  have HBX : Hid (∀ V, Below (w.heap.size + 1) (w.alloc (.cells #[.slice (some k) L L, .int .i64 gv] 119)) V → V.cell? ⟨w.heap.size, 0, none⟩ = some (.slice (some k) L L) ∧ Below w.heap.size w V) := fun V hV => by
    refine ⟨?_, (alloc_below w _).trans (hV.mono (by omega))⟩
    have e := heap_new w (.cells #[.slice (some k) L L, .int .i64 gv] 119)
    have e2 := (hV.block w.heap.size (by omega)).trans e
    unfold World.cell?
    rw [e2]
    rfl
  have HB0 := hid (Below.refl (w.heap.size + 1) (w.alloc (.cells #[.slice (some k) L L, .int .i64 gv] 119)))
  obtain ⟨s0, _⟩ := HBX.out _ HB0.out
  by_cases hl : N = L
  · subst hl
    have e1 : ((N : Int) != (N : Int)) = false := by simp
    go_enter Tryz.func90, Tryz.ntmps90
    go_wp2
    clear s0
    go_loopw [15] (fun c wr => ∃ j : Nat, c = .int .i64 j ∧ j ≤ N ∧ (∀ i, i < j → fit1 (-1) (wl.getD i 0) (ts.getD i 0)) ∧ Below (w.heap.size + 1) (w.alloc (.cells #[.slice (some k) N N, .int .i64 gv] 119)) wr) (fun c _ => N - (intOf c).toNat)
    case atStart => exact ⟨0, rfl, by omega, fun i h => by omega, HB0.out⟩
    case round =>
      obtain ⟨j, rfl, hj, hfit, hbr⟩ := hrel
      have HF := hid hfit
      have HBR := hid hbr
      obtain ⟨s0, hbw⟩ := HBX.out _ hbr
      have HBW := hid hbw
      clear hfit hbr hbw
      by_cases hlt : j < N
      · obtain rfl : ad = some ⟨g, 0, none⟩ := had.resolve_left (by omega)
        have hg2 : g < w.heap.size := hg.resolve_left (by omega)
        have c1 : wr.cell? ⟨g, j, none⟩ = some (.int .i64 (ts.getD j 0)) := (HTS.out.next hg2 HBW.out) j (by rw [HN.out]; exact hlt)
        have c2 : wr.cell? (k.add j) = some (.int .i64 (wl.getD j 0)) := (HWL.out.next hk HBW.out) j (by rw [HLE.out]; exact hlt)
        obtain ⟨t, ht⟩ : ∃ t, ts.getD j 0 = t := ⟨_, rfl⟩
        obtain ⟨x, hx⟩ : ∃ x, wl.getD j 0 = x := ⟨_, rfl⟩
        rw [ht] at c1
        rw [hx] at c2
        have HNX : Hid (fit1 (-1) x t → ∀ i, i < j + 1 → fit1 (-1) (wl.getD i 0) (ts.getD i 0)) := fun hf i hi => by
          by_cases hij : i = j
          · rw [hij, ht, hx]; exact hf
          · exact HF.out i (by omega)
        have HNO : Hid (¬ fit1 (-1) x t → ¬ FitL (-1) wl ts) := fun hf h => hf (by have := h.2 j (by rw [HN.out]; exact hlt); rwa [ht, hx] at this)
        by_cases hf : fit1 (-1) x t
        · have HX := hid (HNX.out hf)
          have HLI := hid (fun W => kindFits_t x t hf W)
          clear hf
          go_wp2_with (first | (go_at_call 110; refine (HLI.out _).mono ?_; rintro e w' ⟨rfl, hw⟩; have hw2 := hw.symm; clear hw; subst hw2) | fail)
          go_roundw
          case rel => exact ⟨j + 1, by go_num, by omega, HX.out, HBR.out⟩
          case measure => simp [intOf]; omega
        · have HX := hid (HNO.out hf)
          have HLI := hid (fun W => kindFits_f x t hf W)
          clear hf
          go_wp2_with (first | (go_at_call 110; refine (HLI.out _).mono ?_; rintro e w' ⟨rfl, hw⟩; have hw2 := hw.symm; clear hw; subst hw2) | fail)
          go_ret
          exact ⟨.inr ⟨HX.out, rfl⟩, HBW.out⟩
      · have HX : Hid (FitL (-1) wl ts) := ⟨by rw [HLE.out, HN.out], fun i hi => HF.out i (by rw [HN.out] at hi; omega)⟩
        go_wp2
        go_ret
        exact ⟨.inl ⟨HX.out, rfl⟩, HBW.out⟩
  · have e1 : ((N : Int) != (L : Int)) = true := by simp; omega
    have HX : Hid (¬ FitL (-1) wl ts) := fun h => hl (by have := h.1; rw [HLE.out, HN.out] at this; exact this.symm)
    go_enter Tryz.func90, Tryz.ntmps90
    go_wp2
    go_ret
    exact ⟨.inr ⟨HX.out, rfl⟩, (HBX.out _ HB0.out).2⟩
end Go.Proofs.YtabefhpgeaihgaaGreatDoor.V
