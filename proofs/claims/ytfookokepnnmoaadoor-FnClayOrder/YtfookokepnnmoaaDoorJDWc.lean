import Derived.Laws.StructEq
import Derived.Test.YtfookokepnnmoaaDoorJIOver
import Derived.Test.YtfookokepnnmoaaDoorJSKids
import Derived.Test.YtfookokepnnmoaaDoorJQuiet
/-! The laws' wcValue. -/
namespace Go.Proofs.YtfookokepnnmoaaDoor
open Go.RowKit
set_option maxRecDepth 20000
theorem two_box {w W : World} {u v : Value} {t t' : TypeId} (h : Below (w.heap.size + 1 + 1) ((w.alloc (.cells #[u] t)).alloc (.cells #[v] t')) W) : (W.cell? ⟨w.heap.size, 0, none⟩ = some u ∧ W.cell? ⟨w.heap.size + 1, 0, none⟩ = some v) ∧ Below w.heap.size w W := by
  refine ⟨⟨?_, ?_⟩, (below_two' w _ _).trans (h.mono (by omega))⟩
  · rw [h.cell (p := ⟨w.heap.size, 0, none⟩) (by show w.heap.size < w.heap.size + 1 + 1; omega), ((Below.refl (w.heap.size + 1) (w.alloc (.cells #[u] t))).alloc (by simp) _).cell (p := ⟨w.heap.size, 0, none⟩) (Nat.lt_succ_self _), cell_new_row]; rfl
  · have h2 := cell_new_row (w.alloc (.cells #[u] t)) #[v] t' 0
    rw [World.size_alloc] at h2
    rw [h.cell (p := ⟨w.heap.size + 1, 0, none⟩) (Nat.lt_succ_self _)]
    exact h2
theorem neqBin (k n kd k' n' kd' : Int) (t t' : ByteArray) (w : World) : (binOp .neq 51 (.agg #[.int .i64 k, .int .i64 n, .string t, .int .i64 kd]) (.agg #[.int .i64 k', .int .i64 n', .string t', .int .i64 kd'])).run Tryd.prog w = .ok (.bool (!eqB k n t kd k' n' t' kd')) w := by
  rw [run_neq_struct, eqA]; rfl
set_option maxHeartbeats 2000000 in
theorem wcValue_any (b o N cap b' o' N' cap' : Nat) (l l' : List At) (w : World) (hl : l.length = N) (hl' : l'.length = N') (hN : N ≤ 1048576) (hN' : N' ≤ 1048576) (hb : b < w.heap.size) (hb' : b' < w.heap.size) (hn : AtomsAt w b o l) (hn' : AtomsAt w b' o' l') :
    Calls Tryd.prog 10 #[.agg #[.slice (some ⟨b, o, none⟩) N cap], .agg #[.slice (some ⟨b', o', none⟩) N' cap']] w fun e w' => Says e (l = l') ∧ Below w.heap.size w w' := by
  have HL := hid hl
  have HL' := hid hl'
  have HN := hid hn
  have HN' := hid hn'
  have HB0 := hid (Below.refl (w.heap.size + 1 + 1) ((w.alloc (.cells #[.slice (some ⟨b, o, none⟩) N cap] 25)).alloc (.cells #[.slice (some ⟨b', o', none⟩) N' cap'] 25)))
  clear hl hl' hn hn'
  by_cases hNN : N = N'
  · subst hNN
    have hne : ((N : Int) != (N : Int)) = false := by simp
    go_enter Tryd.func10, Tryd.ntmps10
    go_wp2
    go_loopw [5] (fun i wr => ∃ j : Nat, j ≤ N ∧ i = .int .i64 j ∧ l.take j = l'.take j ∧ Below (w.heap.size + 1 + 1) ((w.alloc (.cells #[.slice (some ⟨b, o, none⟩) N cap] 25)).alloc (.cells #[.slice (some ⟨b', o', none⟩) N cap'] 25)) wr) (fun i _ => N - (intOf i).toNat)
    case atStart => exact ⟨0, Nat.zero_le _, rfl, by simp, HB0.out⟩
    case round =>
      obtain ⟨j, hj, rfl, htk, hbw⟩ := hrel
      have HTK := hid htk
      have HBW := hid hbw
      obtain ⟨⟨t0, t1⟩, hbb⟩ := two_box hbw
      clear htk hbw
      by_cases hlt : j < N
      · obtain ⟨x, hx⟩ : ∃ x, l[j]? = some x := ⟨_, List.getElem?_eq_getElem (by rw [HL.out]; exact hlt)⟩
        obtain ⟨y, hy⟩ : ∃ y, l'[j]? = some y := ⟨_, List.getElem?_eq_getElem (by rw [HL'.out]; exact hlt)⟩
        obtain ⟨a0, a1, a2, a3⟩ := (HN.out.below hbb hb) j x hx
        obtain ⟨c0, c1, c2, c3⟩ := (HN'.out.below hbb hb') j y hy
        have HXY := hid (And.intro hx hy)
        obtain ⟨xk, xn, xt, xd⟩ := x
        obtain ⟨yk, yn, yt, yd⟩ := y
        simp only at a0 a1 a2 a3 c0 c1 c2 c3
        have neqa := neqBin xk xn xd yk yn yd xt yt
        clear hx hy
        cases hE : eqB xk xn xt xd yk yn yt yd
        · have HF : Hid (¬ l = l') := fun h => by
            have h1 := HXY.out.1
            rw [h, HXY.out.2] at h1
            cases h1
            have : eqB xk xn xt xd xk xn xt xd = true := eqB_iff.2 ⟨rfl, rfl, rfl, rfl⟩
            rw [this] at hE
            cases hE
          rw [hE] at neqa
          go_wp2_with fail
          go_quiet (fail)
          go_wp2
          go_ret
          exact ⟨says_f HF.out, below_drewN hbb nq⟩
        · have HNX : Hid (l.take (j + 1) = l'.take (j + 1)) := by
            show _ = _
            obtain ⟨e1, e2, e3, e4⟩ := eqB_iff.1 hE
            obtain ⟨hx, hy⟩ := HXY.out
            obtain ⟨h1, h2⟩ := List.getElem?_eq_some_iff.1 hx
            obtain ⟨h3, h4⟩ := List.getElem?_eq_some_iff.1 hy
            have e5 : xt = yt := bytes_eq (by rw [e3]; simp)
            rw [List.take_succ_eq_append_getElem h1, List.take_succ_eq_append_getElem h3, HTK.out, h2, h4, e1, e2, e4, e5]
          rw [hE] at neqa
          go_wp2_with fail
          go_quiet (fail)
          go_wp2
          go_roundw
          case rel => exact ⟨j + 1, by omega, by go_num, HNX.out, below_drewN HBW.out nq⟩
          case measure => simp [intOf]; omega
      · obtain rfl : j = N := by omega
        have HE : Hid (l = l') := by
          show l = l'
          have h := HTK.out
          rwa [List.take_of_length_le (by rw [HL.out]; omega), List.take_of_length_le (by rw [HL'.out]; omega)] at h
        go_wp2
        go_ret
        exact ⟨says_t HE.out, hbb⟩
  · have hne : ((N : Int) != (N' : Int)) = true := by simp; omega
    have HF : Hid (¬ l = l') := fun h => hNN (by rw [← HL.out, ← HL'.out, h])
    go_enter Tryd.func10, Tryd.ntmps10
    go_wp2
    go_ret
    exact ⟨says_f HF.out, (two_box HB0.out).2⟩
end Go.Proofs.YtfookokepnnmoaaDoor
