import Derived.Test.YtfndbnbnimhnaaaGreatDoorJ11
/-! The model's built words: the type that they give. -/
namespace Go.Proofs.YtfndbnbnimhnaaaGreatDoor.C
open Go.RowKit
set_option maxRecDepth 20000
theorem below_drewN {B : Nat} {w w' : World} (h : Below B w w') (n : Nat) : Below B w (w'.drewN n) := h.trans ⟨rfl, rfl, rfl, Nat.le_refl _, fun _ _ => rfl⟩
theorem builtWord_c (t : Int) (h1 : 1 ≤ t) (h2 : t ≤ 12) (w : World) :
    Calls Tryz.prog 113 #[.int .i64 t] w fun e w' => (∃ s, e = .returned (.tuple #[.string s, .int .i64 ((sig t).1.length : Nat)])) ∧ w' = w := by
  obtain rfl | rfl | rfl | rfl | rfl | rfl | rfl | rfl | rfl | rfl | rfl | rfl : t = 1 ∨ t = 2 ∨ t = 3 ∨ t = 4 ∨ t = 5 ∨ t = 6 ∨ t = 7 ∨ t = 8 ∨ t = 9 ∨ t = 10 ∨ t = 11 ∨ t = 12 := by omega
  all_goals go_enter Tryz.func113, Tryz.ntmps113
  all_goals go_wp2
  all_goals go_ret2
  all_goals exact ⟨⟨_, rfl⟩, rfl⟩
set_option maxHeartbeats 4000000 in
theorem l12Built_any (op : Int) (v : Value) (l : List Int) (w : World) (h1 : 1 ≤ op) (h2 : op ≤ 12) (hv : IntPart w v l) (hl : ∀ x ∈ l, 1 ≤ x ∧ x ≤ 10) (_hn : l.length ≤ 1000) :
    Calls Tryz.prog 114 #[.int .i64 op, v] w fun e w' => e = .returned (.int .i64 (builtG op l)) ∧ Below w.heap.size w w' := by
  have HV := hid hv
  obtain ⟨ad, c, rfl, hv3⟩ := hv
  clear hv3
  have HL := hid hl
  clear hl
  go_enter Tryz.func114, Tryz.ntmps114
  go_wp2_with fail
  refine (l12Wants_any op _ h1 h2).mono ?_
  rintro e w1 ⟨v1, rfl, hr1, hb1⟩
  have HB1 := hid hb1
  have HR1 := hid hr1
  have HA := hid (sig_asks op)
  obtain ⟨a1, c1, rfl⟩ := hr1.sl
  have HG : Hid (builtG op l = if fitL (sig op).1 l = true then (sig op).2 else 0) := rfl
  obtain ⟨L, hL⟩ : ∃ L, (sig op).1 = L := ⟨_, rfl⟩
  obtain ⟨G, hG⟩ : ∃ G, (sig op).2 = G := ⟨_, rfl⟩
  rw [hL] at HR1 HA HG ⊢
  rw [hG] at HG ⊢
  have hml : (L.map mw).length = L.length := by simp
  have hL3 : L.length ≤ 3 := by
    rw [← hL]
    unfold sig
    (repeat' split) <;> simp
  rw [hml] at ⊢
  clear hr1 hb1 hL hG
  by_cases hle : L.length = l.length
  · have hlf : ((L.length : Int) != (l.length : Int)) = false := by simp; omega
    go_wp2
    go_loopw [7] (fun a wr => ∃ q : Nat, q ≤ L.length ∧ a = .int .i64 q ∧ Below w1.heap.size w1 wr ∧ ∀ i, i < q → fitK (L.getD i 0) (l.getD i 0) = true) (fun a _ => L.length - (intOf a).toNat)
    case atStart => exact ⟨0, Nat.zero_le _, rfl, Below.refl _ _, fun i hi => absurd hi (Nat.not_lt_zero _)⟩
    case round =>
      obtain ⟨q, hq, rfl, hbr, hfit⟩ := hrel
      have HBR := hid hbr
      have HFI := hid hfit
      clear hbr hfit
      by_cases hlt : q < L.length
      · obtain ⟨g2, c2, e2, _, _, hg2, hc2⟩ := (HR1.out.next HBR.out).at (i := q) (by simp; exact hlt)
        obtain ⟨adx, cx, ex, hx⟩ := (HV.out.next (HB1.out.trans (HBR.out.mono HB1.out.size)))
        obtain ⟨g3, o3, e3, hg3, hc3⟩ := hx.resolve_left (fun e => by have h9 : l.length = 0 := (by rw [e]; rfl); omega)
        simp only [Value.slice.injEq] at ex e2
        obtain ⟨rfl, _, rfl⟩ := ex
        obtain ⟨rfl, _, rfl⟩ := e2
        subst e3
        have k2 := hc2 q (by simp; exact hlt)
        have k3 := hc3 q (by omega)
        have hmm : (L.map mw).getD q 0 = mw (L.getD q 0) := by simp [List.getD_eq_getElem?_getD, hlt]
        rw [hmm] at k2
        have hA := HA.out (L.getD q 0) (by rw [List.getD_eq_getElem?_getD, List.getElem?_eq_getElem hlt]; exact List.getElem_mem hlt)
        have hX := HL.out (l.getD q 0) (by rw [List.getD_eq_getElem?_getD, List.getElem?_eq_getElem (by omega)]; exact List.getElem_mem (by omega))
        have HFQ := hid (fit_iff hA hX.1)
        obtain ⟨x, hx2⟩ : ∃ x, l.getD q 0 = x := ⟨_, rfl⟩
        obtain ⟨y, hy2⟩ : ∃ y, mw (L.getD q 0) = y := ⟨_, rfl⟩
        rw [hx2] at k3 HFQ
        rw [hy2] at k2 HFQ
        have hl1 : (q : Int) < (l.length : Int) := by omega
        have hl2 : q < l.length := by omega
        have HXX := hid hx2
        clear hc2 hc3 hA hX hmm hx2 hy2
        go_upto_region 7 with fail
        go_cut [47] (fun c wx => ∃ b : Bool, c = .bool b ∧ (b = true ↔ ¬ fitK (L.getD q 0) x = true) ∧ Below w1.heap.size w1 wx)
        case first =>
          by_cases hxy : x = y
          · have hxf : (x != y) = false := by simpa using hxy
            go_quiet (fail)
            go_wp2_with fail
            go_meet
            case rel => exact ⟨false, rfl, ⟨(fun h => by cases h), fun h => absurd (HFQ.out.2 (fun hh => hh.1 hxy)) h⟩, below_drewN HBR.out _⟩
          · have hxf : (x != y) = true := by simpa using hxy
            by_cases hy0 : y = 0
            · subst hy0
              have hyf : ((0 : Int) != 0) = false := rfl
              cases hii : isI x
              · have HII : Hid (isI x = false) := hii
                have HCI : Hid (∀ W, Calls Tryz.prog 109 #[.int .i64 x] W fun e w' => e = .returned (.bool false) ∧ w' = W) := fun W => by
                  have h9 := l10Integer_c x W
                  rw [hii] at h9
                  exact h9
                clear hii
                go_quiet ((go_at_call 109; exact Calls.quiet_of_same (HCI.out _)))
                go_wp2_with fail
                go_meet
                case rel => exact ⟨true, rfl, ⟨fun _ h => (HFQ.out.1 h) ⟨hxy, .inr HII.out⟩, fun _ => rfl⟩, below_drewN HBR.out _⟩
              · have HII : Hid (isI x = true) := hii
                have HCI : Hid (∀ W, Calls Tryz.prog 109 #[.int .i64 x] W fun e w' => e = .returned (.bool true) ∧ w' = W) := fun W => by
                  have h9 := l10Integer_c x W
                  rw [hii] at h9
                  exact h9
                clear hii
                go_quiet ((go_at_call 109; exact Calls.quiet_of_same (HCI.out _)))
                go_wp2_with fail
                go_meet
                case rel => exact ⟨false, rfl, ⟨(fun h => by cases h), fun h => absurd (HFQ.out.2 (fun hh => hh.2.elim (fun k => k (by trivial)) (fun k => by rw [HII.out] at k; cases k))) h⟩, below_drewN HBR.out _⟩
            · have hyf : (y != 0) = true := by simpa using hy0
              go_quiet (fail)
              go_wp2_with fail
              go_meet
              case rel => exact ⟨true, rfl, ⟨fun _ h => (HFQ.out.1 h) ⟨hxy, .inl hy0⟩, fun _ => rfl⟩, below_drewN HBR.out _⟩
        case rest =>
          obtain ⟨b, rfl, hbi, hb2⟩ := hcut
          have HB2 := hid hb2
          have HBI := hid hbi
          clear hb2 hbi
          cases b
          · have HFT : Hid (fitK (L.getD q 0) x = true) := by
              show fitK (L.getD q 0) x = true
              exact Decidable.byContradiction fun h => by
                have h9 := HBI.out.2 h
                cases h9
            go_wp2
            go_roundw
            case rel =>
              refine ⟨q + 1, by omega, by go_num, HB2.out, fun i hi => ?_⟩
              by_cases e : i = q
              · subst e; rw [HXX.out]; exact HFT.out
              · exact HFI.out i (by omega)
            case measure => simp [intOf]; omega
          · have HFF : Hid (¬ fitK (L.getD q 0) x = true) := HBI.out.1 rfl
            go_wp2
            go_ret
            refine ⟨ret_int ?_, HB1.out.trans (HB2.out.mono HB1.out.size)⟩
            rw [HG.out, if_neg]
            intro h
            have := ((fitL_iff L l).1 h).2 q hlt
            rw [HXX.out] at this
            exact HFF.out this
      · obtain rfl : q = L.length := by omega
        go_wp2
        go_ret
        exact ⟨ret_int (by rw [HG.out, if_pos ((fitL_iff L l).2 ⟨hle, HFI.out⟩)]), HB1.out.trans (HBR.out.mono HB1.out.size)⟩
  · have hlf : ((L.length : Int) != (l.length : Int)) = true := by simp; omega
    go_wp2
    go_ret
    exact ⟨ret_int (by rw [HG.out, if_neg]; intro h; exact hle ((fitL_iff L l).1 h).1), HB1.out⟩
end Go.Proofs.YtfndbnbnimhnaaaGreatDoor.C
