import Derived.Test.YtfedmbadhcdpdaaGreatDoorJ26
/-! Which functions are there, in the program. -/
namespace Go.Proofs.YtfedmbadhcdpdaaGreatDoor.C
open Go.RowKit
set_option maxRecDepth 20000
theorem FnsRow.part {W : World} {ad : Option Addr} {c : Nat} {fns : List Fn} (h : FnsRow W (.slice ad fns.length c) fns) {k : Nat} (hk : k ≤ fns.length) : FnsRow W (.slice ad k c) (fns.take k) := by
  obtain ⟨ad', c', e, h1, h2, h3⟩ := h
  injection e with ea _ ec
  subst ea ec
  have hl : (fns.take k).length = k := by simp; omega
  refine ⟨ad, c, by rw [hl], by omega, h2, ?_⟩
  rcases h3 with h3 | ⟨g, e1, e2, e3⟩
  · left; rw [h3]; simp
  · refine .inr ⟨g, e1, e2, fun i hi => ?_⟩
    have hi2 : i < k := by omega
    have eg : (fns.take k).getD i fn0 = fns.getD i fn0 := by
      rw [List.getD_eq_getElem?_getD, List.getD_eq_getElem?_getD, List.getElem?_take_of_lt hi2]
    rw [eg]
    exact e3 i (by omega)
set_option maxHeartbeats 1000000 in
theorem isMain_any {f : Fn} {aP : Option Addr} {cP : Nat} {iv : Value} (w : World) :
    Calls Tryz.prog 53 #[.agg #[.string f.name, .slice aP f.params.length cP, .int .i64 f.result, .int .i64 f.slots, iv]] w fun e w' => Q.Says e (isMain f) ∧ Below w.heap.size w w' := by
  have HLO : Hid (∀ o, Below w.heap.size w (w.alloc o)) := hid fun o => (Below.refl _ _).alloc (Nat.le_refl _) _
  by_cases hnm : f.name = ⟨#[109, 97, 105, 110]⟩
  · have hnf : (f.name.toList == (⟨#[109, 97, 105, 110]⟩ : ByteArray).toList) = true := str_eq.2 hnm
    have HNM := hid hnm
    rw [hnm]
    clear hnm hnf
    by_cases hp0 : f.params.length = 0
    · have HP0 := hid hp0
      rw [hp0]
      clear hp0
      by_cases hr : f.result = 2
      · rw [hr]
        have HR := hid hr
        clear hr
        go_enter Tryz.func53, Tryz.ntmps53
        go_wp2_with fail
        go_ret
        exact ⟨Q.says_t ⟨HNM.out, HP0.out, HR.out⟩, HLO.out _⟩
      · have HR := hid hr
        have hrf : (f.result == 2) = false := by simpa using hr
        clear hr
        go_enter Tryz.func53, Tryz.ntmps53
        go_wp2_with fail
        go_ret
        exact ⟨Q.says_f fun h => HR.out h.2.2, HLO.out _⟩
    · have HP0 := hid hp0
      have hpf : ((f.params.length : Int) == 0) = false := by simp; intro h; rw [h] at hp0; exact hp0 rfl
      clear hp0
      go_enter Tryz.func53, Tryz.ntmps53
      go_wp2_with fail
      go_ret
      exact ⟨Q.says_f fun h => HP0.out h.2.1, HLO.out _⟩
  · have HNM := hid hnm
    have hnf : ¬ f.name.toList = [109, 97, 105, 110] := fun h => hnm (str_eq.1 (by rw [beq_iff_eq, h, Lib.toList_data]))
    clear hnm
    go_enter Tryz.func53, Tryz.ntmps53
    go_wp2_with fail
    go_ret
    exact ⟨Q.says_f fun h => HNM.out h.1, HLO.out _⟩
def IxEnd (n : Nat) (P : Nat → Prop) (w : World) (e : Ending) (w' : World) : Prop := ∃ r : Int, e = .returned (.int .i64 r) ∧ (0 ≤ r ↔ ∃ j, j < n ∧ P j) ∧ Below w.heap.size w w'
set_option maxHeartbeats 2000000 in
theorem idxMain_any {fns : List Fn} {w : World} {cv : Value} (h1 : FnsRow w cv fns) (hl : fns.length ≤ 60) :
    Calls Tryz.prog 84 #[cv, .func (.func 53) #[] #[]] w (IxEnd fns.length (fun j => isMain (fns.getD j fn0)) w) := by
  have H1 := hid h1
  obtain ⟨aF, cF, rfl⟩ := h1.sl
  clear h1
  go_enter Tryz.func84, Tryz.ntmps84
  go_wp2_with fail
  go_loopw [8] (fun i wr => ∃ j : Nat, j ≤ fns.length ∧ i = .int .i64 j ∧ Below w.heap.size w wr ∧ ∀ p, p < j → ¬ isMain (fns.getD p fn0)) (fun i _ => fns.length - (intOf i).toNat)
  case atStart => exact ⟨0, Nat.zero_le _, rfl, Below.refl _ _, fun p hp => absurd hp (Nat.not_lt_zero _)⟩
  case round =>
    obtain ⟨j, hj, rfl, hlo, hall⟩ := hrel
    have HLO := hid hlo
    have HALL := hid hall
    clear hlo hall
    by_cases hlt : j < fns.length
    · have hlti : (j : Int) < (fns.length : Int) := by omega
      obtain ⟨gF2, cF2, e9, _, pv, iv, n0, n1, n2, n3, n4, hpv, _⟩ := (H1.out.next HLO.out).at hlt
      injection e9 with ea en ec
      clear en
      subst ea ec
      obtain ⟨aP, cP, rfl⟩ := hpv.sl
      obtain ⟨f, hf⟩ : ∃ f, fns.getD j fn0 = f := ⟨_, rfl⟩
      rw [hf] at n0 n1 n2 n3
      have HFE := hid hf
      clear hf hpv
      have HIM := hid (isMain_any (f := f) (aP := aP) (cP := cP) (iv := iv) wr)
      have HNO : Hid (¬ isMain f → ∀ p, p < j + 1 → ¬ isMain (fns.getD p fn0)) := hid fun h p hp => by
        by_cases e : p = j
        · subst e; rw [HFE.out]; exact h
        · exact HALL.out p (by omega)
      by_cases hm : isMain f
      · have HT : Hid (Calls Tryz.prog 53 #[.agg #[.string f.name, .slice aP f.params.length cP, .int .i64 f.result, .int .i64 f.slots, iv]] wr fun e w' => e = .returned (.bool true) ∧ Below wr.heap.size wr w') := hid (HIM.out.mono fun e w' h => ⟨by obtain ⟨⟨x, e1, hx⟩, _⟩ := h; rw [e1, hx.2 hm], h.2⟩)
        have HX := hid hm
        clear hm
        go_wp2_with (go_at_call 53; refine HT.out.mono ?_; rintro e w2 ⟨rfl, hb2⟩; have HB := hid (HLO.out.trans (hb2.mono HLO.out.size)); clear hb2)
        go_ret
        exact ⟨j, rfl, ⟨fun _ => ⟨j, hlt, by show isMain (fns.getD j fn0); rw [HFE.out]; exact HX.out⟩, fun _ => by omega⟩, HB.out⟩
      · have HT : Hid (Calls Tryz.prog 53 #[.agg #[.string f.name, .slice aP f.params.length cP, .int .i64 f.result, .int .i64 f.slots, iv]] wr fun e w' => e = .returned (.bool false) ∧ Below wr.heap.size wr w') := hid (HIM.out.mono fun e w' h => ⟨by obtain ⟨⟨x, e1, hx⟩, _⟩ := h; rw [e1]; cases x with | false => rfl | true => exact absurd (hx.1 rfl) hm, h.2⟩)
        have HX := hid hm
        clear hm
        go_wp2_with (go_at_call 53; refine HT.out.mono ?_; rintro e w2 ⟨rfl, hb2⟩; have HB := hid (HLO.out.trans (hb2.mono HLO.out.size)); clear hb2)
        go_roundw
        case rel => exact ⟨j + 1, by omega, by go_num, HB.out, HNO.out HX.out⟩
        case measure => simp [intOf]; omega
    · obtain rfl : j = fns.length := by omega
      have hge : ¬ ((fns.length : Int) < (fns.length : Int)) := by omega
      go_wp2_with fail
      go_ret
      exact ⟨-1, rfl, ⟨fun h => absurd h (by omega), fun ⟨j, h1, h2⟩ => absurd h2 (HALL.out j h1)⟩, HLO.out⟩
set_option maxHeartbeats 2000000 in
theorem hasMain_any {fns : List Fn} {w : World} {cv : Value} (h1 : FnsRow w cv fns) (hl : fns.length ≤ 60) :
    Calls Tryz.prog 52 #[cv, .func (.func 53) #[] #[]] w fun e w' => Q.Says e (∃ j, j < fns.length ∧ isMain (fns.getD j fn0)) ∧ Below w.heap.size w w' := by
  have H := hid (idxMain_any h1 hl)
  obtain ⟨aF, cF, rfl⟩ := h1.sl
  clear h1
  go_enter Tryz.func52, Tryz.ntmps52
  go_wp2_with (go_at_call 84; refine H.out.mono ?_; rintro e w' ⟨r, rfl, hr, hb⟩; have HR := hid hr; clear hr)
  go_ret
  exact ⟨⟨_, rfl, by rw [← HR.out]; simp⟩, hb⟩
set_option maxHeartbeats 2000000 in
theorem idxName_any {fns : List Fn} {w : World} {cv : Value} {tb : Nat} {s : ByteArray} (h1 : FnsRow w cv fns) (hl : fns.length ≤ 60) (ht : w.cell? ⟨tb, 0, none⟩ = some (.string s)) :
    Calls Tryz.prog 84 #[cv, .func (.func 79) #[] #[.pointer (some ⟨tb, 0, none⟩)]] w (IxEnd fns.length (fun j => (fns.getD j fn0).name = s) w) := by
  have lt := World.block_lt_of_cell? w _ ht
  have HT := hid ht
  have H1 := hid h1
  obtain ⟨aF, cF, rfl⟩ := h1.sl
  clear h1 ht
  go_enter Tryz.func84, Tryz.ntmps84
  go_wp2_with fail
  go_loopw [8] (fun i wr => ∃ j : Nat, j ≤ fns.length ∧ i = .int .i64 j ∧ Below w.heap.size w wr ∧ ∀ p, p < j → ¬ (fns.getD p fn0).name = s) (fun i _ => fns.length - (intOf i).toNat)
  case atStart => exact ⟨0, Nat.zero_le _, rfl, Below.refl _ _, fun p hp => absurd hp (Nat.not_lt_zero _)⟩
  case round =>
    obtain ⟨j, hj, rfl, hlo, hall⟩ := hrel
    have HLO := hid hlo
    have HALL := hid hall
    clear hlo hall
    by_cases hlt : j < fns.length
    · have hlti : (j : Int) < (fns.length : Int) := by omega
      obtain ⟨gF2, cF2, e9, _, pv, iv, n0, n1, n2, n3, n4, hpv, hiv⟩ := (H1.out.next HLO.out).at hlt
      injection e9 with ea en ec
      clear en
      subst ea ec
      obtain ⟨aP, cP, rfl⟩ := hpv.sl
      obtain ⟨aI, cI, rfl⟩ := hiv.sl
      obtain ⟨f, hf⟩ : ∃ f, fns.getD j fn0 = f := ⟨_, rfl⟩
      rw [hf] at n0 n1 n2 n3 n4
      have HFE := hid hf
      clear hf hpv hiv
      have HN := hid (HLO.out.alloc HLO.out.size (.cells #[.string f.name, .slice aP f.params.length cP, .int .i64 f.result, .int .i64 f.slots, .slice aI f.ins.length cI] 47))
      have ht' := (HN.out.cell (p := ⟨tb, 0, none⟩) lt).trans HT.out
      by_cases c1 : f.name = s
      · have HC := hid c1
        have hq : (f.name.toList == s.toList) = true := str_eq.2 c1
        clear c1
        go_wp2
        go_ret
        exact ⟨j, rfl, ⟨fun _ => ⟨j, hlt, by show (fns.getD j fn0).name = s; rw [HFE.out]; exact HC.out⟩, fun _ => by omega⟩, HN.out⟩
      · have HNO : Hid (∀ p, p < j + 1 → ¬ (fns.getD p fn0).name = s) := hid fun p hp => by
          by_cases e : p = j
          · subst e; rw [HFE.out]; exact c1
          · exact HALL.out p (by omega)
        have hq : (f.name.toList == s.toList) = false := by
          cases h : (f.name.toList == s.toList) with
          | false => rfl
          | true => exact absurd (str_eq.1 h) c1
        clear c1
        go_wp2
        go_roundw
        case rel => exact ⟨j + 1, by omega, by go_num, HN.out, HNO.out⟩
        case measure => simp [intOf]; omega
    · obtain rfl : j = fns.length := by omega
      have hge : ¬ ((fns.length : Int) < (fns.length : Int)) := by omega
      go_wp2_with fail
      go_ret
      exact ⟨-1, rfl, ⟨fun h => absurd h (by omega), fun ⟨j, h1, h2⟩ => absurd h2 (HALL.out j h1)⟩, HLO.out⟩
set_option maxHeartbeats 2000000 in
theorem hasName_any {fns : List Fn} {w : World} {cv : Value} {s : ByteArray} (h1 : FnsRow w cv fns) (hl : fns.length ≤ 60) :
    Calls Tryz.prog 49 #[cv, .string s] w fun e w' => Q.Says e (∃ j, j < fns.length ∧ (fns.getD j fn0).name = s) ∧ Below w.heap.size w w' := by
  have HLO : Hid (Below w.heap.size w (w.alloc (.cells #[.string s] 9))) := hid ((Below.refl _ _).alloc (Nat.le_refl _) _)
  have H := hid (idxName_any (h1.next HLO.out) hl (tb := w.heap.size) (s := s) (cell_hp (heap_alloc_new _ _) 0))
  have HC : Hid (Calls Tryz.prog 52 #[cv, .func (.func 79) #[] #[.pointer (some ⟨w.heap.size, 0, none⟩)]] (w.alloc (.cells #[.string s] 9)) fun e w' => Q.Says e (∃ j, j < fns.length ∧ (fns.getD j fn0).name = s) ∧ Below (w.alloc (.cells #[.string s] 9)).heap.size (w.alloc (.cells #[.string s] 9)) w') := hid (by
    obtain ⟨aF, cF, rfl⟩ := h1.sl
    clear h1
    go_enter Tryz.func52, Tryz.ntmps52
    go_wp2_with (go_at_call 84; refine H.out.mono ?_; rintro e w' ⟨r, rfl, hr, hb⟩; have HR := hid hr; clear hr)
    go_ret
    exact ⟨⟨_, rfl, by rw [← HR.out]; simp⟩, hb⟩)
  obtain ⟨aF, cF, rfl⟩ := h1.sl
  clear h1
  go_enter Tryz.func49, Tryz.ntmps49
  go_wp2_with (go_at_call 52; refine HC.out.mono ?_; rintro e w' ⟨⟨x, rfl, hx⟩, hb⟩; have HX := hid hx; clear hx)
  go_ret
  exact ⟨⟨_, rfl, HX.out⟩, HLO.out.trans (hb.mono HLO.out.size)⟩
end Go.Proofs.YtfedmbadhcdpdaaGreatDoor.C
