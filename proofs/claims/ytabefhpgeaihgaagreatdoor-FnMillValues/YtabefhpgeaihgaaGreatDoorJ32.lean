import Derived.Test.YtabefhpgeaihgaaGreatDoorJ29
import Derived.Test.YtabefhpgeaihgaaGreatDoorJ27
/-! Whether args fit a built word: the program's. -/
namespace Go.Proofs.YtabefhpgeaihgaaGreatDoor.V
open Go.RowKit Go.Shelf
set_option maxRecDepth 20000
def tsOf (N : Nat) (vl : Nat → Vl) : List Int := (List.range N).map fun i => (vl i).t
theorem tsOf_len (N : Nat) (vl : Nat → Vl) : (tsOf N vl).length = N := by simp [tsOf]
theorem tsOf_get (N : Nat) (vl : Nat → Vl) (i : Nat) (h : i < N) : (tsOf N vl).getD i 0 = (vl i).t := by
  simp [tsOf, List.getD, h]
theorem tsOf_succ (j : Nat) (vl : Nat → Vl) : tsOf (j + 1) vl = tsOf j vl ++ [(vl j).t] := by
  simp [tsOf, List.range_succ]
def okV (x : Vl) : Bool := validB x.t x.n x.s
/-- Args are valid, and fit. -/
def OkArgs (any op : Int) (N : Nat) (vl : Nat → Vl) : Prop := (∀ i, i < N → okV (vl i) = true) ∧ FitL any (wants any op) (tsOf N vl)
abbrev intsV (ts : List Int) : List Value := ts.map fun t => Value.int .i64 t
theorem own_ints {W : World} {B : Nat} {v : Value} {ts : List Int} (h : W.ownsRow B 3 1 v ts.length (intsV ts)) : ∃ ad g cap, v = .slice ad ts.length cap ∧ (ts.length = 0 ∨ ad = some ⟨g, 0, none⟩) ∧ (ts.length = 0 ∨ g < W.heap.size) ∧ IntsIn W g ts := by
  obtain ⟨h1, ⟨h2, h0⟩ | ⟨g, cap, cur, h2, h3, h4, h5, h6, h7, h8⟩⟩ := h
  · refine ⟨none, 0, 0, by rw [h2, h0], .inl h0, .inl h0, fun i hi => by omega⟩
  · refine ⟨some ⟨g, 0, none⟩, g, cap, h2, .inr rfl, .inr (Array.getElem?_eq_some_iff.1 h4).1, fun i hi => ?_⟩
    have e1 : W.cell? ⟨g, i, none⟩ = cur[i]? := by unfold World.cell?; rw [h4]; rfl
    have e2 : cur.toList.take ts.length = intsV ts := by rw [Nat.mul_one] at h8; exact h8
    have e3 : cur.toList[i]? = (intsV ts)[i]? := by rw [← e2, List.getElem?_take_of_lt hi]
    rw [e1, ← Array.getElem?_toList, e3]
    simp [intsV, hi, List.getD]
theorem own_next {w w1 : World} {B e size k : Nat} {v : Value} {xs : List Value} (h : w.ownsRow B e size v k xs) (hb : Below w.heap.size w w1) : w1.ownsRow B e size v k xs := by
  obtain ⟨h1, h2 | ⟨g, cap, cur, a, b, c, d⟩⟩ := h
  · exact ⟨h1, .inl h2⟩
  · refine ⟨h1, .inr ⟨g, cap, cur, a, b, ?_, d⟩⟩
    have hg : g < w.heap.size := (Array.getElem?_eq_some_iff.1 c).1
    rw [hb.block g hg]; exact c
theorem info_i : (Tryz.prog.info? 3).map (fun i => (i.zero, i.size, i.bytes)) = some (some (.int .i64 0), 1, 8) := by kernel_rfl
set_option maxHeartbeats 2000000 in
theorem gives_any (op : Int) (g N cap : Nat) (ad : Option Addr) (ts : List Int) (h6 : 6 ≤ op) (h12 : op ≤ 12) (hN : ts.length = N) (hN2 : N ≤ 1048576) (w : World) (hE : EnvG w) (had : N = 0 ∨ ad = some ⟨g, 0, none⟩) (hg : N = 0 ∨ g < w.heap.size) (hts : IntsIn w g ts) :
    Calls Tryz.prog 65 #[.int .i64 op, .slice ad N cap] w fun e w' => ((FitL (-1) (wants (-1) op) ts ∧ e = .returned (.int .i64 (gives op))) ∨ (¬ FitL (-1) (wants (-1) op) ts ∧ e = .returned (.int .i64 0))) ∧ Below w.heap.size w w' := by
  have HE := hid hE
  obtain ⟨k, c0, c1, hk, hw⟩ := hE.sg op h6 h12
  have hL : (wants (-1) op).length ≤ 3 := by
    obtain rfl | rfl | rfl | rfl | rfl | rfl | rfl : op = 6 ∨ op = 7 ∨ op = 8 ∨ op = 9 ∨ op = 10 ∨ op = 11 ∨ op = 12 := by omega
    all_goals decide
  have HF := hid (fit_any k g N cap (wants (-1) op) ts (gives op) hL hN hN2 w hk hg hw hts ad had)
  have hsz := hE.sz
  clear hE hw hts
  obtain ⟨q, rfl⟩ := Int.eq_ofNat_of_zero_le (show 0 ≤ op by omega)
  have hq12 : (q : Int) < 13 := by omega
  have e0 : (Int.ofNat q).toNat = q := rfl
  simp only [Int.toNat_natCast] at c0 c1
  generalize (wants (-1) (q : Int)) = wl at *
  generalize gives (q : Int) = gv at *
  go_enter Tryz.func65, Tryz.ntmps65
  go_wp2_with fail
  refine HF.out.mono ?_
  rintro e w1 ⟨he, hb1⟩
  have HB1 := hid hb1
  have c2 : w1.cell? ⟨4, q * 2 + 1, none⟩ = some (.int .i64 gv) := (hb1.cell (p := ⟨4, q * 2 + 1, none⟩) hsz).trans c1
  clear hb1 c0 c1
  rcases he with ⟨hf, rfl⟩ | ⟨hf, rfl⟩
  · have HX := hid hf
    clear hf
    go_wp2
    go_ret
    exact ⟨.inl ⟨HX.out, rfl⟩, HB1.out⟩
  · have HX := hid hf
    clear hf
    go_wp2
    go_ret
    exact ⟨.inr ⟨HX.out, rfl⟩, HB1.out⟩
set_option maxHeartbeats 8000000 in
theorem argsFit_any (op : Int) (g N : Nat) (vl : Nat → Vl) (h6 : 6 ≤ op) (h12 : op ≤ 12) (hN : N ≤ 1048576) (w : World) (hg : g < w.heap.size) (hv : ValsAt w g N vl) (hbd : ∀ i, i < N → -9223372036854775808 ≤ (vl i).n ∧ (vl i).n ≤ 9223372036854775807) (hE : EnvG w) :
    Calls Tryz.prog 41 #[.int .i64 op, .slice (some ⟨g, 0, none⟩) N N] w fun e w' => ((OkArgs (-1) op N vl ∧ e = .returned (.bool true)) ∨ (¬ OkArgs (-1) op N vl ∧ e = .returned (.bool false))) ∧ Below w.heap.size w w' := by
  have HV := hid hv
  have HE := hid hE
  have HVV : Hid (∀ i, i < N → ∀ W, Calls Tryz.prog 9 #[val (vl i).t (vl i).n (vl i).s] W fun e w' => e = .returned (.bool (okV (vl i))) ∧ Below W.heap.size W w') := fun i hi W => implVV _ _ _ (hbd i hi).1 (hbd i hi).2 W
  clear hv hE hbd
  obtain ⟨i0, hi, hz0, hz1, hz2⟩ := info_parts info_i
  have HHI := hid (And.intro hi (And.intro hz0 (And.intro hz1 hz2)))
  clear hi hz0 hz1 hz2
  have HO0 : Hid (w.ownsRow w.heap.size 3 1 (.slice none 0 0) 0 (intsV (tsOf 0 vl))) := ⟨rfl, .inl ⟨rfl, rfl⟩⟩
  go_enter Tryz.func41, Tryz.ntmps41
  go_wp2
  go_loopw [5, 10] (fun v c wr => ∃ j : Nat, c = .int .i64 j ∧ j ≤ N ∧ wr.ownsRow w.heap.size 3 1 v j (intsV (tsOf j vl)) ∧ (∀ i, i < j → okV (vl i) = true) ∧ Below w.heap.size w wr) (fun _ c _ => N - (intOf c).toNat)
  case atStart => exact ⟨0, rfl, Nat.zero_le _, HO0.out, fun i h => by omega, Below.refl _ _⟩
  case round =>
    obtain ⟨j, rfl, hj, hown, hok, hbr⟩ := hrel
    have OWN := hid hown
    have HOK := hid hok
    have HBR := hid hbr
    have HLN := hid (tsOf_len j vl)
    clear hown hok hbr
    obtain ⟨ao, cap, rfl⟩ := own_slice' OWN.out
    by_cases hlt : j < N
    · obtain ⟨c0, c1, c2⟩ := (HV.out.below HBR.out hg) j hlt
      obtain ⟨x, hx⟩ : ∃ x, vl j = x := ⟨_, rfl⟩
      obtain ⟨t, n, s⟩ := x
      have HVJ := hid (HVV.out j hlt)
      have HTS := hid (tsOf_succ j vl)
      rw [hx] at c0 c1 c2 HVJ HTS
      have HX := hid hx
      clear hx
      simp only at c0 c1 c2 HVJ HTS
      have HB1 := hid (go2 HBR.out (alloc_below wr (vbox t n s)))
      have OW1 := hid (OWN.out.alloc (vbox t n s))
      go_wp2_with fail
      refine (HVJ.out _).mono ?_
      rintro e w2 ⟨rfl, hb2⟩
      have HB2 := hid (go2 HB1.out hb2)
      have HG2 := hid (keep_box (heap_new wr (vbox t n s)) hb2)
      have OW2 : Hid (w2.ownsRow w.heap.size 3 1 (.slice ao j cap) j (intsV (tsOf j vl))) := own_next OW1.out hb2
      have hsz2 : w.heap.size ≤ w2.heap.size := HB2.out.size
      clear hb2
      obtain ⟨x0, x1, x2, _, _, _⟩ := six HG2.out
      have HOV : Hid (okV ⟨t, n, s⟩ = okV (vl j)) := by show _ = _; rw [HX.out]
      cases hok : okV ⟨t, n, s⟩ with
      | false =>
        have HNO : Hid (¬ OkArgs (-1) op N vl) := fun h => by have := h.1 j hlt; rw [← HOV.out, hok] at this; cases this
        clear hok
        go_wp2
        go_ret
        exact ⟨.inr ⟨HNO.out, rfl⟩, HB2.out⟩
      | true =>
        have HOJ : Hid (okV (vl j) = true) := by show _ = _; rw [← HOV.out, hok]
        clear hok
        go_wp2_with (at_builtin; refine wpList_append_own _ rfl _ _ 83 rfl w.heap.size 3 i0 (.int .i64 0) 1 8 Tryz.underlying83 HHI.out.1 HHI.out.2.1 HHI.out.2.2.1 HHI.out.2.2.2 rfl (by decide) _ _ _ rfl (OW2.out.alloc _) ⟨w2.heap.size, 0, none⟩ 1 1 [.int .i64 t] rfl rfl ?c1 ?c2 ?c3 ?c4 ?c5 ?_)
        case c1 =>
          intro q u hq
          match q, hq with
          | 0, hq => simp at hq; subst hq; simp [Addr.add]
        case c2 => intro u hu; simp at hu; subst hu; rfl
        case c3 => unfold maxLen; omega
        case c4 => omega
        case c5 => simp; omega
        intro v' w3 hown' hgrow _
        have HO3 : Hid (w3.ownsRow w.heap.size 3 1 v' (j + 1) (intsV (tsOf (j + 1) vl))) := by
          show World.ownsRow _ _ _ _ _ _ _
          rw [HTS.out]
          simpa [intsV] using hown'
        have HB3 := hid ((HB2.out.alloc hsz2 (.cells #[.int .i64 t] 3)).grown hgrow (by simp; omega) (fun k e => (OW2.out.lt k e).1))
        have HOK3 : Hid (∀ i, i < j + 1 → okV (vl i) = true) := fun i hi => by
          by_cases hij : i = j
          · rw [hij]; exact HOJ.out
          · exact HOK.out i (by omega)
        obtain ⟨a1, c3, rfl⟩ := own_slice' HO3.out
        clear hown' hgrow x0 x1 x2
        go_wp2
        go_roundw
        case rel => exact ⟨j + 1, by go_num, by omega, HO3.out, HOK3.out, HB3.out⟩
        case measure => simp [intOf]; omega
    · obtain rfl : j = N := by omega
      obtain ⟨ad, g2, cap2, e2, had, hg2, hin⟩ := own_ints (ts := tsOf j vl) (by rw [HLN.out]; exact OWN.out)
      injection e2 with e3 e4 e5
      subst e3 e5
      rw [HLN.out] at had hg2
      have HG := hid (gives_any op g2 j cap ao (tsOf j vl) h6 h12 HLN.out hN wr (HE.out.next HBR.out) had hg2 hin)
      have hgv : (gives op != 0) = true := by
        obtain rfl | rfl | rfl | rfl | rfl | rfl | rfl : op = 6 ∨ op = 7 ∨ op = 8 ∨ op = 9 ∨ op = 10 ∨ op = 11 ∨ op = 12 := by omega
        all_goals decide
      obtain ⟨gv, hgve⟩ : ∃ gv, gives op = gv := ⟨_, rfl⟩
      rw [hgve] at HG hgv
      clear hin hgve had hg2 e4
      go_wp2_with fail
      refine HG.out.mono ?_
      rintro e w2 ⟨he, hb2⟩
      have HB2 := hid (go2 HBR.out hb2)
      clear hb2
      rcases he with ⟨hf, rfl⟩ | ⟨hf, rfl⟩
      · have HX : Hid (OkArgs (-1) op j vl) := ⟨HOK.out, hf⟩
        clear hf
        go_wp2
        go_ret
        exact ⟨.inl ⟨HX.out, ret_bool (by simp)⟩, HB2.out⟩
      · have HX : Hid (¬ OkArgs (-1) op j vl) := fun h => hf h.2
        clear hf
        go_wp2
        go_ret
        exact ⟨.inr ⟨HX.out, rfl⟩, HB2.out⟩
end Go.Proofs.YtabefhpgeaihgaaGreatDoor.V
