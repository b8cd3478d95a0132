import Derived.Test.YtfookokepnnmoaaDoorJIMeth
namespace Go.Proofs.YtfookokepnnmoaaDoor
open Go.RowKit
set_option maxRecDepth 20000
theorem with_eq (a b c d a1 h1 : Nat) (w : World) (ha : a ≤ 2000000) (hb : b ≤ 2000000) (hc : c ≤ 2000000) (hd : d ≤ 2000000) (e1 : a + c = a1) (e2 : max b (d + 1) = h1) :
    Calls Tryd.prog 60 #[.agg #[.int .i64 a, .int .i64 b], .agg #[.int .i64 c, .int .i64 d]] w fun e w' => e = .returned (.agg #[.int .i64 a1, .int .i64 h1]) ∧ Below w.heap.size w w' := by
  subst e1 e2
  exact with_any a b c d w ha hb hc hd
theorem with_one (a b a1 h1 : Nat) (w : World) (ha : a ≤ 2000000) (hb : b ≤ 2000000) (e1 : a + 1 = a1) (e2 : max b 1 = h1) :
    Calls Tryd.prog 60 #[.agg #[.int .i64 a, .int .i64 b], .agg #[.int .i64 1, .int .i64 0]] w fun e w' => e = .returned (.agg #[.int .i64 a1, .int .i64 h1]) ∧ Below w.heap.size w w' :=
  with_eq a b 1 0 a1 h1 w ha hb (by omega) (by omega) e1 e2
theorem fcells_get : ∀ (xs : List Value) (q : Nat), 2 * q + 1 < xs.length → (fcells xs)[q * 2]? = (xs[2 * q]?).map strip ∧ (fcells xs)[q * 2 + 1]? = xs[2 * q + 1]?
  | [], q, h => by simp at h
  | [_], q, h => by simp at h
  | a :: b :: r, 0, _ => by simp [fcells]
  | a :: b :: r, q + 1, h => by
    have h2 := fcells_get r q (by simp at h; omega)
    rw [show (q + 1) * 2 = q * 2 + 1 + 1 by omega, show 2 * (q + 1) = 2 * q + 1 + 1 by omega]
    simp only [fcells, List.getElem?_cons_succ]
    exact h2
theorem fcells_length : ∀ (xs : List Value) (m : Nat), xs.length = 2 * m → (fcells xs).length = m * 2
  | [], m, h => by
    obtain rfl : m = 0 := by simp at h; omega
    rfl
  | [_], m, h => by simp at h; omega
  | a :: b :: r, m, h => by
    obtain ⟨m, rfl⟩ : ∃ k, m = k + 1 := ⟨m - 1, by simp at h; omega⟩
    have := fcells_length r m (by simp at h; omega)
    simp only [fcells, List.length_cons, this]; omega
/-- A name among the kids. -/
theorem name_leaf {S : Nat → Prop} {W : World} {t : Tr} {v : Value} (h : IsTh S W t v) (hg : OkT t) (hk : t.kind = 4) : v = .iface 65 (.string t.text) ∧ (flat t).length = 1 ∧ high t = 0 := by
  obtain ⟨k, n, tx, ks⟩ := t
  simp only [Tr.kind] at hk
  subst hk
  simp only [OkT] at hg
  have hl := hg.1
  unfold LocOk at hl
  have hks : ks = [] := by grind
  subst hks
  simp only [IsTh] at h
  refine ⟨?_, by simp [flat, flats], by simp [high, highs]⟩
  simp only [Tr.text]
  grind
theorem take_two (l : List Tr) (q : Nat) (h : 2 * q + 1 < l.length) : (flats (l.take (2 * (q + 1)))).length = (flats (l.take (2 * q))).length + (flat (l[2 * q]'(by omega))).length + (flat l[2 * q + 1]).length ∧ highs (l.take (2 * (q + 1))) = max (max (highs (l.take (2 * q))) (high (l[2 * q]'(by omega)) + 1)) (high l[2 * q + 1] + 1) := by
  rw [show 2 * (q + 1) = 2 * q + 1 + 1 by omega, flats_take_succ l _ h, flats_take_succ l (2 * q) (by omega), highs_take_succ l _ h, highs_take_succ l (2 * q) (by omega)]
  simp; omega
set_option maxHeartbeats 2000000 in
theorem recordOf_any (S : Nat → Prop) (ad : Option Addr) (n cap : Nat) (ks : List Tr) (xs : List Value) (w : World) (h1 : One w) (hn : ks.length = 2 * n) (hn1 : n ≤ 500) (hr : RowIn S w ad (fcells xs)) (hk : IsThs S w ks xs) (hg : ∀ x ∈ ks, Good x) (hnm : ∀ i x, ks[2 * i]? = some x → x.kind = 4) :
    Calls Tryd.prog 54 #[.slice ad n cap] w fun e w' => Below w.heap.size w w' ∧ ((n ≤ 200 ∧ (flats ks).length + 1 ≤ 1000 ∧ highs ks ≤ 12) ∧ e = .returned (.tuple #[.iface 74 (.agg #[.int .i64 (((flats ks).length + 1 : Nat) : Int), .int .i64 (highs ks), .slice ad n cap]), .string ⟨#[]⟩]) ∨
      ¬ (n ≤ 200 ∧ (flats ks).length + 1 ≤ 1000 ∧ highs ks ≤ 12) ∧ e = .returned (.tuple #[.nilIface, .string ⟨#[108, 97, 114, 103, 101]⟩])) := by
  have HK := hid hk
  have HR := hid hr
  have HN := hid hn
  have HG := hid hg
  have HO := hid h1
  have HNM := hid hnm
  obtain ⟨c0, c1, hz⟩ := h1
  have hfb : (flats ks).length ≤ 2 * n * 1000 := by rw [← hn]; exact flats_len_bound (fun x hx => (hg x hx).2.2)
  have hhb : highs ks ≤ 13 := highs_le (fun x hx => by have := (hg x hx).2.1; omega)
  clear hk hr hn hg hnm
  go_enter Tryd.func54, Tryd.ntmps54
  go_wp2
  go_loopw [12] (fun i wr => ∃ q : Nat, q ≤ n ∧ i = .int .i64 q ∧ ThreeB wr w.heap.size 74 (.int .i64 (((flats (ks.take (2 * q))).length + 1 : Nat) : Int)) (.int .i64 (highs (ks.take (2 * q)))) (.slice ad n cap) ∧ Below w.heap.size w wr) (fun i _ => n - (intOf i).toNat)
  case atStart => exact ⟨0, Nat.zero_le _, rfl, heap_alloc_new _ _, (Below.refl _ _).alloc (Nat.le_refl _) _⟩
  case round =>
    obtain ⟨q, hq, rfl, htb, hbw⟩ := hrel
    have HTB := hid htb
    have HBW := hid hbw
    obtain ⟨d0, d1, d2, f0, f1, hL⟩ := htb.facts
    clear htb hbw
    have hA := flats_take_le ks (2 * q)
    have hH := highs_take_le ks (2 * q)
    by_cases hlt : q < n
    · have hqs : 2 * q + 1 < ks.length := by rw [HN.out]; omega
      have hq0 : 2 * q < ks.length := by omega
      have hxl := isThs_length HK.out
      obtain ⟨va, hva, htha⟩ := isThs_get HK.out (2 * q) hq0
      obtain ⟨v, hv, hth⟩ := isThs_get HK.out (2 * q + 1) hqs
      obtain ⟨g, o, rfl, hgz, hcs⟩ := HR.out.get (q * 2) (by rw [fcells_length xs n (by rw [hxl, HN.out])]; omega)
      obtain ⟨fc1, fc2⟩ := fcells_get xs q (by omega)
      have HGa := HG.out _ (List.getElem_mem hq0)
      have HGq := HG.out _ (List.getElem_mem hqs)
      obtain ⟨rfl, na, nb⟩ := name_leaf htha HGa.1 (HNM.out q _ (List.getElem?_eq_getElem hq0))
      have x0 := (HBW.out.cell (p := ⟨g, o + q * 2, none⟩) hgz).trans (hcs (q * 2) _ (by rw [fc1, hva]; rfl))
      have x1 := (HBW.out.cell (p := ⟨g, o + q * 2 + 1, none⟩) hgz).trans (hcs (q * 2 + 1) v (by rw [fc2]; exact hv))
      simp only [strip] at x0
      obtain ⟨T, x, f, rv, rfl, m1, m2, m3⟩ := size_any hth HGq.1
      have M3 := hid m3
      have HTT := hid (take_two ks q hqs)
      have hq1 := HGq.2.1
      have hq2 := HGq.2.2
      have hA1 := flats_take_le ks (2 * (q + 1))
      rw [HTT.out.1] at hA1
      obtain ⟨fl, hfl⟩ : ∃ fl, (flat ks[2 * q + 1]).length = fl := ⟨_, rfl⟩
      obtain ⟨hi, hhi⟩ : ∃ hi, high ks[2 * q + 1] = hi := ⟨_, rfl⟩
      obtain ⟨tx, htx⟩ : ∃ tx, ks[2 * q].text = tx := ⟨_, rfl⟩
      have FLE := hid hfl
      have HIE := hid hhi
      have NAE := hid na
      have NBE := hid nb
      rw [htx] at x0
      rw [hfl] at hq2 hA1 M3
      rw [hhi] at hq1 M3
      clear hfl hhi hcs hv hth HGq m3 hva htha HGa na nb fc1 fc2 htx hxl
      obtain ⟨A, hA2⟩ : ∃ A, (flats (ks.take (2 * q))).length + 1 = A := ⟨_, rfl⟩
      obtain ⟨H, hH2⟩ : ∃ H, highs (ks.take (2 * q)) = H := ⟨_, rfl⟩
      have HA2 := hid hA2
      have HH2 := hid hH2
      rw [hA2] at d0 HTB
      rw [hH2] at d1 HTB hH
      have hA3 : A ≤ 2000000 - 1000 := by omega
      obtain ⟨A1, eA1⟩ : ∃ A1, A + 1 = A1 := ⟨_, rfl⟩
      obtain ⟨H1, eH1⟩ : ∃ H1, max H 1 = H1 := ⟨_, rfl⟩
      obtain ⟨A2, eA2⟩ : ∃ A2, A1 + fl = A2 := ⟨_, rfl⟩
      obtain ⟨H2, eH2⟩ : ∃ H2, max H1 (hi + 1) = H2 := ⟨_, rfl⟩
      have EA1 := hid eA1
      have EH1 := hid eH1
      have EA2 := hid eA2
      have EH2 := hid eH2
      have hA1b : A1 ≤ 2000000 := by omega
      have hH1b : H1 ≤ 2000000 := by omega
      have hHb : H ≤ 2000000 := by omega
      have hAb : A ≤ 2000000 := by omega
      have hflb : fl ≤ 2000000 := by omega
      have hhib : hi ≤ 2000000 := by omega
      clear hA2 hH2 hA hA1 eA1 eH1 eA2 eH2
      go_wp2_with fail
      have HAL := hid ((Below.refl wr.heap.size wr).alloc (Nat.le_refl _) (.cells #[.string tx, .iface T x] 77))
      have HFC : Hid (∀ W, Below (wr.alloc (.cells #[.string tx, .iface T x] 77)).heap.size (wr.alloc (.cells #[.string tx, .iface T x] 77)) W → W.cell? ⟨wr.heap.size, 1, none⟩ = some (.iface T x) ∧ One W ∧ Below wr.heap.size wr W) := fun W h => by
        have h1 := HAL.out.trans (h.mono (by simp))
        exact ⟨by rw [h.cell (p := ⟨wr.heap.size, 1, none⟩) (by simp), cell_new_row]; rfl, HO.out.below (HBW.out.trans (h1.mono HBW.out.size)) hz, h1⟩
      have HO0 := hid (HFC.out _ (Below.refl _ _).drew).2.1
      obtain ⟨p0, p1, p2⟩ := HO0.out
      obtain ⟨e0, e1, e2, e3, e4, e5⟩ := (HTB.out.below HAL.out hL).facts
      go_region_with (first
        | (go_at_call_of 60 (Value.int .i64 (A : Int)); refine (with_one A H A1 H1 _ hAb hHb EA1.out EH1.out).mono ?_; rintro e w2 ⟨rfl, hb2⟩; have HC2 := hid ((Below.refl _ (wr.alloc (.cells #[.string tx, .iface T x] 77))).drew.trans hb2); have k2 := (HFC.out _ HC2.out).1; clear hb2)
        | (refine (M3.out _ (HFC.out _ HC2.out).2.1).mono ?_; rintro e w3 ⟨rfl, hb3⟩; have HC3 := hid (HC2.out.trans (hb3.mono HC2.out.size)); clear hb3)
        | (go_at_call_of 60 (Value.int .i64 (fl : Int)); refine (with_eq A1 H1 fl hi A2 H2 _ hA1b hH1b hflb hhib EA2.out EH2.out).mono ?_; rintro e w4 ⟨rfl, hb4⟩; have HC4 := hid (HFC.out _ (HC3.out.trans (hb4.mono HC3.out.size))).2.2; obtain ⟨y0, y1, y2, y3, y4, y5⟩ := (HTB.out.below HC4.out hL).facts; clear hb4))
      all_goals
        have NX : Hid (ThreeB ((w4.setCell ⟨w.heap.size, 0, none⟩ (.int .i64 A2)).setCell ⟨w.heap.size, 1, none⟩ (.int .i64 H2)) w.heap.size 74 (.int .i64 (((flats (ks.take (2 * (q + 1)))).length + 1 : Nat) : Int)) (.int .i64 (highs (ks.take (2 * (q + 1))))) (.slice (some ⟨g, o, none⟩) n cap)) := by
          have h1 : (flats (ks.take (2 * (q + 1)))).length + 1 = A2 := by
            rw [HTT.out.1, FLE.out, NAE.out, ← EA2.out, ← EA1.out, ← HA2.out]; omega
          have h2 : highs (ks.take (2 * (q + 1))) = H2 := by
            rw [HTT.out.2, HIE.out, NBE.out, HH2.out, ← EH2.out, ← EH1.out]
          rw [h1, h2]
          exact (HTB.out.below HC4.out hL).set _ _
        have HBX := hid (below_set (below_set (HBW.out.trans (HC4.out.mono HBW.out.size)) w.heap.size 0 (Nat.le_refl _) (.int .i64 A2)) w.heap.size 1 (Nat.le_refl _) (.int .i64 H2))
        clear HC4 y0 y1 y2 y3 y4 y5
        go_wp2
        go_roundw
        case rel => exact ⟨q + 1, by omega, by go_num, NX.out, HBX.out⟩
        case measure => simp [intOf]; omega
    · obtain rfl : q = n := by omega
      have HTA : Hid (ks.take (2 * q) = ks) := List.take_of_length_le (by rw [HN.out]; exact Nat.le_refl _)
      rw [HTA.out] at d0 d1 HTB hA hH
      obtain ⟨A, hA2⟩ : ∃ A, (flats ks).length + 1 = A := ⟨_, rfl⟩
      obtain ⟨H, hH2⟩ : ∃ H, highs ks = H := ⟨_, rfl⟩
      have HAE := hid hA2
      have HHE := hid hH2
      rw [hA2] at d0 HTB
      rw [hH2] at d1 HTB hH hhb
      clear hA2 hH2
      by_cases h200 : q ≤ 200
      · have h201 : (q : Int) ≤ 200 := by omega
        by_cases hft : A ≤ 1000 ∧ H ≤ 12
        · go_wp2_with (go_at_call 61; refine (fits_any A H _).mono ?_; rintro e w3 ⟨hs3, hb3⟩; obtain rfl := hs3.pos hft; have HC3 := hid hb3; obtain ⟨z0, z1, z2, z3, z4, z5⟩ := (HTB.out.below hb3 hL).facts; clear hb3 hs3)
          refine bodyPost_ret (v := .tuple #[.iface 74 (.agg #[.int .i64 A, .int .i64 H, .slice ad q cap]), .string ⟨#[]⟩]) (by simp [results, Tryd.results54, go_sem]) rfl ⟨HBW.out.trans (HC3.out.mono HBW.out.size), .inl ⟨by rw [HAE.out, HHE.out]; exact ⟨h200, hft⟩, by rw [HAE.out, HHE.out]⟩⟩
        · go_wp2_with (go_at_call 61; refine (fits_any A H _).mono ?_; rintro e w3 ⟨hs3, hb3⟩; obtain rfl := hs3.neg hft; have HC3 := hid hb3; clear hb3 hs3)
          refine bodyPost_ret (v := .tuple #[.nilIface, .string ⟨#[108, 97, 114, 103, 101]⟩]) (by simp [results, Tryd.results54, go_sem]) rfl ⟨HBW.out.trans (HC3.out.mono HBW.out.size), .inr ⟨by rw [HAE.out, HHE.out]; exact fun h => hft h.2, rfl⟩⟩
      · have h201 : (200 : Int) < q := by omega
        go_wp2
        refine bodyPost_ret (v := .tuple #[.nilIface, .string ⟨#[108, 97, 114, 103, 101]⟩]) (by simp [results, Tryd.results54, go_sem]) rfl ⟨HBW.out, .inr ⟨fun h => h200 h.1, rfl⟩⟩
end Go.Proofs.YtfookokepnnmoaaDoor
