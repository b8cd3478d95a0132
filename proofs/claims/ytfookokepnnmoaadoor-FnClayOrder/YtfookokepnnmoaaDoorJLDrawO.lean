import Derived.Test.YtfookokepnnmoaaDoorJDOrd
import Derived.Test.YtfookokepnnmoaaDoorJDWc
import Derived.Test.YtfookokepnnmoaaDoorJOPlain
import Derived.Test.YtfookokepnnmoaaDoorJOImp
namespace Go.Proofs.YtfookokepnnmoaaDoor
open Go.RowKit
set_option maxRecDepth 20000
theorem OrdV.neg {l l' : List At} {x y : Int} (h : OrdV l l' x) (h' : OrdV l' l y) : y = -x := by
  rcases h with ⟨h1, rfl⟩ | ⟨t, t', h1, h2, h3, h4, rfl⟩ <;> rcases h' with ⟨k1, rfl⟩ | ⟨s, s', k1, k2, k3, k4, rfl⟩
  · rfl
  · exact absurd ⟨k4, k3⟩ h1
  · exact absurd ⟨h4, h3⟩ k1
  · rw [flat_inj (k1.symm.trans h2), flat_inj (k2.symm.trans h1)]; exact ord_neg _ _
theorem OrdV.range {l l' : List At} {x : Int} (h : OrdV l l' x) : x = -1 ∨ x = 0 ∨ x = 1 := by
  rcases h with ⟨_, rfl⟩ | ⟨t, t', _, _, _, _, rfl⟩
  · exact .inr (.inl rfl)
  · exact ord_range t t'
theorem OrdV.get {l l' : List At} {x : Int} (h : OrdV l l' x) (hv : ValidV l) (hv' : ValidV l') : ∃ t t', l = flat t ∧ l' = flat t' ∧ OkT t ∧ OkT t' ∧ x = ord t t' := by
  rcases h with ⟨h1, _⟩ | ⟨t, t', h1, h2, _, _, h5⟩
  · exact absurd ⟨hv, hv'⟩ h1
  · obtain ⟨_, s, e1, o1, _⟩ := hv
    obtain ⟨_, s', e2, o2, _⟩ := hv'
    rw [flat_inj (e1.symm.trans h1)] at o1
    rw [flat_inj (e2.symm.trans h2)] at o2
    exact ⟨t, t', h1, h2, o1, o2, h5⟩
theorem OrdV.none {l l' : List At} {x : Int} (h : OrdV l l' x) (hv : ¬ (ValidV l ∧ ValidV l')) : x = 0 := by
  rcases h with ⟨_, h⟩ | ⟨_, _, _, _, h3, h4, _⟩
  · exact h
  · exact absurd ⟨h3, h4⟩ hv
theorem OrdV.zero {l l' : List At} {x : Int} (h : OrdV l l' x) (hv : ValidV l) (hv' : ValidV l') : x = 0 ↔ l = l' := by
  obtain ⟨t, t', rfl, rfl, o1, o2, rfl⟩ := h.get hv hv'
  constructor
  · intro e; rw [ord_zero t t' o1 o2 e]
  · intro e; rw [flat_inj e]; have := ord_neg t' t'; omega
theorem OrdV.tr {a b c : List At} {x y z : Int} (h1 : OrdV a b x) (h2 : OrdV b c y) (h3 : OrdV a c z) (ha : ValidV a) (hb : ValidV b) (hc : ValidV c) : (x ≤ 0 → y ≤ 0 → z ≤ 0) ∧ (0 ≤ x → 0 ≤ y → 0 ≤ z) := by
  obtain ⟨t, t', e1, e2, o1, o2, rfl⟩ := h1.get ha hb
  obtain ⟨s, s', k1, k2, _, p2, rfl⟩ := h2.get hb hc
  obtain ⟨r, r', m1, m2, _, _, rfl⟩ := h3.get ha hc
  obtain rfl := flat_inj (k1.symm.trans e2)
  obtain rfl := flat_inj (m1.symm.trans e1)
  obtain rfl := flat_inj (m2.symm.trans k2)
  refine ⟨ord_trans _ _ _ o1 o2 p2, fun i1 i2 => ?_⟩
  have n1 := ord_neg r s
  have n2 := ord_neg s r'
  have n3 := ord_neg r r'
  have := ord_trans r' s r p2 o2 o1 (by omega) (by omega)
  omega
theorem TxOk.len {l : List At} (h : TxOk 2000 l) : ∀ x ∈ l, x.text.size ≤ maxLen := fun x hx => by have := h.2 x hx; unfold maxLen; omega
theorem implO {w0 : World} {s s' : Value} {l l' : List At} (h1 : One w0) (hv : ValOut w0 s l) (hv' : ValOut w0 s' l') (ht : TxOk 2000 l) (ht' : TxOk 2000 l') (W : World) (hW : Below w0.heap.size w0 W) :
    Calls Tryd.prog 7 #[.agg #[s], .agg #[s']] W fun e w' => (∃ x, e = .returned (.int .i64 x) ∧ OrdV l l' x) ∧ Below w0.heap.size w0 w' := by
  obtain ⟨g, o, N, cap, rfl, hl, hc, hcm, hg, ha⟩ := hv
  obtain ⟨g', o', N', cap', rfl, hl', hc', hcm', hg', ha'⟩ := hv'
  exact (implOrder_any g o N cap g' o' N' cap' l l' W (h1.below hW h1.2.2) hl hl' (by have := ht.1; omega) (by have := ht'.1; omega) (Nat.lt_of_lt_of_le hg hW.size) (Nat.lt_of_lt_of_le hg' hW.size) (ha.below hW hg) (ha'.below hW hg') ht.len ht'.len).mono fun e w' ⟨a, b⟩ => ⟨a, hW.trans (b.mono hW.size)⟩
theorem specO {w0 : World} {s s' : Value} {l l' : List At} (hv : ValOut w0 s l) (hv' : ValOut w0 s' l') (ht : TxOk 2000 l) (ht' : TxOk 2000 l') (W : World) (hW : Below w0.heap.size w0 W) :
    Calls Tryd.prog 8 #[.agg #[s], .agg #[s']] W fun e w' => (∃ x, e = .returned (.int .i64 x) ∧ OrdV l l' x) ∧ Below w0.heap.size w0 w' := by
  obtain ⟨g, o, N, cap, rfl, hl, hc, hcm, hg, ha⟩ := hv
  obtain ⟨g', o', N', cap', rfl, hl', hc', hcm', hg', ha'⟩ := hv'
  exact (specOrder_any g o N cap g' o' N' cap' l l' W hl hl' hc ⟨by have := ht.1; omega, hcm⟩ hc' ⟨by have := ht'.1; omega, hcm'⟩ (Nat.lt_of_lt_of_le hg hW.size) (Nat.lt_of_lt_of_le hg' hW.size) (ha.below hW hg) (ha'.below hW hg') ht.len ht'.len).mono fun e w' ⟨a, b⟩ => ⟨a, hW.trans (b.mono hW.size)⟩
theorem specVd {w0 : World} {s : Value} {l : List At} (hv : ValOut w0 s l) (ht : TxOk 2000 l) (W : World) (hW : Below w0.heap.size w0 W) :
    Calls Tryd.prog 9 #[.agg #[s]] W fun e w' => Says e (ValidV l) ∧ Below w0.heap.size w0 w' := by
  obtain ⟨g, o, N, cap, rfl, hl, hc, hcm, hg, ha⟩ := hv
  exact (specValue_any g o N cap l W hl hc ⟨by have := ht.1; omega, hcm⟩ (Nat.lt_of_lt_of_le hg hW.size) (ha.below hW hg) ht.len).mono fun e w' ⟨a, b⟩ => ⟨a, hW.trans (b.mono hW.size)⟩
theorem wcV {w0 : World} {s s' : Value} {l l' : List At} (hv : ValOut w0 s l) (hv' : ValOut w0 s' l') (ht : TxOk 2000 l) (ht' : TxOk 2000 l') (W : World) (hW : Below w0.heap.size w0 W) :
    Calls Tryd.prog 10 #[.agg #[s], .agg #[s']] W fun e w' => Says e (l = l') ∧ Below w0.heap.size w0 w' := by
  obtain ⟨g, o, N, cap, rfl, hl, hc, hcm, hg, ha⟩ := hv
  obtain ⟨g', o', N', cap', rfl, hl', hc', hcm', hg', ha'⟩ := hv'
  exact (wcValue_any g o N cap g' o' N' cap' l l' W hl hl' (by have := ht.1; omega) (by have := ht'.1; omega) (Nat.lt_of_lt_of_le hg hW.size) (Nat.lt_of_lt_of_le hg' hW.size) (ha.below hW hg) (ha'.below hW hg')).mono fun e w' ⟨a, b⟩ => ⟨a, hW.trans (b.mono hW.size)⟩
theorem CodeA.below {w W : World} {ad : Option Addr} {n : Nat} (h : CodeA w ad n) (hW : Below w.heap.size w W) : CodeA W ad n := by
  rcases h with h | ⟨a, e, h1, h2⟩
  · exact .inl h
  · refine .inr ⟨a, e, Nat.lt_of_lt_of_le h1 hW.size, fun i hi => ?_⟩
    obtain ⟨x, hx⟩ := h2 i hi
    exact ⟨x, (hW.cell (p := a.add i) (by rw [add_block]; exact h1)).trans hx⟩
set_option maxHeartbeats 16000000 in
theorem law_draw_order (ad ad' : Option Addr) (n cap n' cap' : Nat) (w : World) (h1 : One w) (hc : n ≤ cap) (hcm : cap ≤ 9223372036854775807) (hc' : n' ≤ cap') (hcm' : cap' ≤ 9223372036854775807) (h : n ≤ 1048576 → CodeA w ad n) (h' : n' ≤ 1048576 → CodeA w ad' n') (hnil : ad = none → n = 0 ∧ cap = 0) (hnil' : ad' = none → n' = 0 ∧ cap' = 0) :
    Calls Tryd.prog 3 #[.slice ad n cap, .slice ad' n' cap'] w fun e w' => e = .returned (.bool true) ∧ Below w.heap.size w w' := by
  have HO := hid h1
  have hz := h1.2.2
  clear h1
  go_enter Tryd.func3, Tryd.ntmps3
  by_cases hn : n ≤ 1048576
  case neg =>
    have hni : (1048576 : Int) < (n : Int) := by omega
    go_wp2
    go_ret
    exact ⟨rfl, Below.refl _ _⟩
  have hni : ¬ ((1048576 : Int) < (n : Int)) := by omega
  by_cases hn' : n' ≤ 1048576
  case neg =>
    have hni' : (1048576 : Int) < (n' : Int) := by omega
    go_wp2
    go_ret
    exact ⟨rfl, Below.refl _ _⟩
  have hni' : ¬ ((1048576 : Int) < (n' : Int)) := by omega
  have HC := hid (h hn)
  have HC' := hid (h' hn')
  clear h h'
  go_wp2_with fail
  refine (drawOrder_any ad n cap _ hn hc hcm HC.out hnil).mono ?_
  rintro e w1 ⟨sa, sb, la, lb, rfl, hva, hvb, hta, htb, hb1⟩
  have HVA := hid hva
  have HVB := hid hvb
  have HTA := hid hta
  have HTB := hid htb
  have HB1 := hid hb1
  obtain ⟨ga, oa, Na, ca, rfl, _⟩ := hva
  obtain ⟨gb, ob, Nb, cb, rfl, _⟩ := hvb
  clear hta htb hb1 hnil HC
  have HX1 := hid (below_two' w1 (.cells #[.slice (some ⟨ga, oa, none⟩) Na ca] 25) (.cells #[.slice (some ⟨gb, ob, none⟩) Nb cb] 25))
  have HA1 : Hid (VAt ((w1.alloc (.cells #[.slice (some ⟨ga, oa, none⟩) Na ca] 25)).alloc (.cells #[.slice (some ⟨gb, ob, none⟩) Nb cb] 25)) w1.heap.size (.slice (some ⟨ga, oa, none⟩) Na ca)) := (Below.heap_alloc _ _ _ (by simp)).trans (heap_alloc_new w1 _)
  have HE1 : Hid (VAt ((w1.alloc (.cells #[.slice (some ⟨ga, oa, none⟩) Na ca] 25)).alloc (.cells #[.slice (some ⟨gb, ob, none⟩) Nb cb] 25)) (w1.heap.size + 1) (.slice (some ⟨gb, ob, none⟩) Nb cb)) := by
    have := heap_alloc_new (w1.alloc (.cells #[.slice (some ⟨ga, oa, none⟩) Na ca] 25)) (.cells #[.slice (some ⟨gb, ob, none⟩) Nb cb] 25)
    rwa [World.size_alloc] at this
  go_wp2_with fail
  refine (drawOrder_any ad' n' cap' _ hn' hc' hcm' (HC'.out.below (HB1.out.trans (HX1.out.mono HB1.out.size))) hnil').mono ?_
  rintro e w2 ⟨sc, sd, lc, ld, rfl, hvc, hvd, htc, _, hb2⟩
  have HVC := hid hvc
  have HTC := hid htc
  obtain ⟨gc, oc, Nc, cc, rfl, _⟩ := hvc
  obtain ⟨gd, od, Nd, cd, rfl, _⟩ := hvd
  have HX2 := hid (below_two' w2 (.cells #[.slice (some ⟨gc, oc, none⟩) Nc cc] 25) (.cells #[.slice (some ⟨gd, od, none⟩) Nd cd] 25))
  have HC2 : Hid (VAt ((w2.alloc (.cells #[.slice (some ⟨gc, oc, none⟩) Nc cc] 25)).alloc (.cells #[.slice (some ⟨gd, od, none⟩) Nd cd] 25)) w2.heap.size (.slice (some ⟨gc, oc, none⟩) Nc cc)) := (Below.heap_alloc _ _ _ (by simp)).trans (heap_alloc_new w2 _)
  have HA2 := hid ((HA1.out.next hb2).next HX2.out)
  have HE2 := hid ((HE1.out.next hb2).next HX2.out)
  have HVA2 := hid (((HVA.out.next HX1.out).next hb2).next HX2.out)
  have HVB2 := hid (((HVB.out.next HX1.out).next hb2).next HX2.out)
  have HVC2 := hid (HVC.out.next HX2.out)
  have hb12 := HB1.out.trans (HX1.out.mono HB1.out.size)
  have hb13 := hb12.trans (hb2.mono hb12.size)
  have HBW := hid (hb13.trans (HX2.out.mono hb13.size))
  have HO2 := hid (HO.out.below HBW.out hz)
  clear htc hb2 hb12 hb13 HVA HVB HVC HA1 HE1 HX1 HX2 HB1 HO HC' hnil'
  obtain ⟨w0, hw0⟩ : ∃ w0, ((w2.alloc (.cells #[.slice (some ⟨gc, oc, none⟩) Nc cc] 25)).alloc (.cells #[.slice (some ⟨gd, od, none⟩) Nd cd] 25)) = w0 := ⟨_, rfl⟩
  rw [hw0] at HA2 HE2 HC2 HVA2 HVB2 HVC2 HBW HO2
  have HS : Hid (∀ W, Below w0.heap.size w0 W → W.cell? ⟨w1.heap.size, 0, none⟩ = some (.slice (some ⟨ga, oa, none⟩) Na ca) ∧ W.cell? ⟨w1.heap.size + 1, 0, none⟩ = some (.slice (some ⟨gb, ob, none⟩) Nb cb) ∧ W.cell? ⟨w2.heap.size, 0, none⟩ = some (.slice (some ⟨gc, oc, none⟩) Nc cc) ∧ Below w.heap.size w W) := fun W h => ⟨(HA2.out.next h).cells.1, (HE2.out.next h).cells.1, (HC2.out.next h).cells.1, HBW.out.trans (h.mono HBW.out.size)⟩
  clear HA2 HE2 HC2 HBW
  obtain ⟨x1, x2, x3, _⟩ := HS.out _ (Below.refl w0.heap.size w0)
  go_upto_region 5 with fail
  clear hw0
  go_wp2_with fail
  refine (implO HO2.out HVA2.out HVB2.out HTA.out HTB.out _ (Below.refl _ _)).mono ?_
  rintro e w3 ⟨⟨x, rfl, hx⟩, hb3⟩
  have HX := hid hx
  have HB3 := hid hb3
  obtain ⟨a3, b3, c3, _⟩ := HS.out _ hb3
  clear hx hb3 x1 x2 x3
  go_wp2_with fail
  refine (specO HVA2.out HVB2.out HTA.out HTB.out _ HB3.out).mono ?_
  rintro e w4 ⟨⟨x', rfl, hx'⟩, hb4⟩
  obtain rfl : x' = x := hx'.uniq HX.out
  have HB4 := hid hb4
  obtain ⟨a4, b4, c4, _⟩ := HS.out _ hb4
  have hne : (x' != x') = false := by simp
  clear hx' hb4 a3 b3 c3
  go_wp2_with fail
  refine (implO HO2.out HVB2.out HVA2.out HTB.out HTA.out _ HB4.out).mono ?_
  rintro e w5 ⟨⟨y, rfl, hy⟩, hb5⟩
  obtain rfl : y = -x' := HX.out.neg hy
  have HB5 := hid hb5
  obtain ⟨a5, b5, c5, _⟩ := HS.out _ hb5
  have hwr : IntKind.i64.wrap (-x') = -x' := by rcases HX.out.range with rfl | rfl | rfl <;> rfl
  have hne2 : (-x' != -x') = false := by simp
  clear hy hb5 a4 b4 c4
  go_wp2_with fail
  refine (specVd HVA2.out HTA.out _ HB5.out).mono ?_
  rintro e w6 ⟨hs6, hb6⟩
  have HB6 := hid hb6
  obtain ⟨a6, b6, c6, _⟩ := HS.out _ hb6
  clear hb6 a5 b5 c5
  rcases hs6.get with ⟨rfl, va⟩ | ⟨rfl, va⟩
  case inr =>
    obtain rfl : x' = 0 := HX.out.none (fun h => va h.1)
    go_wp2_with fail
    refine (specVd HVC2.out HTC.out _ HB6.out).mono ?_
    rintro e w7 ⟨hs7, hb7⟩
    rcases hs7.get with ⟨rfl, vc⟩ | ⟨rfl, vc⟩
    all_goals (go_wp2; go_ret; exact ⟨rfl, (HS.out _ hb7).2.2.2⟩)
  go_wp2_with fail
  refine (specVd HVB2.out HTB.out _ HB6.out).mono ?_
  rintro e w7 ⟨hs7, hb7⟩
  have HB7 := hid hb7
  obtain ⟨a7, b7, c7, _⟩ := HS.out _ hb7
  clear hb7 a6 b6 c6
  rcases hs7.get with ⟨rfl, vb⟩ | ⟨rfl, vb⟩
  case inr =>
    obtain rfl : x' = 0 := HX.out.none (fun h => vb h.2)
    go_wp2_with fail
    refine (specVd HVC2.out HTC.out _ HB7.out).mono ?_
    rintro e w8 ⟨hs8, hb8⟩
    rcases hs8.get with ⟨rfl, vc⟩ | ⟨rfl, vc⟩
    all_goals (go_wp2; go_ret; exact ⟨rfl, (HS.out _ hb8).2.2.2⟩)
  go_wp2_with fail
  refine (specVd HVC2.out HTC.out _ HB7.out).mono ?_
  rintro e w8 ⟨hs8, hb8⟩
  have HB8 := hid hb8
  obtain ⟨a8, b8, c8, _⟩ := HS.out _ hb8
  clear hb8 a7 b7 c7
  rcases hs8.get with ⟨rfl, vc⟩ | ⟨rfl, vc⟩
  case inr =>
    go_wp2_with fail
    refine (specVd HVC2.out HTC.out _ HB8.out).mono ?_
    rintro e w9 ⟨hs9, hb9⟩
    rcases hs9.get with ⟨rfl, vc'⟩ | ⟨rfl, vc'⟩
    · exact absurd vc' vc
    · go_wp2
      go_ret
      exact ⟨rfl, (HS.out _ hb9).2.2.2⟩
  have HZE := hid (HX.out.zero va vb)
  rcases HX.out.range with rfl | rfl | rfl
  · go_wp2_with fail
    refine (wcV HVA2.out HVB2.out HTA.out HTB.out _ HB8.out).mono ?_
    rintro e w9 ⟨hs9, hb9⟩
    have HB9 := hid hb9
    obtain ⟨a9, b9, c9, _⟩ := HS.out _ hb9
    clear hb9 a8 b8 c8
    have hg9 := hs9.get
    clear hs9
    rcases hg9 with ⟨rfl, heq⟩ | ⟨rfl, heq⟩
    · exact absurd (HZE.out.2 heq) (by decide)
    · clear heq
      go_wp2_with fail
      refine (implO HO2.out HVB2.out HVC2.out HTB.out HTC.out _ HB9.out).mono ?_
      rintro e w10 ⟨⟨y, rfl, hy⟩, hb10⟩
      have HB10 := hid hb10
      obtain ⟨a10, b10, c10, _⟩ := HS.out _ hb10
      clear hb10 a9 b9 c9
      go_wp2_with fail
      refine (implO HO2.out HVA2.out HVC2.out HTA.out HTC.out _ HB10.out).mono ?_
      rintro e w11 ⟨⟨z, rfl, hz2⟩, hb11⟩
      have htr := HX.out.tr hy hz2 va vb vc
      rcases hy.range with rfl | rfl | rfl <;> rcases hz2.range with rfl | rfl | rfl <;> first | (exfalso; revert htr; decide) | (go_wp2; go_ret; exact ⟨rfl, (HS.out _ hb11).2.2.2⟩)
  · go_wp2_with fail
    refine (wcV HVA2.out HVB2.out HTA.out HTB.out _ HB8.out).mono ?_
    rintro e w9 ⟨hs9, hb9⟩
    have HB9 := hid hb9
    obtain ⟨a9, b9, c9, _⟩ := HS.out _ hb9
    clear hb9 a8 b8 c8
    have hg9 := hs9.get
    clear hs9
    rcases hg9 with ⟨rfl, heq⟩ | ⟨rfl, heq⟩
    · clear heq
      go_wp2_with fail
      refine (implO HO2.out HVB2.out HVC2.out HTB.out HTC.out _ HB9.out).mono ?_
      rintro e w10 ⟨⟨y, rfl, hy⟩, hb10⟩
      have HB10 := hid hb10
      obtain ⟨a10, b10, c10, _⟩ := HS.out _ hb10
      clear hb10 a9 b9 c9
      go_wp2_with fail
      refine (implO HO2.out HVA2.out HVC2.out HTA.out HTC.out _ HB10.out).mono ?_
      rintro e w11 ⟨⟨z, rfl, hz2⟩, hb11⟩
      have htr := HX.out.tr hy hz2 va vb vc
      rcases hy.range with rfl | rfl | rfl <;> rcases hz2.range with rfl | rfl | rfl <;> first | (exfalso; revert htr; decide) | (go_wp2; go_ret; exact ⟨rfl, (HS.out _ hb11).2.2.2⟩)
    · exact absurd (HZE.out.1 (by trivial)) heq
  · go_wp2_with fail
    refine (wcV HVA2.out HVB2.out HTA.out HTB.out _ HB8.out).mono ?_
    rintro e w9 ⟨hs9, hb9⟩
    have HB9 := hid hb9
    obtain ⟨a9, b9, c9, _⟩ := HS.out _ hb9
    clear hb9 a8 b8 c8
    have hg9 := hs9.get
    clear hs9
    rcases hg9 with ⟨rfl, heq⟩ | ⟨rfl, heq⟩
    · exact absurd (HZE.out.2 heq) (by decide)
    · clear heq
      go_wp2_with fail
      refine (implO HO2.out HVB2.out HVC2.out HTB.out HTC.out _ HB9.out).mono ?_
      rintro e w10 ⟨⟨y, rfl, hy⟩, hb10⟩
      have HB10 := hid hb10
      obtain ⟨a10, b10, c10, _⟩ := HS.out _ hb10
      clear hb10 a9 b9 c9
      go_wp2_with fail
      refine (implO HO2.out HVA2.out HVC2.out HTA.out HTC.out _ HB10.out).mono ?_
      rintro e w11 ⟨⟨z, rfl, hz2⟩, hb11⟩
      have htr := HX.out.tr hy hz2 va vb vc
      rcases hy.range with rfl | rfl | rfl <;> rcases hz2.range with rfl | rfl | rfl <;> first | (exfalso; revert htr; decide) | (go_wp2; go_ret; exact ⟨rfl, (HS.out _ hb11).2.2.2⟩)
end Go.Proofs.YtfookokepnnmoaaDoor
