import Derived.Test.YtfookokepnnmoaaDoorJOImpD
import Derived.Test.YtfookokepnnmoaaDoorJOSpec
import Derived.Test.YtfookokepnnmoaaDoorJLVal
namespace Go.Proofs.YtfookokepnnmoaaDoor
open Go.RowKit
set_option maxRecDepth 20000
def tyOf : Value → TypeId
  | .iface T _ => T
  | _ => 0
theorem iface_eta {S : Nat → Prop} {W : World} {t : Tr} {v : Value} (h : IsTh S W t v) : v = .iface (tyOf v) (strip v) := by
  obtain ⟨T, y, rfl⟩ := isTh_iface h
  rfl
/-- The contract of clayOrder up to m atoms of the first thing. -/
def OrdTh (m : Nat) : Prop := ∀ (S S' : Nat → Prop) (t t' : Tr) (v v' : Value) (w : World), (flat t).length ≤ m → Good t → Good t' → IsTh S w t v → IsTh S' w t' v' →
    Calls Tryd.prog 20 #[v, v'] w fun e w' => e = .returned (.int .i64 (ord t t')) ∧ Below w.heap.size w w'
def kd (ks : List Tr) (i : Nat) : Tr := ks.getD i (.node 1 0 ⟨#[]⟩ [])
theorem kd_get {ks : List Tr} {i : Nat} (h : i < ks.length) : kd ks i = ks[i] := by
  unfold kd
  rw [List.getD_eq_getElem?_getD, List.getElem?_eq_getElem h]
  rfl
theorem getD_of {xs : List Value} {i : Nat} {v : Value} (h : xs[i]? = some v) : xs.getD i .nilIface = v := by
  rw [List.getD_eq_getElem?_getD, h]
  rfl
theorem kid_le {ks : List Tr} {i : Nat} (h : i < ks.length) : (flat ks[i]).length ≤ (flats ks).length := by
  have h1 := flats_take_le ks (i + 1)
  rw [flats_take_succ ks i h, List.length_append] at h1
  omega
/-- One kid's call. -/
theorem kid_call {m : Nat} (ih : OrdTh m) {S S' : Nat → Prop} {ks ks' : List Tr} {xs xs' : List Value} {w W : World} (hm : (flats ks).length ≤ m) (hg : ∀ x ∈ ks, Good x) (hg' : ∀ x ∈ ks', Good x) (hk : IsThs S w ks xs) (hk' : IsThs S' w ks' xs') (hW : Below w.heap.size w W) (i : Nat) (h : i < ks.length) (h' : i < ks'.length) :
    Calls Tryd.prog 20 #[.iface (tyOf (xs.getD i .nilIface)) (strip (xs.getD i .nilIface)), .iface (tyOf (xs'.getD i .nilIface)) (strip (xs'.getD i .nilIface))] W fun e w' => e = .returned (.int .i64 (ord (kd ks i) (kd ks' i))) ∧ Below W.heap.size W w' := by
  obtain ⟨v, hv, hth⟩ := isThs_get hk i h
  obtain ⟨v', hv', hth'⟩ := isThs_get hk' i h'
  rw [getD_of hv, getD_of hv', ← iface_eta hth, ← iface_eta hth', kd_get h, kd_get h']
  exact ih S S' _ _ v v' W (Nat.le_trans (kid_le h) hm) (hg _ (List.getElem_mem h)) (hg' _ (List.getElem_mem h')) (isTh_below hth hW) (isTh_below hth' hW)
theorem row_kids {S : Nat → Prop} {ks : List Tr} {xs : List Value} {ad : Option Addr} {w W : World} (hr : RowIn S w ad xs) (hk : IsThs S w ks xs) (hW : Below w.heap.size w W) (h0 : 0 < ks.length) :
    ∃ g o, ad = some ⟨g, o, none⟩ ∧ ∀ W2, Below W.heap.size W W2 → ∀ i, i < ks.length → W2.cell? ⟨g, o + i, none⟩ = some (.iface (tyOf (xs.getD i .nilIface)) (strip (xs.getD i .nilIface))) := by
  obtain ⟨g, o, e, hlt, hc⟩ := hr.get 0 (by rw [isThs_length hk]; exact h0)
  refine ⟨g, o, e, fun W2 hW2 i hi => ?_⟩
  obtain ⟨v, hv, hth⟩ := isThs_get hk i hi
  rw [((hW.trans (hW2.mono hW.size)).cell (p := ⟨g, o + i, none⟩) hlt).trans (hc i v hv), getD_of hv, ← iface_eta hth]
theorem ordTh_things {m : Nat} (ih : OrdTh m) (S S' : Nat → Prop) (ks ks' : List Tr) (xs xs' : List Value) (ad ad' : Option Addr) (cap cap' : Nat) (w : World) (hm : (flats ks).length ≤ m) (hl : ks.length ≤ 1000000) (hl' : ks'.length ≤ 1000000) (hg : ∀ x ∈ ks, Good x) (hg' : ∀ x ∈ ks', Good x)
    (hr : RowIn S w ad xs) (hr' : RowIn S' w ad' xs') (hk : IsThs S w ks xs) (hk' : IsThs S' w ks' xs') : ∀ W, Below w.heap.size w W →
    Calls Tryd.prog 34 #[.slice ad ks.length cap, .slice ad' ks'.length cap', .func (.func 20) #[] #[]] W fun e w' => e = .returned (.int .i64 (ords ks ks')) ∧ Below W.heap.size W w' := by
  intro W hW
  refine cmpThings_any ad ad' ks.length ks'.length cap cap' (fun i => ord (kd ks i) (kd ks' i)) (fun i => ords (ks.drop i) (ks'.drop i)) W (fun i => tyOf (xs.getD i .nilIface)) (fun i => tyOf (xs'.getD i .nilIface)) (fun i => strip (xs.getD i .nilIface)) (fun i => strip (xs'.getD i .nilIface)) hl hl' (row_kids hr hk hW) (row_kids hr' hk' hW) ?_ ?_ ?_
  · exact fun i h h' W2 hW2 => kid_call ih hm hg hg' hk hk' (hW.trans (hW2.mono hW.size)) i h h'
  · intro i h h'
    rw [kd_get h, kd_get h']
    exact ords_step ks ks' i h h'
  · intro i h h' h2
    exact ords_end ks ks' i h h' h2
theorem isTh_text {S : Nat → Prop} {W : World} {t : Tr} {v : Value} (h : IsTh S W t v) (hk : t.kind = 4) : strip v = .string t.text := by
  obtain ⟨k, n, tx, ks⟩ := t
  simp only [Tr.kind] at hk
  subst hk
  simp only [IsTh] at h
  rcases h with ⟨e, _⟩ | ⟨e, _⟩ | ⟨e, _⟩ | ⟨_, rfl⟩ | ⟨e, _⟩ | ⟨e, _⟩
  · exact absurd e (by decide)
  · exact absurd e (by decide)
  · exact absurd e (by decide)
  · rfl
  · exact absurd e (by decide)
  · exact absurd e (by decide)
theorem field_kind {ks : List Tr} (hf : Fields ks) (i : Nat) (h : 2 * i < ks.length) : ks[2 * i].kind = 4 := by
  obtain ⟨⟨x, hx, hk⟩, _⟩ := hf i h
  rw [List.getElem?_eq_getElem h] at hx
  cases hx
  exact hk
theorem row_fields {S : Nat → Prop} {ks : List Tr} {xs : List Value} {ad : Option Addr} {n : Nat} {w W : World} (hn : ks.length = 2 * n) (hf : Fields ks) (hr : RowIn S w ad (fcells xs)) (hk : IsThs S w ks xs) (hW : Below w.heap.size w W) (h0 : 0 < n) :
    ∃ g o, ad = some ⟨g, o, none⟩ ∧ ∀ W2, Below W.heap.size W W2 → ∀ i, i < n → W2.cell? ⟨g, o + i * 2, none⟩ = some (.string (kd ks (2 * i)).text) ∧ W2.cell? ⟨g, o + i * 2 + 1, none⟩ = some (.iface (tyOf (xs.getD (2 * i + 1) .nilIface)) (strip (xs.getD (2 * i + 1) .nilIface))) := by
  have hx := isThs_length hk
  obtain ⟨g, o, e, hlt, hc⟩ := hr.get 0 (by rw [fcells_length xs n (by omega)]; omega)
  refine ⟨g, o, e, fun W2 hW2 i hi => ?_⟩
  obtain ⟨f1, f2⟩ := fcells_get xs i (by omega)
  obtain ⟨v, hv, hth⟩ := isThs_get hk (2 * i) (by omega)
  obtain ⟨u, hu, huth⟩ := isThs_get hk (2 * i + 1) (by omega)
  have hB := hW.trans (hW2.mono hW.size)
  rw [hv, Option.map_some, isTh_text hth (field_kind hf i (by omega))] at f1
  rw [hu] at f2
  refine ⟨?_, ?_⟩
  · rw [(hB.cell (p := ⟨g, o + i * 2, none⟩) hlt).trans (hc _ _ f1), kd_get (by omega)]
  · rw [(hB.cell (p := ⟨g, o + i * 2 + 1, none⟩) hlt).trans (hc (i * 2 + 1) _ f2), getD_of hu, ← iface_eta huth]
theorem ordTh_fields {m : Nat} (ih : OrdTh m) (S S' : Nat → Prop) (ks ks' : List Tr) (xs xs' : List Value) (ad ad' : Option Addr) (n n' cap cap' : Nat) (w : World) (hm : (flats ks).length ≤ m) (hn : ks.length = 2 * n) (hn' : ks'.length = 2 * n') (hl : n ≤ 1000000) (hl' : n' ≤ 1000000) (hf : Fields ks) (hf' : Fields ks') (hg : ∀ x ∈ ks, Good x) (hg' : ∀ x ∈ ks', Good x)
    (hr : RowIn S w ad (fcells xs)) (hr' : RowIn S' w ad' (fcells xs')) (hk : IsThs S w ks xs) (hk' : IsThs S' w ks' xs') : ∀ W, Below w.heap.size w W →
    Calls Tryd.prog 35 #[.slice ad n cap, .slice ad' n' cap', .func (.func 36) #[] #[]] W fun e w' => e = .returned (.int .i64 (ords ks ks')) ∧ Below W.heap.size W w' := by
  intro W hW
  refine cmpFields_any ad ad' n n' cap cap' (fun i => if cmpT (kd ks (2 * i)).text (kd ks' (2 * i)).text ≠ 0 then cmpT (kd ks (2 * i)).text (kd ks' (2 * i)).text else ord (kd ks (2 * i + 1)) (kd ks' (2 * i + 1))) (fun i => ords (ks.drop (2 * i)) (ks'.drop (2 * i))) W
    (fun i => (kd ks (2 * i)).text) (fun i => (kd ks' (2 * i)).text) (fun i => tyOf (xs.getD (2 * i + 1) .nilIface)) (fun i => tyOf (xs'.getD (2 * i + 1) .nilIface)) (fun i => strip (xs.getD (2 * i + 1) .nilIface)) (fun i => strip (xs'.getD (2 * i + 1) .nilIface)) hl hl' (row_fields hn hf hr hk hW) (row_fields hn' hf' hr' hk' hW) ?_ ?_ ?_
  · exact fun i h h' W2 hW2 => orderFields_any _ _ _ _ _ _ _ W2 fun W3 hW3 => kid_call ih hm hg hg' hk hk' ((hW.trans (hW2.mono hW.size)).trans (hW3.mono (by have := hW.size; have := hW2.size; omega))) (2 * i + 1) (by omega) (by omega)
  · intro i h h'
    have e1 := ords_step ks ks' (2 * i) (by omega) (by omega)
    have e2 := ords_step ks ks' (2 * i + 1) (by omega) (by omega)
    have e3 : ord ks[2 * i] ks'[2 * i] = cmpT ks[2 * i].text ks'[2 * i].text := ord_text ((field_kind hf i (by omega)).trans (field_kind hf' i (by omega)).symm) (field_kind hf i (by omega))
    show ords (ks.drop (2 * i)) (ks'.drop (2 * i)) = _
    rw [e1, e3, e2, kd_get (show 2 * i < ks.length by omega), kd_get (show 2 * i < ks'.length by omega), kd_get (show 2 * i + 1 < ks.length by omega), kd_get (show 2 * i + 1 < ks'.length by omega), show 2 * i + 1 + 1 = 2 * (i + 1) by omega]
    by_cases hc : cmpT ks[2 * i].text ks'[2 * i].text = 0
    · rw [hc]; simp
    · simp [hc]
  · intro i h h' h2
    have e := ords_end ks ks' (2 * i) (by omega) (by omega) (by omega)
    show ords (ks.drop (2 * i)) (ks'.drop (2 * i)) = _
    rw [e, hn, hn']
    unfold cmpI
    by_cases h1 : n < n'
    · rw [if_pos (show ((2 * n : Nat) : Int) < ((2 * n' : Nat) : Int) by omega), if_pos (show (n : Int) < (n' : Int) by omega)]
    · rw [if_neg (show ¬ ((2 * n : Nat) : Int) < ((2 * n' : Nat) : Int) by omega), if_neg (show ¬ (n : Int) < (n' : Int) by omega)]
      by_cases h3 : n = n'
      · rw [if_pos (show ((2 * n : Nat) : Int) = ((2 * n' : Nat) : Int) by omega), if_pos (show (n : Int) = (n' : Int) by omega)]
      · rw [if_neg (show ¬ ((2 * n : Nat) : Int) = ((2 * n' : Nat) : Int) by omega), if_neg (show ¬ (n : Int) = (n' : Int) by omega)]
theorem atom_th {S : Nat → Prop} {W : World} {t : Tr} {v : Value} (h : IsTh S W t v) (hg : Good t) : ∃ n s d, AtomM ⟨t.kind, n, s, d⟩ v := by
  obtain ⟨k, n, tx, ks⟩ := t
  have hl := (good_node.1 hg).1
  unfold LocOk at hl
  simp only [IsTh] at h
  simp only [Tr.kind]
  rcases h with ⟨rfl, rfl⟩ | ⟨rfl, rfl⟩ | ⟨rfl, rfl⟩ | ⟨rfl, rfl⟩ | ⟨rfl, ad, cap, xs, rfl, _⟩ | ⟨rfl, ad, m, cap, xs, rfl, hm, _⟩
  · exact ⟨_, _, _, aNone⟩
  · exact ⟨_, _, _, aBool _⟩
  · exact ⟨_, _, _, aInt _⟩
  · exact ⟨_, _, _, aText _⟩
  · exact ⟨_, _, _, aList _ _ _ _ _⟩
  · exact ⟨_, _, _, aRec _ _ _ _ _ (by omega)⟩
theorem bool_num {n : Int} (h : n = 0 ∨ n = 1) : (if (n == 1) = true then (1 : Int) else 0) = n := by
  rcases h with rfl | rfl <;> rfl
theorem order_step (m : Nat) (ih : OrdTh m) : OrdTh (m + 1) := by
  intro S S' t t' v v' w hm hg hg' h h'
  by_cases hk : t.kind = t'.kind
  · obtain ⟨k, n, tx, ks⟩ := t
    obtain ⟨k', n', tx', ks'⟩ := t'
    simp only [Tr.kind] at hk
    subst hk
    obtain ⟨hl, hgk, _, hsz⟩ := good_node.1 hg
    obtain ⟨hl', hgk', _, hsz'⟩ := good_node.1 hg'
    have hks := flats_len_ge ks
    have hks' := flats_len_ge ks'
    have hfm : (flats ks).length ≤ m := by simp only [flat, List.length_append, List.length_singleton] at hm; omega
    unfold LocOk at hl hl'
    simp only [IsTh] at h h'
    rcases h with ⟨rfl, rfl⟩ | ⟨rfl, rfl⟩ | ⟨rfl, rfl⟩ | ⟨rfl, rfl⟩ | ⟨rfl, ad, cap, xs, rfl, hr, hx⟩ | ⟨rfl, ad, q, cap, xs, rfl, hq, hr, hx⟩ <;>
      rcases h' with ⟨e, rfl⟩ | ⟨e, rfl⟩ | ⟨e, rfl⟩ | ⟨e, rfl⟩ | ⟨e, ad', cap', xs', rfl, hr', hx'⟩ | ⟨e, ad', q', cap', xs', rfl, hq', hr', hx'⟩ <;> first | exact absurd e (by decide) | skip
    · rw [ord_kids (t := .node 1 n tx ks) (t' := .node 1 n' tx' ks') rfl (.inl rfl)]
      have e1 : ks = [] := by grind
      have e2 : ks' = [] := by grind
      subst e1
      subst e2
      exact order_none w
    · rw [ord_num (t := .node 2 n tx ks) (t' := .node 2 n' tx' ks') rfl (.inl rfl)]
      have h1 := aBool (n == 1)
      have h2 := aBool (n' == 1)
      rw [bool_num (by grind)] at h1 h2
      exact order_bool _ _ _ _ w h1 h2
    · rw [ord_num (t := .node 3 n tx ks) (t' := .node 3 n' tx' ks') rfl (.inr rfl)]
      exact order_int n n' w
    · rw [ord_text (t := .node 4 n tx ks) (t' := .node 4 n' tx' ks') rfl rfl]
      exact order_text tx tx' w
    · rw [ord_kids (t := .node 5 n tx ks) (t' := .node 5 n' tx' ks') rfl (.inr (.inl rfl))]
      exact order_list _ _ _ _ ad ad' ks.length ks'.length cap cap' _ w (ordTh_things ih S S' ks ks' xs xs' ad ad' cap cap' w hfm (by omega) (by omega) hgk hgk' hr hr' hx hx')
    · rw [ord_kids (t := .node 6 n tx ks) (t' := .node 6 n' tx' ks') rfl (.inr (.inr rfl))]
      exact order_rec _ _ _ _ ad ad' q q' cap cap' _ w (by omega) (by omega) (ordTh_fields ih S S' ks ks' xs xs' ad ad' q q' cap cap' w hfm hq hq' (by omega) (by omega) (by grind) (by grind) hgk hgk' hr hr' hx hx')
  · obtain ⟨n1, s1, d1, a1⟩ := atom_th h hg
    obtain ⟨n2, s2, d2, a2⟩ := atom_th h' hg'
    rw [ord_kind hk]
    exact order_diff _ _ v v' w a1 a2 hk
theorem order_any (m : Nat) : OrdTh m := by
  induction m with
  | zero =>
    intro S S' t t' v v' w hm
    have := flat_pos t
    omega
  | succ m ih => exact order_step m ih
end Go.Proofs.YtfookokepnnmoaaDoor
namespace Go.Proofs.YtfookokepnnmoaaDoor
open Go.RowKit
set_option maxRecDepth 20000
theorem OrdV.invalid {l l' : List At} (h : ¬ ValidV l ∨ ¬ ValidV l') : OrdV l l' 0 := .inl ⟨fun h2 => h.elim (fun h => h h2.1) (fun h => h h2.2), rfl⟩
theorem OrdV.uniq {l l' : List At} {x y : Int} (h : OrdV l l' x) (h' : OrdV l l' y) : x = y := by
  rcases h with ⟨h1, rfl⟩ | ⟨t, t', h1, h2, h3, h4, rfl⟩ <;> rcases h' with ⟨k1, rfl⟩ | ⟨u, u', k1, k2, k3, k4, rfl⟩
  · rfl
  · exact absurd ⟨k3, k4⟩ h1
  · exact absurd ⟨h3, h4⟩ k1
  · rw [flat_inj (h1.symm.trans k1), flat_inj (h2.symm.trans k2)]
set_option maxHeartbeats 2000000 in
theorem implOrder_any (b o N cap b' o' N' cap' : Nat) (l l' : List At) (w : World) (h1 : One w) (hl : l.length = N) (hl' : l'.length = N') (hN : N ≤ 1048576) (hN' : N' ≤ 1048576) (hb : b < w.heap.size) (hb' : b' < w.heap.size) (hn : AtomsAt w b o l) (hn' : AtomsAt w b' o' l') (hx : ∀ x ∈ l, x.text.size ≤ maxLen) (hx' : ∀ x ∈ l', x.text.size ≤ maxLen) :
    Calls Tryd.prog 7 #[.agg #[.slice (some ⟨b, o, none⟩) N cap], .agg #[.slice (some ⟨b', o', none⟩) N' cap']] w fun e w' => (∃ x, e = .returned (.int .i64 x) ∧ OrdV l l' x) ∧ Below w.heap.size w w' := by
  have HB0 := hid (below_two' w (.cells #[.slice (some ⟨b, o, none⟩) N cap] 25) (.cells #[.slice (some ⟨b', o', none⟩) N' cap'] 25))
  have HC1 : Hid (∀ W, Below w.heap.size w W → Calls Tryd.prog 19 #[.agg #[.slice (some ⟨b, o, none⟩) N cap]] W fun e w' => ThingEnd l W w' e) := fun W hW => thingOf_all b o N cap l W (h1.below hW h1.2.2) hl hN (by have := hW.size; omega) (hn.below hW hb) hx
  have HC2 : Hid (∀ W, Below w.heap.size w W → Calls Tryd.prog 19 #[.agg #[.slice (some ⟨b', o', none⟩) N' cap']] W fun e w' => ThingEnd l' W w' e) := fun W hW => thingOf_all b' o' N' cap' l' W (h1.below hW h1.2.2) hl' hN' (by have := hW.size; omega) (hn'.below hW hb') hx'
  have HBX : Hid (∀ W, Below (w.heap.size + 1 + 1) ((w.alloc (.cells #[.slice (some ⟨b, o, none⟩) N cap] 25)).alloc (.cells #[.slice (some ⟨b', o', none⟩) N' cap'] 25)) W → W.cell? ⟨w.heap.size, 0, none⟩ = some (.slice (some ⟨b, o, none⟩) N cap) ∧ W.cell? ⟨w.heap.size + 1, 0, none⟩ = some (.slice (some ⟨b', o', none⟩) N' cap') ∧ Below w.heap.size w W) := fun W hW => by
    refine ⟨?_, ?_, HB0.out.trans (hW.mono (by omega))⟩
    · rw [hW.cell (p := ⟨w.heap.size, 0, none⟩) (by show w.heap.size < w.heap.size + 1 + 1; omega), ((Below.refl (w.heap.size + 1) (w.alloc (.cells #[.slice (some ⟨b, o, none⟩) N cap] 25))).alloc (by simp) _).cell (p := ⟨w.heap.size, 0, none⟩) (Nat.lt_succ_self _), cell_new_row]; rfl
    · have h := cell_new_row (w.alloc (.cells #[.slice (some ⟨b, o, none⟩) N cap] 25)) #[.slice (some ⟨b', o', none⟩) N' cap'] 25 0
      rw [World.size_alloc] at h
      rw [hW.cell (p := ⟨w.heap.size + 1, 0, none⟩) (Nat.lt_succ_self _)]
      exact h
  have HBR := hid (Below.refl (w.heap.size + 1 + 1) ((w.alloc (.cells #[.slice (some ⟨b, o, none⟩) N cap] 25)).alloc (.cells #[.slice (some ⟨b', o', none⟩) N' cap'] 25)))
  clear hn hn' hx hx' hl hl' h1
  go_enter Tryd.func7, Tryd.ntmps7
  go_wp2_with fail
  refine (HC1.out _ HB0.out).mono ?_
  rintro e w1 ⟨hb1, ⟨t, v, e1, g1, rfl, th1⟩ | ⟨hno, v, rfl⟩⟩
  · have HB1 := hid (HBR.out.trans (hb1.mono (by simp)))
    obtain ⟨p0, p1, hw1⟩ := HBX.out _ HB1.out
    have HW1 := hid hw1
    have HE1 := hid (And.intro e1 g1)
    have HT1 := hid th1
    clear hb1 hw1 e1 g1 th1
    go_wp2_with fail
    refine (HC2.out _ HW1.out).mono ?_
    rintro e w2 ⟨hb2, ⟨t', v', e2, g2, rfl, th2⟩ | ⟨hno, v', rfl⟩⟩
    · have HW2 := hid (HW1.out.trans (hb2.mono HW1.out.size))
      have HC3 := hid (order_any (flat t).length _ _ t t' v v' w2 (Nat.le_refl _) HE1.out.2 g2 (isTh_below HT1.out hb2) th2)
      have HX : Hid (OrdV l l' (ord t t')) := .inr ⟨t, t', HE1.out.1, e2, validV_good.2 ⟨t, HE1.out.1, HE1.out.2⟩, validV_good.2 ⟨t', e2, g2⟩, rfl⟩
      clear hb2 e2 g2 th2
      go_wp2_with fail
      refine HC3.out.mono ?_
      rintro e w3 ⟨rfl, hb3⟩
      have HW3 := hid (HW2.out.trans (hb3.mono HW2.out.size))
      clear hb3
      go_wp2
      go_ret
      exact ⟨⟨_, rfl, HX.out⟩, HW3.out⟩
    · have HW2 := hid (HW1.out.trans (hb2.mono HW1.out.size))
      have HX := hid (OrdV.invalid (l := l) (l' := l') (.inr hno))
      clear hb2 hno
      go_wp2
      go_ret
      exact ⟨⟨_, rfl, HX.out⟩, HW2.out⟩
  · have HW1 := hid (HB0.out.trans (hb1.mono HB0.out.size))
    have HX := hid (OrdV.invalid (l := l) (l' := l') (.inl hno))
    clear hb1 hno
    go_wp2
    go_ret
    exact ⟨⟨_, rfl, HX.out⟩, HW1.out⟩
end Go.Proofs.YtfookokepnnmoaaDoor
