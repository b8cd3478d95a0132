import Derived.Test.YtfbfmhmpoaplaaaDoorNAns
namespace Go.Proofs.YtfbfmhmpoaplaaaDoor
open Go.RowKit
set_option maxRecDepth 20000
def wRange : ByteArray := ⟨#[114, 97, 110, 103, 101]⟩
/-- What an op of one value comes to. -/
def UnP (op : Int) (l r : List At) (s : ByteArray) : Prop :=
  ((¬ ∃ t, l = flat t ∧ ValidV l ∧ (op = 1 ∧ t.kind = 2 ∨ op = 2 ∧ t.kind = 3)) ∧ r = [] ∧ s = wType) ∨
  (∃ t, op = 1 ∧ l = flat t ∧ ValidV l ∧ t.kind = 2 ∧ r = [⟨2, if (t.num == 0) = true then 1 else 0, ⟨#[]⟩, 0⟩] ∧ s = ⟨#[]⟩) ∨
  (∃ t, op = 2 ∧ l = flat t ∧ ValidV l ∧ t.kind = 3 ∧ -9223372036854775808 < t.num ∧ r = [⟨3, -t.num, ⟨#[]⟩, 0⟩] ∧ s = ⟨#[]⟩) ∨
  (∃ t, op = 2 ∧ l = flat t ∧ ValidV l ∧ t.kind = 3 ∧ t.num = -9223372036854775808 ∧ r = [] ∧ s = wRange)
theorem UnP.unique {op : Int} {l r r' : List At} {s s' : ByteArray} (h : UnP op l r s) (h' : UnP op l r' s') : r = r' ∧ s = s' := by
  rcases h with ⟨h1, rfl, rfl⟩ | ⟨t, h1, h2, h3, h4, rfl, rfl⟩ | ⟨t, h1, h2, h3, h4, h5, rfl, rfl⟩ | ⟨t, h1, h2, h3, h4, h5, rfl, rfl⟩ <;>
    rcases h' with ⟨k1, rfl, rfl⟩ | ⟨u, k1, k2, k3, k4, rfl, rfl⟩ | ⟨u, k1, k2, k3, k4, k5, rfl, rfl⟩ | ⟨u, k1, k2, k3, k4, k5, rfl, rfl⟩
  · exact ⟨rfl, rfl⟩
  · exact absurd ⟨u, k2, k3, .inl ⟨k1, k4⟩⟩ h1
  · exact absurd ⟨u, k2, k3, .inr ⟨k1, k4⟩⟩ h1
  · exact absurd ⟨u, k2, k3, .inr ⟨k1, k4⟩⟩ h1
  · exact absurd ⟨t, h2, h3, .inl ⟨h1, h4⟩⟩ k1
  · rw [flat_inj (h2.symm.trans k2)]; exact ⟨rfl, rfl⟩
  · omega
  · omega
  · exact absurd ⟨t, h2, h3, .inr ⟨h1, h4⟩⟩ k1
  · omega
  · rw [flat_inj (h2.symm.trans k2)]; exact ⟨rfl, rfl⟩
  · rw [flat_inj (h2.symm.trans k2)] at h5; omega
  · exact absurd ⟨t, h2, h3, .inr ⟨h1, h4⟩⟩ k1
  · omega
  · rw [flat_inj (h2.symm.trans k2)] at h5; omega
  · exact ⟨rfl, rfl⟩
theorem UnP.short {op : Int} {l r : List At} {s : ByteArray} (h : UnP op l r s) : r.length ≤ 1 ∧ s.size ≤ 5 := by
  rcases h with ⟨_, rfl, rfl⟩ | ⟨_, _, _, _, _, rfl, rfl⟩ | ⟨_, _, _, _, _, _, rfl, rfl⟩ | ⟨_, _, _, _, _, _, rfl, rfl⟩ <;> exact ⟨by simp, by decide⟩
/-- Numbers that came in are of 64 bits. -/
def Bits (l : List At) : Prop := ∀ x ∈ l, -9223372036854775808 ≤ x.n ∧ x.n ≤ 9223372036854775807
theorem Bits.num {l : List At} {t : Tr} (h : Bits l) (e : l = flat t) : -9223372036854775808 ≤ t.num ∧ t.num ≤ 9223372036854775807 := by
  obtain ⟨k, n, tx, ks⟩ := t
  exact h ⟨k, n, tx, ks.length⟩ (by rw [e]; simp [flat])
theorem AtomsAt.made {w' : World} {g : Nat} {l : List At} (hl : g < w'.heap.size) (h : AtomsAt w' g 0 l) : AtomsB w' (some ⟨g, 0, none⟩) l := .inr ⟨g, 0, rfl, hl, h⟩
theorem specUn_any (op : Int) (b o N cap : Nat) (l : List At) (w : World) (hl : l.length = N) (hcap : N ≤ cap) (hcm : cap ≤ 1048576) (hb : b < w.heap.size) (hn : AtomsAt w b o l) (hx : ∀ x ∈ l, x.text.size ≤ maxLen) (hbits : Bits l) :
    Calls Tryd.prog 13 #[.int .i64 op, .agg #[.slice (some ⟨b, o, none⟩) N cap]] w fun e w' => (∃ ad c r s, e = .returned (.tuple #[.agg #[.slice ad r.length c], .string s]) ∧ UnP op l r s ∧ AtomsB w' ad r) ∧ Below w.heap.size w w' := by
  by_cases hno : ∃ t, l = flat t ∧ ValidV l ∧ (op = 1 ∧ t.kind = 2 ∨ op = 2 ∧ t.kind = 3)
  · obtain ⟨t, e1, hv, ⟨rfl, hk⟩ | ⟨rfl, hk⟩⟩ := hno
    · refine (specUn_not b o N cap t l w e1 hl hcap hcm hb hn hx hv hk).mono ?_
      rintro e w' ⟨⟨g, rfl, _, h2, h3⟩, hb'⟩
      exact ⟨⟨_, 1, _, _, rfl, .inr (.inl ⟨t, rfl, e1, hv, hk, rfl, rfl⟩), h3.made h2⟩, hb'⟩
    · have hbn := hbits.num e1
      by_cases hr : t.num = -9223372036854775808
      · refine (specUn_range b o N cap t l w e1 hl hcap hcm hb hn hx hv hk hr).mono ?_
        rintro e w' ⟨rfl, hb'⟩
        exact ⟨⟨none, 0, [], _, rfl, .inr (.inr (.inr ⟨t, rfl, e1, hv, hk, hr, rfl, rfl⟩)), .inl rfl⟩, hb'⟩
      · refine (specUn_neg b o N cap t l w e1 hl hcap hcm hb hn hx hv hk (by omega) hbn.2).mono ?_
        rintro e w' ⟨⟨g, rfl, _, h2, h3⟩, hb'⟩
        exact ⟨⟨_, 1, _, _, rfl, .inr (.inr (.inl ⟨t, rfl, e1, hv, hk, by omega, rfl, rfl⟩)), h3.made h2⟩, hb'⟩
  · refine (specUn_type op b o N cap l w hl hcap hcm hb hn hx hno).mono ?_
    rintro e w' ⟨rfl, hb'⟩
    exact ⟨⟨none, 0, [], _, rfl, .inl ⟨hno, rfl, rfl⟩, .inl rfl⟩, hb'⟩
/-- What clayUnOf gives for a thing, and what is made of it. -/
theorem unOf_any (op : Int) (t : Tr) (v : Value) (S : Nat → Prop) (l : List At) (w : World) (h1 : One w) (e1 : l = flat t) (hg : Good t) (hbits : Bits l) (h : IsTh S w t v) :
    ∃ u s r, UnP op l r s ∧ (Calls Tryd.prog 30 #[.int .i64 op, v] w fun e w' => e = .returned (.tuple #[u, .string s]) ∧ w' = w) ∧ ∀ W, Below w.heap.size w W → Calls Tryd.prog 29 #[u, .string s] W fun e w' => AnsMade r s W w' e := by
  have hv : ValidV l := validV_good.2 ⟨t, e1, hg⟩
  have hno : ∀ k, t.kind = k → ¬ (op = 1 ∧ k = 2 ∨ op = 2 ∧ k = 3) → UnP op l [] wType := fun k hk hn => .inl ⟨fun ⟨t', e', _, h⟩ => hn (by rw [flat_inj (e1.symm.trans e')] at hk; rw [← hk]; exact h), rfl, rfl⟩
  have hty : ∀ (u : Value) W, Below w.heap.size w W → Calls Tryd.prog 29 #[u, .string wType] W fun e w' => AnsMade [] wType W w' e := fun u W _ => answer_word u wType W (by rw [Lib.toList_data]; rfl)
  have hbn := hbits.num e1
  obtain ⟨k, n, tx, ks⟩ := t
  simp only [Tr.num] at hbn
  have hlo := (good_node.1 hg).1
  unfold LocOk at hlo
  simp only [IsTh] at h
  rcases h with ⟨rfl, rfl⟩ | ⟨rfl, rfl⟩ | ⟨rfl, rfl⟩ | ⟨rfl, rfl⟩ | ⟨rfl, ad, cap, xs, rfl, _⟩ | ⟨rfl, ad, m, cap, xs, rfl, _⟩
  · exact ⟨_, _, _, hno 1 rfl (by omega), unOf_none op w, hty _⟩
  · by_cases ho : op = 1
    · subst ho
      refine ⟨_, _, _, .inr (.inl ⟨_, rfl, e1, hv, rfl, rfl, rfl⟩), unOf_not (n == 1) w, fun W hW => answer_thing _ _ W fun W2 hW2 => ?_⟩
      have hb := valueOf_bool (!(n == 1)) W2 (h1.below (hW.trans (hW2.mono hW.size)) h1.2.2)
      have hq : (!(n == 1)) = (n == 0) := by
        have : n = 0 ∨ n = 1 := by grind
        rcases this with rfl | rfl <;> rfl
      rw [hq] at hb
      rw [hq]
      exact hb
    · exact ⟨_, _, _, hno 2 rfl (by omega), unOf_bool op _ w ho, hty _⟩
  · by_cases ho : op = 2
    · subst ho
      by_cases hr : n = -9223372036854775808
      · subst hr
        exact ⟨_, _, _, .inr (.inr (.inr ⟨_, rfl, e1, hv, rfl, rfl, rfl, rfl⟩)), unOf_neg _ _ _ w (counted_min w), fun W _ => answer_word _ _ W (by rw [Lib.toList_data]; rfl)⟩
      · exact ⟨_, _, _, .inr (.inr (.inl ⟨_, rfl, e1, hv, rfl, by simp only [Tr.num]; omega, rfl, rfl⟩)), unOf_neg n _ _ w (counted_sub n w (by omega) hbn.2), fun W hW => answer_thing _ _ W fun W2 hW2 => valueOf_int (-n) W2 (h1.below (hW.trans (hW2.mono hW.size)) h1.2.2)⟩
    · exact ⟨_, _, _, hno 3 rfl (by omega), unOf_int op n w ho, hty _⟩
  · exact ⟨_, _, _, hno 4 rfl (by omega), unOf_text op tx w, hty _⟩
  · exact ⟨_, _, _, hno 5 rfl (by omega), unOf_list op _ _ _ _ _ w, hty _⟩
  · exact ⟨_, _, _, hno 6 rfl (by omega), unOf_rec op _ _ _ _ _ w, hty _⟩
set_option maxHeartbeats 4000000 in
theorem implUn_any (op : Int) (b o N cap : Nat) (l : List At) (w : World) (h1 : One w) (hl : l.length = N) (hN : N ≤ 1048576) (hb : b < w.heap.size) (hn : AtomsAt w b o l) (hx : ∀ x ∈ l, x.text.size ≤ maxLen) (hbits : Bits l) :
    Calls Tryd.prog 14 #[.int .i64 op, .agg #[.slice (some ⟨b, o, none⟩) N cap]] w fun e w' => ∃ r s, UnP op l r s ∧ AnsMade r s w w' e := by
  have HB0 := hid (below_two' w (.cells #[.slice (some ⟨b, o, none⟩) N cap] 29) (.cells #[.slice none 0 0] 29))
  have HC1 := hid (thingOf_all b o N cap l ((w.alloc (.cells #[.slice (some ⟨b, o, none⟩) N cap] 29)).alloc (.cells #[.slice none 0 0] 29)) (h1.below HB0.out h1.2.2) hl hN (by simp; omega) (hn.below HB0.out hb) hx)
  have H1 := hid h1
  have HBI := hid hbits
  clear hn hx hl h1 hbits
  go_enter Tryd.func14, Tryd.ntmps14
  go_wp2_with fail
  refine HC1.out.mono ?_
  rintro e w1 ⟨hb1, ⟨t, v, e1, g1, rfl, th1⟩ | ⟨hno, v, rfl⟩⟩
  · have HX1 : Hid (Below (w.heap.size + 1 + 1) ((w.alloc (.cells #[.slice (some ⟨b, o, none⟩) N cap] 29)).alloc (.cells #[.slice none 0 0] 29)) w1) := hb1.mono (by simp)
    have HW1 := hid (two_boxes HX1.out).2
    have hsz1 := HX1.out.size
    obtain ⟨u, s, r, hup, hc2, hc3⟩ := unOf_any op t v _ l w1 (H1.out.below HW1.out H1.out.2.2) e1 g1 HBI.out th1
    have HUP := hid hup
    have HC2 := hid hc2
    have HC3 := hid hc3
    clear hb1 hup hc2 hc3 th1
    go_wp2_with fail
    refine HC2.out.mono ?_
    rintro e w2 ⟨rfl, hw⟩
    have hw2 := hw.symm
    clear hw
    subst hw2
    go_wp2_with fail
    refine (HC3.out _ (Below.refl _ _)).mono ?_
    rintro e w3 ⟨ad, c, rfl, how, hg, hb3⟩
    have HX3 := hid (HX1.out.trans (hb3.mono (by have := hsz1; simpa using this)))
    obtain ⟨⟨_, p3, q3⟩, hw3⟩ := two_boxes HX3.out
    have HW3 := hid hw3
    have HOW := hid how
    have HG := hid hg
    have hsz3 : w.heap.size + 1 + 1 ≤ w1.heap.size := by have := hsz1; simpa using this
    clear how hg hb3 hw3
    go_wp2
    refine bodyPost_ret (v := .tuple #[.agg #[.slice ad r.length c], .string s]) (by simp [results, Tryd.results14, go_sem, p3]) rfl ⟨r, s, HUP.out, ad, c, rfl, ?_, ?_, ?_⟩
    · refine HOW.out.sv (Sv.setCell (S := fun k => k = w.heap.size + 1) (Sv.refl _ _) (.inl rfl) _) fun h0 g e e2 => ?_
      have := HG.out h0 g e
      omega
    · intro h0 g e
      have := HG.out h0 g e
      omega
    · exact below_set HW3.out _ _ (by omega) _
  · have HX1 : Hid (Below (w.heap.size + 1 + 1) ((w.alloc (.cells #[.slice (some ⟨b, o, none⟩) N cap] 29)).alloc (.cells #[.slice none 0 0] 29)) w1) := hb1.mono (by simp)
    obtain ⟨⟨_, p1, q1⟩, hw1⟩ := two_boxes HX1.out
    have HW1 := hid hw1
    have HUP : Hid (UnP op l [] wType) := .inl ⟨fun ⟨_, _, h, _⟩ => hno h, rfl, rfl⟩
    clear hb1 hw1 hno
    go_wp2
    refine bodyPost_ret (v := .tuple #[.agg #[.slice none 0 0], .string wType]) (by simp [results, Tryd.results14, go_sem, p1, wType]) rfl ⟨[], wType, HUP.out, none, 0, rfl, .inl rfl, fun h => absurd rfl h, ?_⟩
    exact below_set HW1.out _ _ (by omega) _
end Go.Proofs.YtfbfmhmpoaplaaaDoor
