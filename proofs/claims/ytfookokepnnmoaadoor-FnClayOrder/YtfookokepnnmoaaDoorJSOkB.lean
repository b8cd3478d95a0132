import Derived.Deep.QuietTactic
import Derived.Test.YtfookokepnnmoaaDoorJSKids
namespace Go.Proofs.YtfookokepnnmoaaDoor
open Go.RowKit
set_option maxRecDepth 20000
set_option maxHeartbeats 4000000 in
theorem l5Ok_B (m : Nat) (ih : OkIH m) (b o N cap : Nat) (l : List At) (above : Nat) (w : World) (hm : N ≤ m + 1) (hl : l.length = N) (hcap : N ≤ cap) (hcm : N ≤ 1048576 ∧ cap ≤ 9223372036854775807) (hN1 : 1 ≤ N) (ha12 : above ≤ 12) (hb : b < w.heap.size) (hn : AtomsAt w b o l) (hx : ∀ x ∈ l, x.text.size ≤ maxLen) (k0 n0 : Int) (t0 : ByteArray) (ks0 : List Tr) (hf0 : l = flat (.node k0 n0 t0 ks0)) (hk0 : k0 = 2) : Calls Tryd.prog 22 #[.agg #[.slice (some ⟨b, o, none⟩) N cap], .int .i64 above] w fun e w' => Says e (OkV l above) ∧ Below w.heap.size w w' := by
  have HF0 := hid hf0
  clear hf0
  have IH := hid ih
  have HN := hid hn
  have HX := hid hx
  have HL := hid hl
  have hNz : ((N : Int) == 0) = false := by simp; omega
  have ha2 : (above : Int) ≤ 12 := by omega
  clear ih hl hn hx
  have HB0 := hid (Below.refl (w.heap.size + 1) (w.alloc (.cells #[.slice (some ⟨b, o, none⟩) N cap] 25)))
  go_enter Tryd.func22, Tryd.ntmps22
  go_wp2_with fail
  refine (l5Kids_any b o N cap l _ HL.out hcap hcm (by simp; omega) (HN.out.below (btree HB0.out) hb)).mono ?_
  rintro e w1 ⟨hb1, h1⟩
  have HB1 := hid (HB0.out.trans (hb1.mono (by simp)))
  clear hb1
  have t1 := tree_cell HB1.out
  have hz1 := HB1.out.size
  have HNI : Hid (N - 1 < l.length) := by show _ < _; rw [HL.out]; omega
  obtain ⟨x, hx⟩ : ∃ x, l[N - 1]? = some x := ⟨_, List.getElem?_eq_getElem HNI.out⟩
  have HXX := hid hx
  clear hx
  have HL5 : Hid (∀ W, Below (w.heap.size + 1) (w.alloc (.cells #[.slice (some ⟨b, o, none⟩) N cap] 25)) W → Calls Tryd.prog 29 #[.agg #[.slice (some ⟨b, o, none⟩) N cap]] W fun e w' => e = .returned (atV x) ∧ Below W.heap.size W w') := fun W hW =>
    l5Last_any b o N cap x W hN1 (by omega) (by have := (btree hW).size; omega) ((HN.out.below (btree hW) hb) _ x HXX.out)
  rcases h1 with ⟨v, rfl, hno⟩ | ⟨k, n, t, ks, go, co, rfl, hfl, hgo, hrow⟩
  · exact absurd HF0.out (hno _)
  · obtain ⟨rfl, rfl, rfl, rfl⟩ : k0 = k ∧ n0 = n ∧ t0 = t ∧ ks0 = ks := by
      have := flat_inj (HF0.out.symm.trans hfl)
      injection this with h1 h2 h3 h4
      exact ⟨h1, h2, h3, h4⟩
    obtain ⟨_, hfn, hxl⟩ := flat_last hfl HL.out
    obtain rfl : x = ⟨k0, n0, t0, ks0.length⟩ := by
      have := HXX.out
      rw [hxl] at this
      cases this
      rfl
    have HFL := hid hfl
    have HFN := hid hfn
    have HROW := hid hrow
    have HOK := hid (okV_node (k := k0) (n := n0) (t := t0) (ks := ks0) (a := above))
    rw [← hfl] at HOK
    clear hfl hfn hxl hrow
    generalize hm : ks0.length = M at *
    have HM := hid hm
    have hM : M ≤ N := by
      have h1 := flats_len_ge ks0
      have h2 := HFN.out
      rw [HM.out] at h1
      omega
    have hts : t0.size ≤ maxLen := HX.out _ (List.mem_of_getElem? HXX.out)
    unfold maxLen at hts
    have HKD : Hid (∀ q (h : q < ks0.length), (flats (ks0.take q)).length + (flat ks0[q]).length + 1 ≤ N ∧ ∀ x ∈ flat ks0[q], x ∈ l) := fun q h => by
      have h1 := flats_take_le ks0 (q + 1)
      rw [flats_take_succ ks0 q h, List.length_append, HFN.out] at h1
      refine ⟨by omega, fun x hx => ?_⟩
      rw [HFL.out]
      simp only [flat]
      rw [flats_seg ks0 q h]
      simp [hx]
    have HKC : Hid (∀ W, Below w1.heap.size w1 W → ∀ q (h : q < ks0.length), W.cell? ⟨go, q, none⟩ = some (.slice (some ⟨b, o + (0 + (flats (ks0.take q)).length) * 4, none⟩) (flat ks0[q]).length (cap - (0 + (flats (ks0.take q)).length)))) := fun W hW q h => by
      rw [hW.cell (p := ⟨go, q, none⟩) HROW.out.lt, HROW.out.cell q (by rw [← HM.out]; exact h), kidRow_get _ _ _ _ _ _ h]
    have HKA : Hid (∀ W, Below w1.heap.size w1 W → ∀ q (h : q < ks0.length), AtomsAt W b (o + (0 + (flats (ks0.take q)).length) * 4) (flat ks0[q])) := fun W hW q h =>
      kid_at HFL.out ((HN.out.below (btree HB1.out) hb).below hW (by have := (btree HB1.out).size; omega)) q h
    have HCALL : Hid (∀ W, Below w1.heap.size w1 W → ∀ q (h : q < ks0.length), Calls Tryd.prog 22 #[.agg #[.slice (some ⟨b, o + (0 + (flats (ks0.take q)).length) * 4, none⟩) (flat ks0[q]).length (cap - (0 + (flats (ks0.take q)).length))], .int .i64 ((above : Int) + 1)] W fun e w' => Says e (OkV (flat ks0[q]) (above + 1)) ∧ Below W.heap.size W w') := fun W hW q h => by
      obtain ⟨h1, h2⟩ := HKD.out q h
      exact IH.out b _ _ _ (flat ks0[q]) (above + 1) W (by omega) rfl (by omega) (by omega) (by omega) (by have := hW.size; have := (btree HB1.out).size; omega) (HKA.out W hW q h) (fun x hx => HX.out x (h2 x hx))
    clear hm
    clear HF0
    have HBT : Hid (∀ W, Below w1.heap.size w1 W → Below w.heap.size w W) := fun W h => (btree HB1.out).trans (h.mono (btree HB1.out).size)
    subst hk0
    by_cases ht0 : t0.toList = []
    case neg =>
      have HE : Hid (¬ OkV l above) := fun h => by
        have h1 := (HOK.out.1 h).1
        unfold LocOk at h1
        have h2 := HM.out
        have h3 : ks0 = [] → ks0.length = 0 := fun h => by rw [h]; rfl
        grind
      have htb := (empty_iff t0).2 ht0
      go_wp2_with (go_at_call 29; refine (HL5.out _ HB1.out).mono ?_; rintro e w2 ⟨rfl, hb2⟩; simp only [atV]; have H12 := hid hb2; have HB2 := hid (HB1.out.trans (hb2.mono (by simpa using hz1))); clear hb2)
      go_ret
      exact ⟨says_f HE.out, (btree HB2.out).alloc (btree HB2.out).size _⟩
    have htb : (t0.toList != (⟨#[]⟩ : ByteArray).toList) = false := by
      cases h : (t0.toList != (⟨#[]⟩ : ByteArray).toList)
      · rfl
      · exact absurd ht0 ((empty_iff t0).1 h)
    by_cases hm0 : M = 0
    case neg =>
      have HE : Hid (¬ OkV l above) := fun h => by
        have h1 := (HOK.out.1 h).1
        unfold LocOk at h1
        have h2 := HM.out
        have h3 : ks0 = [] → ks0.length = 0 := fun h => by rw [h]; rfl
        grind
      have hmb : ((M : Int) != 0) = true := by simp; omega
      go_wp2_with (go_at_call 29; refine (HL5.out _ HB1.out).mono ?_; rintro e w2 ⟨rfl, hb2⟩; simp only [atV]; have H12 := hid hb2; have HB2 := hid (HB1.out.trans (hb2.mono (by simpa using hz1))); clear hb2)
      go_ret
      exact ⟨says_f HE.out, (btree HB2.out).alloc (btree HB2.out).size _⟩
    subst hm0
    have hk0 : ks0 = [] := List.length_eq_zero_iff.1 HM.out
    have HNK : Hid (∀ x ∈ ks0, OkV (flat x) (above + 1)) := fun x hx => by rw [hk0] at hx; cases hx
    by_cases hn : n0 = 0 ∨ n0 = 1
    · have HE : Hid (OkV l above) := HOK.out.2 ⟨by unfold LocOk; grind, HNK.out, by omega⟩
      rcases hn with rfl | rfl
      · go_wp2_with (go_at_call 29; refine (HL5.out _ HB1.out).mono ?_; rintro e w2 ⟨rfl, hb2⟩; simp only [atV]; have H12 := hid hb2; have HB2 := hid (HB1.out.trans (hb2.mono (by simpa using hz1))); clear hb2)
        go_ret
        exact ⟨says_t HE.out, (btree HB2.out).alloc (btree HB2.out).size _⟩
      · go_wp2_with (go_at_call 29; refine (HL5.out _ HB1.out).mono ?_; rintro e w2 ⟨rfl, hb2⟩; simp only [atV]; have H12 := hid hb2; have HB2 := hid (HB1.out.trans (hb2.mono (by simpa using hz1))); clear hb2)
        go_ret
        exact ⟨says_t HE.out, (btree HB2.out).alloc (btree HB2.out).size _⟩
    · have HE : Hid (¬ OkV l above) := fun h => by
        have h1 := (HOK.out.1 h).1
        unfold LocOk at h1
        have h2 := HM.out
        have h3 : ks0 = [] → ks0.length = 0 := fun h => by rw [h]; rfl
        grind
      have hb0 : (n0 == 0) = false := by simp; omega
      have hb1 : (n0 == 1) = false := by simp; omega
      go_wp2_with (go_at_call 29; refine (HL5.out _ HB1.out).mono ?_; rintro e w2 ⟨rfl, hb2⟩; simp only [atV]; have H12 := hid hb2; have HB2 := hid (HB1.out.trans (hb2.mono (by simpa using hz1))); clear hb2)
      go_ret
      exact ⟨says_f HE.out, (btree HB2.out).alloc (btree HB2.out).size _⟩
end Go.Proofs.YtfookokepnnmoaaDoor
