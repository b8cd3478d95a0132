import Derived.Test.YtfbfmhmpoaplaaaDoorSKids
namespace Go.Proofs.YtfbfmhmpoaplaaaDoor
open Go.RowKit
set_option maxRecDepth 20000
/-- Valid with so many atoms above it. -/
def OkV (l : List At) (above : Nat) : Prop := ∃ t, l = flat t ∧ OkT t ∧ above + high t ≤ 12
theorem okV_flat {t : Tr} {a : Nat} : OkV (flat t) a ↔ OkT t ∧ a + high t ≤ 12 := by
  constructor
  · rintro ⟨t', h, h1⟩
    rw [flat_inj h]; exact h1
  · intro h; exact ⟨t, rfl, h⟩
theorem okV_node {k n : Int} {t : ByteArray} {ks : List Tr} {a : Nat} : OkV (flat (.node k n t ks)) a ↔ LocOk k n t ks ∧ (∀ x ∈ ks, OkV (flat x) (a + 1)) ∧ a ≤ 12 := by
  rw [okV_flat]
  simp only [OkT, okTs_iff, high, okV_flat]
  constructor
  · rintro ⟨⟨h1, h2⟩, h3⟩
    exact ⟨h1, fun x hx => ⟨h2 x hx, by have := highs_mem hx; omega⟩, by omega⟩
  · rintro ⟨h1, h2, h3⟩
    refine ⟨⟨h1, fun x hx => (h2 x hx).1⟩, ?_⟩
    have := highs_le (l := ks) (b := 12 - a) (fun x hx => by have := (h2 x hx).2; omega)
    omega
theorem flat_last {l : List At} {k n : Int} {t : ByteArray} {ks : List Tr} {N : Nat} (h : l = flat (.node k n t ks)) (hN : l.length = N) : 1 ≤ N ∧ (flats ks).length = N - 1 ∧ l[N - 1]? = some ⟨k, n, t, ks.length⟩ := by
  subst h
  simp only [flat, List.length_append, List.length_singleton] at hN
  refine ⟨by omega, by omega, ?_⟩
  simp only [flat]
  rw [List.getElem?_append_right (by omega), show N - 1 - (flats ks).length = 0 by omega]
  rfl
theorem empty_iff (t : ByteArray) : (t.toList != (⟨#[]⟩ : ByteArray).toList) = true ↔ ¬ t.toList = [] := by
  rw [bne_iff_ne, Lib.toList_data]
  simp
/-- What a kid is, in a world that lies behind. -/
theorem kid_at {W : World} {b o : Nat} {l : List At} {k n : Int} {t : ByteArray} {ks : List Tr} (h : l = flat (.node k n t ks)) (ha : AtomsAt W b o l) (q : Nat) (hq : q < ks.length) : AtomsAt W b (o + (0 + (flats (ks.take q)).length) * 4) (flat ks[q]) := by
  subst h
  simp only [flat] at ha
  rw [flats_seg ks q hq, List.append_assoc, List.append_assoc] at ha
  rw [Nat.zero_add]
  exact ha.mid
theorem l5Ok_zero (b o cap : Nat) (l : List At) (above : Nat) (w : World) (hl : l.length = 0) :
    Calls Tryd.prog 18 #[.agg #[.slice (some ⟨b, o, none⟩) 0 cap], .int .i64 above] w fun e w' => Says e (OkV l above) ∧ Below w.heap.size w w' := by
  have HE : Hid (¬ OkV l above) := fun ⟨t, h, _⟩ => by have h1 := flat_pos t; rw [← h, hl] at h1; omega
  clear hl
  go_enter Tryd.func18, Tryd.ntmps18
  go_wp2
  go_ret
  exact ⟨says_f HE.out, (Below.refl _ _).alloc (Nat.le_refl _) _⟩
/-- The contract of l5Ok up to m atoms. -/
def OkIH (m : Nat) : Prop := ∀ (b o N cap : Nat) (l : List At) (above : Nat) (w : World), N ≤ m → l.length = N → N ≤ cap → cap ≤ 1048576 → above ≤ 13 → b < w.heap.size → AtomsAt w b o l → (∀ x ∈ l, x.text.size ≤ maxLen) →
    Calls Tryd.prog 18 #[.agg #[.slice (some ⟨b, o, none⟩) N cap], .int .i64 above] w fun e w' => Says e (OkV l above) ∧ Below w.heap.size w w'
set_option maxHeartbeats 1000000 in
theorem l5Ok_deep (b o N cap : Nat) (l : List At) (above : Nat) (w : World) (_hcap : N ≤ cap) (_hcm : cap ≤ 1048576) (hN1 : 1 ≤ N) (ha : above ≤ 13) (ha12 : 12 < above) : Calls Tryd.prog 18 #[.agg #[.slice (some ⟨b, o, none⟩) N cap], .int .i64 above] w fun e w' => Says e (OkV l above) ∧ Below w.heap.size w w' := by
  have HE : Hid (¬ OkV l above) := fun ⟨t, h, _, h2⟩ => by omega
  have hNz : ((N : Int) == 0) = false := by simp; omega
  have ha2 : (12 : Int) < (above : Int) := by omega
  go_enter Tryd.func18, Tryd.ntmps18
  go_wp2
  go_ret
  exact ⟨says_f HE.out, (Below.refl _ _).alloc (Nat.le_refl _) _⟩
set_option maxHeartbeats 1000000 in
theorem l5Ok_noflat (b o N cap : Nat) (l : List At) (above : Nat) (w : World) (hl : l.length = N) (hcap : N ≤ cap) (hcm : cap ≤ 1048576) (hN1 : 1 ≤ N) (ha12 : above ≤ 12) (hb : b < w.heap.size) (hn : AtomsAt w b o l) (hx : ∀ x ∈ l, x.text.size ≤ maxLen) (hno : ∀ t, ¬ l = flat t) : Calls Tryd.prog 18 #[.agg #[.slice (some ⟨b, o, none⟩) N cap], .int .i64 above] w fun e w' => Says e (OkV l above) ∧ Below w.heap.size w w' := by
  have HNO := hid hno
  clear hno
  have HN := hid hn
  have HX := hid hx
  have HL := hid hl
  have hNz : ((N : Int) == 0) = false := by simp; omega
  have ha2 : (above : Int) ≤ 12 := by omega
  clear hl hn hx
  have HB0 := hid (Below.refl (w.heap.size + 1) (w.alloc (.cells #[.slice (some ⟨b, o, none⟩) N cap] 29)))
  go_enter Tryd.func18, Tryd.ntmps18
  go_wp2_with fail
  refine (l5Kids_any b o N cap l _ HL.out hcap hcm (by simp; omega) (HN.out.below (btree HB0.out) hb)).mono ?_
  rintro e w1 ⟨hb1, h1⟩
  have HB1 := hid (HB0.out.trans (hb1.mono (by simp)))
  clear hb1
  have t1 := tree_cell HB1.out
  have hz1 := HB1.out.size
  have HNI : Hid (N - 1 < l.length) := by show _ < _; rw [HL.out]; omega
  obtain ⟨x, hx⟩ : ∃ x, l[N - 1]? = some x := ⟨_, List.getElem?_eq_getElem HNI.out⟩
  have HXX := hid hx
  clear hx
  have HL5 : Hid (∀ W, Below (w.heap.size + 1) (w.alloc (.cells #[.slice (some ⟨b, o, none⟩) N cap] 29)) W → Calls Tryd.prog 26 #[.agg #[.slice (some ⟨b, o, none⟩) N cap]] W fun e w' => e = .returned (atV x) ∧ Below W.heap.size W w') := fun W hW =>
    l5Last_any b o N cap x W hN1 (by omega) (by have := (btree hW).size; omega) ((HN.out.below (btree hW) hb) _ x HXX.out)
  rcases h1 with ⟨v, rfl, hno⟩ | ⟨k, n, t, ks, go, co, rfl, hfl, hgo, hrow⟩
  · have HE : Hid (¬ OkV l above) := fun ⟨t, h, _⟩ => hno t h
    clear hno HNO
    go_wp2_with (go_at_call 26; refine (HL5.out _ HB1.out).mono ?_; rintro e w2 ⟨rfl, hb2⟩; simp only [atV]; have HB2 := hid (HB1.out.trans (hb2.mono (by simpa using hz1))); clear hb2)
    go_ret
    exact ⟨says_f HE.out, (btree HB2.out).alloc (btree HB2.out).size _⟩
  · exact absurd hfl (HNO.out _)
end Go.Proofs.YtfbfmhmpoaplaaaDoor
