import Derived.Test.YtkngjbpbjjoneaaGreatDoorJ48
import Derived.Test.YtkngjbpbjjoneaaGreatDoorJ34
import Derived.Test.YtkngjbpbjjoneaaGreatDoorJ40b
import Derived.Test.YtkngjbpbjjoneaaGreatDoorJ31
/-! The program's MillPrint. -/
namespace Go.Proofs.YtkngjbpbjjoneaaGreatDoor.Q
open Go.RowKit Go.Shelf
set_option maxRecDepth 20000
set_option maxHeartbeats 1000000 in
theorem implValidP_out (b N cap : Nat) (nd : Nat → Nd) (w : World) (hN : N ≤ 1048576) (ho : 12001 < N) :
    Calls Tryz.prog 14 #[.agg #[.slice (some ⟨b, 0, none⟩) N cap]] w fun e w' => Says e (ValidT nd N) ∧ Below w.heap.size w w' := by
  have HF : Hid (¬ ValidT nd N) := fun ⟨h1, h2, _⟩ => by omega
  go_enter Tryz.func14, Tryz.ntmps14
  go_wp2
  go_ret
  exact ⟨says_f HF.out, (Below.refl _ _).alloc (Nat.le_refl _) _⟩
theorem implValidP (b N cap : Nat) (nd : Nat → Nd) (w : World) (he : EnvB w) (hN : N ≤ 1048576) (hb : b < w.heap.size) (hn : NodesAt w b N nd) (hx : ∀ i, i < N → (nd i).text.size ≤ maxLen) :
    Calls Tryz.prog 14 #[.agg #[.slice (some ⟨b, 0, none⟩) N cap]] w fun e w' => Says e (ValidT nd N) ∧ Below w.heap.size w w' := by
  by_cases ho : 12001 < N
  · exact implValidP_out b N cap nd w hN ho
  · exact implValid_any b N cap nd w he (by omega) hb hn hx
theorem progT_len {nd : Nat → Nd} {O : List (List Nat)} {N : Nat} (hg : Good nd O N) (ks : List Nat) (h : ∀ k ∈ ks, k < N ∧ (nd k).kind = 23) : (progT nd O ks).length ≤ 800000001 * ks.length := by
  induction ks with
  | nil => simp [progT]
  | cons a r ih =>
    have h1 := fnT_len hg (h a (by simp)).1 (h a (by simp)).2
    have h2 := ih fun k hk => h k (by simp [hk])
    have e : progT nd O (a :: r) = (fnT nd O a ++ [10]) ++ progT nd O r := rfl
    rw [e]
    simp only [List.length_append, List.length_cons, List.length_nil]
    omega
theorem progT_ne {nd : Nat → Nd} {O : List (List Nat)} {ks : List Nat} (h : 1 ≤ ks.length) : progT nd O ks ≠ [] := by
  cases ks with
  | nil => cases h
  | cons a r =>
    have e : progT nd O (a :: r) = (fnT nd O a ++ [10]) ++ progT nd O r := rfl
    rw [e]
    simp
set_option maxHeartbeats 4000000 in
theorem implPrint_all (b N cap : Nat) (nd : Nat → Nd) (w : World) (he : EnvB w) (hep : EnvP w) (hN : N ≤ 1048576) (hb : b < w.heap.size) (hn : NodesAt w b N nd) (hx : ∀ i, i < N → (nd i).text.size ≤ maxLen) :
    Calls Tryz.prog 7 #[.agg #[.slice (some ⟨b, 0, none⟩) N cap]] w fun e w' => PrintIs e nd N ∧ Below w.heap.size w w' := by
  have HX := hid hx
  have HN := hid hn
  have HE := hid he
  have HEP := hid hep
  have HB0 := hid (Below.refl (w.heap.size + 1) (w.alloc (.cells #[.slice (some ⟨b, 0, none⟩) N cap] 29)))
  have HST : Hid (∀ V V', Below (w.heap.size + 1) (w.alloc (.cells #[.slice (some ⟨b, 0, none⟩) N cap] 29)) V → Below V.heap.size V V' → Below (w.heap.size + 1) (w.alloc (.cells #[.slice (some ⟨b, 0, none⟩) N cap] 29)) V') := fun V V' h h2 => h.trans (h2.mono (by have := h.size; simpa using this))
  have h8 := hep.sz
  clear hx hn he hep
  go_enter Tryz.func7, Tryz.ntmps7
  go_wp2_with fail
  refine (implValidP b N cap nd _ (HE.out.below (btree HB0.out)) hN (by simp; omega) (HN.out.below (btree HB0.out) hb) HX.out).mono ?_
  rintro e w1 ⟨hs, hb1⟩
  have HB1 := hid (HST.out _ _ HB0.out hb1)
  have t1 := tree_cell HB1.out
  clear hb1
  rcases hs.get with ⟨rfl, hv⟩ | ⟨rfl, hv⟩
  · have HV := hid hv
    obtain ⟨hN1, hN2, h24, O, x, hkf, hfit⟩ := hv
    have HG : Hid (Good nd O N) := ⟨hN2, ⟨_, hkf⟩, fun i hi => (hfit i hi).2⟩
    have HK0 := hid hkf
    have hx1 : x = N - 1 := by
      obtain ⟨M, rfl⟩ : ∃ M, N = M + 1 := ⟨N - 1, by omega⟩
      obtain ⟨o', sp, sk, _, _, h3, _⟩ := kidsF_step hkf
      cases sp with
      | nil => simp at h3; omega
      | cons a t => cases t <;> simp at h3
    have hw1 : w.heap.size + 1 ≤ w1.heap.size := by have := HB1.out.size; simpa using this
    have hlt1 : w.heap.size < w1.heap.size := by omega
    have HA := hid ((Below.refl w1.heap.size w1).alloc (Nat.le_refl _) (.cells #[.pointer none, .slice none 0 0, .int .i64 0] 52))
    have HBA := hid ((btree HB1.out).trans (HA.out.mono (by omega)))
    have HWA : Hid (WrAt w1.heap.size w1.heap.size (.int .i64 ((0 : Nat) : Int)) [] (w1.alloc (.cells #[.pointer none, .slice none 0 0, .int .i64 0] 52))) := ⟨.pointer none, .slice none 0 0, .inl rfl, ⟨Nat.le_refl _, heap_alloc_new w1 _, ⟨rfl, .inl ⟨rfl, rfl⟩⟩⟩⟩
    -- the kids of the root
    have hxN : x < N := by omega
    obtain ⟨ks, hks⟩ : ∃ ks, O.getD x [] = ks := ⟨_, rfl⟩
    have hk24 : (nd x).kind = 24 := by rw [hx1]; exact h24
    have hko := (HG.out.fit x hxN).2
    have hpl := (HG.out.fit x hxN).1
    obtain ⟨z, hz⟩ : ∃ z, nd x = z := ⟨_, rfl⟩
    rw [hks] at hko
    rw [hz] at hko hpl hk24
    have HC : Hid (PCtx nd O N x z ks) := ⟨HG.out, hxN, hz, hks, hpl, hko⟩
    obtain ⟨zk, zo, zt, zn, ztx, zki⟩ := z
    obtain rfl : zk = 24 := hk24
    obtain ⟨hm1, hm60, hm23⟩ := (ko_24 _ _ _ _ _ _ _).1 hko
    have HKD : Hid (∀ k ∈ ks, k < N ∧ (nd k).kind = 23) := fun k hk => by
      have hl := HG.out.down x k (by rw [hks]; exact hk)
      obtain ⟨i, hi, rfl⟩ := mem_getD hk
      exact ⟨by omega, hm23 i hi⟩
    have HPR := hid (prL_eq HK0.out)
    rw [← hx1, hks] at HPR
    have HPL := hid (progT_len HG.out ks HKD.out)
    have HPN := hid (progT_ne (nd := nd) (O := O) hm1)
    clear hs hkf hfit hko hpl hz hm23 h24
    go_wp2_with fail
    refine (partTree_any b N cap x nd O _ HG.out HK0.out (by simp; omega) (HN.out.below HBA.out hb)).mono ?_
    rintro e w2 ⟨⟨pv, rfl, hparts⟩, hb2⟩
    have HB2 := hid hb2
    have hS : St nd O N pv w1.heap.size w1.heap.size 0 [] w2 := ⟨by omega, ⟨[], HWA.out.next hb2, .inl rfl⟩, hparts, HEP.out.below ((HBA.out.mono h8).trans (hb2.mono (by simp; omega)))⟩
    obtain ⟨ad, cp, hv, _⟩ := pa_24.1 (HC.out.part hS)
    have HWR := hid (wb_24 (d := 0) HC.out (fun k hk => (write_all HG.out k (HKD.out k hk).1 0 (by have := (HKD.out k hk).1; omega)).2 (HKD.out k hk).2) [] w2 hS (by have := HPL.out; simp only [List.length_nil]; omega))
    rw [hv] at HWR
    rw [hv]
    have HB12 := hid ((HA.out.trans (hb2.mono (by simp))) : Below w1.heap.size w1 w2)
    clear hv hparts hb2 hS
    generalize progT nd O ks = T at *
    go_wp2_with fail
    refine HWR.out.mono ?_
    rintro e w3 ⟨rfl, hs3, hk3⟩
    obtain ⟨l', hwr, hl'⟩ := hs3.wr
    rw [List.nil_append] at hl'
    have HW3 := hid hwr
    have HK3 := hid (hk3.below (Nat.le_refl _) HB12.out.size)
    have hb3 : Below w1.heap.size w1 w3 := HB12.out.trans HK3.out
    have HB3 := hid ((btree HB1.out).trans (hb3.mono (by omega)))
    clear hs3 hk3 hwr hb3
    go_wp2_with fail
    refine (len_any _ _ _ l' _ HW3.out).mono ?_
    rintro e w4 ⟨rfl, hw4⟩
    have e4 := hw4.symm
    subst e4
    have hTl := HPL.out
    by_cases h12 : 12000 < l'.length
    · have h12' : (12000 : Int) < (l'.length : Int) := by omega
      have HP0 : Hid (prL nd N = []) := HPR.out.trans (if_neg (by rcases hl' with rfl | ⟨_, h⟩ <;> omega))
      go_wp2
      go_ret
      exact ⟨⟨[], rfl, fun h => absurd HV.out h, fun _ => HP0.out.symm⟩, HB3.out⟩
    · have h12' : (l'.length : Int) ≤ 12000 := by omega
      obtain rfl : l' = T := by rcases hl' with h | ⟨h, _⟩; exact h; omega
      have HP0 : Hid (prL nd N = l') := HPR.out.trans (if_pos (by omega))
      go_wp2_with fail
      refine (string_any _ _ _ l' _ HW3.out HPN.out).mono ?_
      rintro e w5 ⟨rfl, hb5⟩
      have HB5 := hid (HB3.out.trans (hb5.mono (by omega)))
      clear hb5
      go_wp2
      go_ret
      exact ⟨⟨l', rfl, fun h => absurd HV.out h, fun _ => HP0.out.symm⟩, HB5.out⟩
  · have HV := hid hv
    clear hs hv
    go_wp2
    go_ret
    exact ⟨⟨[], rfl, fun _ => rfl, fun h => absurd h HV.out⟩, btree HB1.out⟩
end Go.Proofs.YtkngjbpbjjoneaaGreatDoor.Q
