import Derived.Test.YtkngjbpbjjoneaaGreatDoorJ44
import Derived.Test.YtkngjbpbjjoneaaGreatDoorJ45
import Derived.Test.YtkngjbpbjjoneaaGreatDoorJ46
import Derived.Test.YtkngjbpbjjoneaaGreatDoorJ47
/-! The program's write at every node. -/
namespace Go.Proofs.YtkngjbpbjjoneaaGreatDoor.Q
open Go.RowKit Go.Shelf
set_option maxRecDepth 20000
theorem kids_le {x : Nd} {m : Nat} {kd : Nat → Int} (h : KidsOk x m kd) (hx : x.kind ≠ 24) : ∀ i, i < m → kd i ≤ 22 := by
  intro i hi
  unfold KidsOk at h
  rcases h with ⟨_, h⟩ | ⟨_, _, h⟩ | ⟨_, _, h⟩ | ⟨_, _, h⟩ | ⟨_, _, h⟩ | ⟨_, hm, h0, h1, h2⟩ | ⟨_, hm, h0, h1⟩ | ⟨_, _, h⟩ | ⟨_, hm, h⟩ | ⟨_, h⟩ | ⟨_, h1, _, h2, h3⟩ | ⟨h, _⟩
  · omega
  · have := h i hi; unfold mE at this; omega
  · have := h i hi; unfold mE at this; omega
  · have := h i hi; unfold mE at this; omega
  · have := h i hi; unfold mE at this; omega
  · unfold mE at h0
    obtain rfl | rfl | ⟨rfl, hm3⟩ : i = 0 ∨ i = 1 ∨ (i = 2 ∧ m = 3) := by omega
    · omega
    · omega
    · rcases h2 hm3 with h | h <;> omega
  · unfold mE at h0
    obtain rfl | rfl : i = 0 ∨ i = 1 := by omega
    · omega
    · omega
  · have := h i hi; unfold mE at this; omega
  · obtain rfl : i = 0 := by omega
    omega
  · have := h i hi; unfold mS at this; omega
  · by_cases hl : i + 1 < m
    · have := h2 i hl; omega
    · obtain rfl : i = m - 1 := by omega
      omega
  · exact absurd h hx
theorem kind_range {nd : Nat → Nd} {O : List (List Nat)} {N : Nat} (hg : Good nd O N) (j : Nat) (hj : j < N) : 1 ≤ (nd j).kind ∧ (nd j).kind ≤ 24 := by
  have hk := (hg.fit j hj).2
  revert hk
  generalize nd j = x
  obtain ⟨k, op, ty, n, t, kids⟩ := x
  intro hk
  by_cases h : k < 1 ∨ 24 < k
  · exact absurd hk (ko_E k op ty n kids t _ _ h)
  · show 1 ≤ k ∧ k ≤ 24
    omega
theorem write_all {nd : Nat → Nd} {O : List (List Nat)} {N : Nat} {pv : Nat → Value} {B b : Nat} (hg : Good nd O N) : ∀ j, j < N → ∀ d, d + j ≤ 12001 → ((nd j).kind ≤ 22 → WriteOk nd O N pv B b d (pv j) (txt nd O d j)) ∧ ((nd j).kind = 23 → WriteOk nd O N pv B b 0 (pv j) (fnT nd O j)) := by
  intro j
  induction j using Nat.strongRecOn with
  | _ j ih =>
    intro hj d hd
    have hf := hg.fit j hj
    have hkr := kind_range hg j hj
    obtain ⟨ks, hks⟩ : ∃ ks, O.getD j [] = ks := ⟨_, rfl⟩
    have hp := hf.1
    have hk := hf.2
    rw [hks] at hk
    have hlt : ∀ c ∈ ks, c < j := fun c hc => hg.down j c (by rw [hks]; exact hc)
    have hkid : (nd j).kind ≠ 24 → ∀ c ∈ ks, (nd c).kind ≤ 22 := fun h24 c hc => by
      obtain ⟨i, hi, rfl⟩ := mem_getD hc
      exact kids_le hk h24 i hi
    refine ⟨fun h22 => ?_, fun h23 => ?_⟩
    · have hW : ∀ c ∈ ks, WriteOk nd O N pv B b d (pv c) (txt nd O d c) := fun c hc => (ih c (hlt c hc) (by have := hlt c hc; omega) d (by have := hlt c hc; omega)).1 (hkid (by omega) c hc)
      by_cases hE : mE (nd j).kind
      · rw [txt_E hE]
        have hC : CallOk 58 nd O N pv B b d (pv j) (tvE nd O j) := we_all hg hj hE fun c hc => by
          rw [hks] at hc
          have h2 := hW c hc
          obtain ⟨i, hi, rfl⟩ := mem_getD hc
          rw [txt_E (kids_E hk hE i hi)] at h2
          exact h2
        intro l W h hl
        have hv : IsE (pv j) := by
          have hpa := h.parts j hj
          unfold mE at hE
          unfold PartAt at hpa
          unfold IsE
          rcases hpa with ⟨_, e⟩ | ⟨_, e⟩ | ⟨_, e⟩ | ⟨_, e⟩ | ⟨_, e⟩ | ⟨_, e⟩ | ⟨_, _, _, e, _⟩ | ⟨_, _, _, e, _⟩ | ⟨_, e⟩ | ⟨h, _⟩ | ⟨h, _⟩ | ⟨h, _⟩ | ⟨h, _⟩ | ⟨h, _⟩ | ⟨h, _⟩ | ⟨h, _⟩ | ⟨h, _⟩ | ⟨h, _⟩ | ⟨h, _⟩ | ⟨h, _⟩ | ⟨h, _⟩ | ⟨h, _⟩ | ⟨h, _⟩ | ⟨h, _⟩
          iterate 9 exact ⟨_, _, e, by simp⟩
          all_goals omega
        exact write_of_st (.inl hv) (st_of_e hv hC) l W h hl
      · by_cases hS : mS (nd j).kind
        · rw [txt_S hS]
          obtain ⟨x, hx⟩ : ∃ x, nd j = x := ⟨_, rfl⟩
          have hS' := hS
          rw [hx] at hp hk hS
          have C : PCtx nd O N j x ks := ⟨hg, hj, hx, hks, hp, hk⟩
          have hC : CallOk 33 nd O N pv B b d (pv j) (svS nd O d j) := by
            obtain ⟨kd, op, ty, n, t, kids⟩ := x
            have h1 : 10 ≤ kd ∧ kd ≤ 20 := hS
            obtain rfl | rfl | rfl | rfl | rfl | rfl | rfl | rfl | rfl | rfl | rfl : kd = 10 ∨ kd = 11 ∨ kd = 12 ∨ kd = 13 ∨ kd = 14 ∨ kd = 15 ∨ kd = 16 ∨ kd = 17 ∨ kd = 18 ∨ kd = 19 ∨ kd = 20 := by omega
            · exact ws_10 C hW
            · exact ws_11 C hW
            · exact ws_12 C hW
            · exact ws_13 C hW
            · exact ws_14 C
            · exact ws_15 C
            · exact ws_16 C hW
            · exact ws_17 C hW
            · exact ws_18 C hW
            · exact ws_19 C hW
            · exact ws_20 C hW
          intro l W h hl
          have hv : IsS (pv j) := by
            have hpa := h.parts j hj
            unfold mS at hS'
            unfold PartAt at hpa
            unfold IsS
            rcases hpa with ⟨h, _⟩ | ⟨h, _⟩ | ⟨h, _⟩ | ⟨h, _⟩ | ⟨h, _⟩ | ⟨h, _⟩ | ⟨h, _⟩ | ⟨h, _⟩ | ⟨h, _⟩ | ⟨_, e⟩ | ⟨_, e⟩ | ⟨_, e⟩ | ⟨_, e⟩ | ⟨_, e⟩ | ⟨_, e⟩ | ⟨_, e⟩ | ⟨_, e⟩ | ⟨_, e⟩ | ⟨_, e⟩ | ⟨_, e⟩ | ⟨h, _⟩ | ⟨h, _⟩ | ⟨h, _⟩ | ⟨h, _⟩
            iterate 9 omega
            iterate 11 exact ⟨_, _, e, by simp⟩
            all_goals omega
          exact write_of_st (.inr hv) hC l W h hl
        · have hkk : (nd j).kind = 21 ∨ (nd j).kind = 22 := by unfold mE at hE; unfold mS at hS; omega
          obtain ⟨x, hx⟩ : ∃ x, nd j = x := ⟨_, rfl⟩
          rcases hkk with h21 | h22'
          · rw [txt_21 h21]
            rw [hx] at hp hk h21
            have C : PCtx nd O N j x ks := ⟨hg, hj, hx, hks, hp, hk⟩
            obtain ⟨kd, op, ty, n, t, kids⟩ := x
            obtain rfl : kd = 21 := h21
            have hS := (ko_21 _ _ _ _ _ _ _).1 hk
            exact wb_21 C (by omega) fun c hc => by
              have h2 := (ih c (hlt c hc) (by have := hlt c hc; omega) (d + 1) (by have := hlt c hc; omega)).1 (hkid (by rw [hx]; show (21 : Int) ≠ 24; decide) c hc)
              obtain ⟨i, hi, rfl⟩ := mem_getD hc
              rw [txt_S (hS i hi)] at h2
              exact h2
          · rw [txt_22 h22']
            rw [hx] at hp hk h22'
            have C : PCtx nd O N j x ks := ⟨hg, hj, hx, hks, hp, hk⟩
            obtain ⟨kd, op, ty, n, t, kids⟩ := x
            obtain rfl : kd = 22 := h22'
            exact wb_22 C
    · have hW : ∀ c ∈ ks, WriteOk nd O N pv B b 0 (pv c) (txt nd O 0 c) := fun c hc => (ih c (hlt c hc) (by have := hlt c hc; omega) 0 (by have := hlt c hc; omega)).1 (hkid (by omega) c hc)
      obtain ⟨x, hx⟩ : ∃ x, nd j = x := ⟨_, rfl⟩
      rw [hx] at hp hk h23
      have C : PCtx nd O N j x ks := ⟨hg, hj, hx, hks, hp, hk⟩
      obtain ⟨kd, op, ty, n, t, kids⟩ := x
      obtain rfl : kd = 23 := h23
      exact wb_23 C hW
theorem fnT_len {nd : Nat → Nd} {O : List (List Nat)} {N : Nat} (hg : Good nd O N) {j : Nat} (hj : j < N) (h23 : (nd j).kind = 23) : (fnT nd O j).length ≤ 800000000 := by
  have hf := hg.fit j hj
  have hdn := hg.down j
  have hN := hg.hN
  have htx := hg.text j hj
  obtain ⟨ks, hks⟩ : ∃ ks, O.getD j [] = ks := ⟨_, rfl⟩
  have hk := hf.2
  have hp := hf.1
  rw [hks] at hk hdn
  obtain ⟨x, hx⟩ : ∃ x, nd j = x := ⟨_, rfl⟩
  rw [hx] at hk h23 htx hp
  obtain ⟨kd, op, ty, n, t, kids⟩ := x
  obtain rfl : kd = 23 := h23
  obtain ⟨hm1, hm9, hpar, hlast⟩ := (ko_23 _ _ _ _ _ _ _).1 hk
  have e1 : ks.drop (ks.length - 1) = [ks.getD (ks.length - 1) 0] := by
    rw [List.drop_eq_getElem_cons (by omega), List.drop_of_length_le (by omega), List.getD_eq_getElem?_getD, List.getElem?_eq_getElem (by omega)]; rfl
  have hl := hdn _ (getD_mem (ks := ks) (i := ks.length - 1) (by omega))
  have hb := hg.blen 1 (ks.getD (ks.length - 1) 0) (by omega) (by omega) (O.getD (ks.getD (ks.length - 1) 0) []).length
  rw [List.take_of_length_le (Nat.le_refl _)] at hb
  have hj2 := joinOf_par (nd := nd) (ks := ks.take (ks.length - 1)) fun k hk => by
    obtain ⟨i, hi, e⟩ := mem_getD hk
    rw [List.length_take] at hi
    have e2 : ks.getD i 0 = k := by rw [← e, List.getD_eq_getElem?_getD, List.getD_eq_getElem?_getD, List.getElem?_take_of_lt (by omega)]
    have h3 := hpar i (by omega)
    rw [e2] at h3
    have hkj := hdn k (List.mem_of_mem_take hk)
    have hpk := (hg.fit k (by omega)).1
    revert hpk
    revert h3
    unfold parOf
    generalize nd k = z
    obtain ⟨zk, zo, zt, zn, ztx, zki⟩ := z
    intro h3 hpk
    obtain rfl : zk = 22 := h3
    obtain ⟨_, _, ⟨_, h2, _⟩, _, _⟩ := (plain_22 _ _ _ _ _).1 hpk
    have := twB_len zt
    simp only [List.length_append, List.length_cons, List.length_nil, len_size]
    omega
  rw [List.length_take] at hj2
  have htw := twB_len ty
  unfold fnT
  rw [hks, hx, e1]
  simp only [List.length_append, List.length_cons, List.length_nil, len_size, List.flatMap_cons, List.flatMap_nil, body_blk, gapB_len, Nat.zero_add]
  dsimp only at htx
  split
  · simp only [List.length_nil]; omega
  · simp only [List.length_append, List.length_cons, List.length_nil]; omega
end Go.Proofs.YtkngjbpbjjoneaaGreatDoor.Q
