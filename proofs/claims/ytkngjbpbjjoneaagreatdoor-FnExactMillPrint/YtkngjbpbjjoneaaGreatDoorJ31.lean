import Derived.Deep.RegionHeld3
import Derived.Test.YtkngjbpbjjoneaaGreatDoorJ25
import Derived.Test.YtkngjbpbjjoneaaGreatDoorJ27
import Derived.Test.YtkngjbpbjjoneaaGreatDoorJ12
namespace Go.Proofs.YtkngjbpbjjoneaaGreatDoor.Q
open Go.RowKit Go.Shelf
set_option maxRecDepth 20000
theorem info_sd : (Tryz.prog.info? 75).map (fun i => (i.zero, i.size, i.bytes)) = some (some (.agg #[.int .i64 0, .int .i64 0]), 2, 16) := by kernel_rfl
/-- What the loop of MillValidTree holds behind j nodes. -/
def VInv (nd : Nat → Nd) (B : Nat) (W0 W : World) (j : Nat) (vo : Value) : Prop := ∃ o s, kidsF nd j = some (o, s) ∧ (∀ x, x < j → FitAt nd o x) ∧ W.ownsRow B 75 2 vo s.length (sdRow nd (highs o) s) ∧ Below B W0 W
theorem six_keep {W W' : World} {B g : Nat} {a0 a1 a2 a3 a4 a5 : Value} (h : Below B W.drew W') (hB : g < B) (hw : W.cell? ⟨g, 0, none⟩ = some a0 ∧ W.cell? ⟨g, 1, none⟩ = some a1 ∧ W.cell? ⟨g, 2, none⟩ = some a2 ∧ W.cell? ⟨g, 3, none⟩ = some a3 ∧ W.cell? ⟨g, 4, none⟩ = some a4 ∧ W.cell? ⟨g, 5, none⟩ = some a5) :
    W'.cell? ⟨g, 0, none⟩ = some a0 ∧ W'.cell? ⟨g, 1, none⟩ = some a1 ∧ W'.cell? ⟨g, 2, none⟩ = some a2 ∧ W'.cell? ⟨g, 3, none⟩ = some a3 ∧ W'.cell? ⟨g, 4, none⟩ = some a4 ∧ W'.cell? ⟨g, 5, none⟩ = some a5 := by
  obtain ⟨h0, h1, h2, h3, h4, h5⟩ := hw
  exact ⟨(h.cell (p := ⟨g, _, none⟩) hB).trans h0, (h.cell (p := ⟨g, _, none⟩) hB).trans h1, (h.cell (p := ⟨g, _, none⟩) hB).trans h2, (h.cell (p := ⟨g, _, none⟩) hB).trans h3, (h.cell (p := ⟨g, _, none⟩) hB).trans h4, (h.cell (p := ⟨g, _, none⟩) hB).trans h5⟩
theorem cell_two_new (w : World) (a b : Value) (t : TypeId) : ∀ j u, [a, b][j]? = some u → (w.alloc (.cells #[a, b] t)).cell? ((⟨w.heap.size, 0, none⟩ : Addr).add j) = some u := by
  intro j u hj
  have e1 : ((⟨w.heap.size, 0, none⟩ : Addr).add j) = ⟨w.heap.size, j, none⟩ := by unfold Addr.add; simp; intro h; exact h.symm
  rw [e1, cell_new_row, ← hj]; simp
theorem six_grown {W W' : World} {g r : Nat} {X : Obj} {a0 a1 a2 a3 a4 a5 : Value} (h : (W.alloc X).grownBy W' (some r)) (hg : g < W.heap.size) (hr : r ≠ g) (hw : W.cell? ⟨g, 0, none⟩ = some a0 ∧ W.cell? ⟨g, 1, none⟩ = some a1 ∧ W.cell? ⟨g, 2, none⟩ = some a2 ∧ W.cell? ⟨g, 3, none⟩ = some a3 ∧ W.cell? ⟨g, 4, none⟩ = some a4 ∧ W.cell? ⟨g, 5, none⟩ = some a5) :
    W'.cell? ⟨g, 0, none⟩ = some a0 ∧ W'.cell? ⟨g, 1, none⟩ = some a1 ∧ W'.cell? ⟨g, 2, none⟩ = some a2 ∧ W'.cell? ⟨g, 3, none⟩ = some a3 ∧ W'.cell? ⟨g, 4, none⟩ = some a4 ∧ W'.cell? ⟨g, 5, none⟩ = some a5 := by
  have e : ∀ i, W'.cell? ⟨g, i, none⟩ = W.cell? ⟨g, i, none⟩ := fun i => by
    have := h.block g (by simp; omega) (fun e => hr (by injection e with e; exact e.symm))
    rw [← cell_alloc_lt W X g i hg]
    unfold World.cell?
    rw [this]
  obtain ⟨h0, h1, h2, h3, h4, h5⟩ := hw
  exact ⟨(e _).trans h0, (e _).trans h1, (e _).trans h2, (e _).trans h3, (e _).trans h4, (e _).trans h5⟩
theorem six_grown_none {W W' : World} {g : Nat} {X : Obj} {a0 a1 a2 a3 a4 a5 : Value} (h : (W.alloc X).grownBy W' none) (hg : g < W.heap.size) (hw : W.cell? ⟨g, 0, none⟩ = some a0 ∧ W.cell? ⟨g, 1, none⟩ = some a1 ∧ W.cell? ⟨g, 2, none⟩ = some a2 ∧ W.cell? ⟨g, 3, none⟩ = some a3 ∧ W.cell? ⟨g, 4, none⟩ = some a4 ∧ W.cell? ⟨g, 5, none⟩ = some a5) :
    W'.cell? ⟨g, 0, none⟩ = some a0 ∧ W'.cell? ⟨g, 1, none⟩ = some a1 ∧ W'.cell? ⟨g, 2, none⟩ = some a2 ∧ W'.cell? ⟨g, 3, none⟩ = some a3 ∧ W'.cell? ⟨g, 4, none⟩ = some a4 ∧ W'.cell? ⟨g, 5, none⟩ = some a5 := by
  have e : ∀ i, W'.cell? ⟨g, i, none⟩ = W.cell? ⟨g, i, none⟩ := fun i => by
    have := h.block g (by simp; omega) (fun e => by cases e)
    rw [← cell_alloc_lt W X g i hg]
    unfold World.cell?
    rw [this]
  obtain ⟨h0, h1, h2, h3, h4, h5⟩ := hw
  exact ⟨(e _).trans h0, (e _).trans h1, (e _).trans h2, (e _).trans h3, (e _).trans h4, (e _).trans h5⟩
theorem kid_highs (hs sk : List Nat) (k : Nat) (hk : sk.length = k) : ((List.range k).map fun i => hs.getD (sk.getD i 0) 0) = kidHighs hs sk := by
  subst hk
  apply List.ext_getElem
  · simp [kidHighs]
  · intro i h1 h2
    simp [kidHighs] at h1 h2 ⊢
    simp [h1]
theorem VInv_step {nd : Nat → Nd} {B : Nat} {W0 W : World} {j p k : Nat} {o : List (List Nat)} {sp sk : List Nat} {v : Value} {x : Int} {h : Nat} (hkf : kidsF nd j = some (o, sp ++ sk)) (hfit : ∀ x, x < j → FitAt nd o x) (hk : (nd j).kids = sk.length) (hp : sp.length = p) (hsk : sk.length = k)
    (hx : x = (nd j).kind) (hh : h = upK ((List.range k).map fun i => (highs o).getD (sk.getD i 0) 0)) (hown : W.ownsRow B 75 2 v (p + 1) (sdRow nd (highs o) sp ++ sdCells x h)) (hP : PlainNd (nd j)) (hK : KidsOk (nd j) k (fun i => (nd (sk.getD i 0)).kind)) (hb : Below B W0 W) : VInv nd B W0 W (j + 1) v := by
  have hl := kidsF_len nd _ _ _ hkf
  rw [kid_highs _ _ _ hsk] at hh
  subst hx hh
  refine ⟨o ++ [sk], sp ++ [j], kidsF_good hkf hk rfl, ?_, ?_, hb⟩
  · have := FitAt_snoc (nd := nd) (o := o) (sk := sk) (by rw [hl.1]; exact hfit) (by rw [hl.1, hsk]; exact ⟨hP, hK⟩)
    rw [hl.1] at this
    exact this
  · rw [highs_snoc, sdRow_snoc nd (highs o) _ j sp (fun x hx => by rw [highs_length, hl.1]; exact hl.2.2 x (by simp [hx])) (by rw [highs_length]; exact hl.1), List.length_append, hp]
    exact hown
set_option maxHeartbeats 4000000 in
theorem implValid_any (b N cap : Nat) (nd : Nat → Nd) (w : World) (he : EnvB w) (hN : N ≤ 12001) (hb : b < w.heap.size) (hn : NodesAt w b N nd) (hx : ∀ i, i < N → (nd i).text.size ≤ maxLen) :
    Calls Tryz.prog 14 #[.agg #[.slice (some ⟨b, 0, none⟩) N cap]] w fun e w' => Says e (ValidT nd N) ∧ Below w.heap.size w w' := by
  have HN := hid hn
  have HX := hid hx
  have HE := hid he
  clear hn hx he
  obtain ⟨i0, hi, hz0, hz1, hz2⟩ := info_parts info_sd
  have HHI := hid (And.intro hi (And.intro hz0 (And.intro hz1 hz2)))
  clear hi hz0 hz1 hz2
  go_enter Tryz.func14, Tryz.ntmps14
  go_wp2_with (go_at_call 26; refine (millWords_any _).mono ?_; rintro e w' ⟨rfl, rfl⟩)
  go_loopw [4, 17] (fun vo i wr => ∃ j : Nat, j ≤ N ∧ i = .int .i64 j ∧ VInv nd (w.heap.size + 2) ((w.alloc (.cells #[.slice (some ⟨b, 0, none⟩) N cap] 29)).alloc (.map (mwE 35) 35)) wr j vo) (fun _ i _ => N - (intOf i).toNat)
  case atStart => exact ⟨0, Nat.zero_le _, rfl, [], [], rfl, fun x h => absurd h (Nat.not_lt_zero _), own_nil _ _, Below.refl _ _⟩
  case round =>
    obtain ⟨j, hj, rfl, o, s, hkf, hfit, hown, hbw⟩ := hrel
    have HKF := hid hkf
    have HFIT := hid hfit
    have HBW := hid hbw
    have HLEN := hid (kidsF_len nd _ _ _ hkf)
    have hsz : w.heap.size + 2 ≤ wr.heap.size := by have := hbw.size; simpa using this
    have HB0 := hid ((below_two w (.cells #[.slice (some ⟨b, 0, none⟩) N cap] 29) (.map (mwE 35) 35)).trans (hbw.mono (B' := w.heap.size) (by omega)))
    have HMAP : Hid (wr.heap[w.heap.size + 1]? = some (.map (mwE 35) 35)) := by
      have := heap_alloc_new (w.alloc (.cells #[.slice (some ⟨b, 0, none⟩) N cap] 29)) (.map (mwE 35) 35)
      rw [World.size_alloc] at this
      exact (hbw.block _ (by omega)).trans this
    clear hkf hfit hbw
    by_cases hlt : j < N
    · obtain ⟨a0, a1, a2, a3, a5, a4⟩ := (HN.out.below HB0.out hb) j hlt
      by_cases hok : 0 ≤ (nd j).kids ∧ (nd j).kids ≤ s.length
      · obtain ⟨k, hk⟩ := Int.eq_ofNat_of_zero_le hok.1
        have hks : k ≤ s.length := by omega
        clear hok
        obtain ⟨sp, sk, hs, hsk⟩ : ∃ sp sk, s = sp ++ sk ∧ sk.length = k := ⟨s.take (s.length - k), s.drop (s.length - k), (List.take_append_drop _ _).symm, by simp; omega⟩
        subst hs
        obtain ⟨p, hp⟩ : ∃ p, sp.length = p := ⟨_, rfl⟩
        have hpk : (sp ++ sk).length = p + k := by rw [List.length_append, hp, hsk]
        have HK : Hid ((nd j).kids = sk.length) := by rw [hsk]; exact hk
        have hpj : p + k ≤ j := by have := HLEN.out.2.1; omega
        have HND : Hid ((⟨(nd j).kind, (nd j).op, (nd j).ty, (nd j).n, (nd j).text, (k : Int)⟩ : Nd) = nd j) := by
          show _ = _
          rw [← hk]
        rw [hk] at a4
        rw [hpk] at hks hown
        clear hk
        rcases SdAt.of_own hown with ⟨rfl, h1, h2⟩ | ⟨g, co, rfl, hBg, hrow⟩
        · obtain rfl : k = 0 := by omega
          obtain rfl : p = 0 := by omega
          obtain rfl : sp = [] := List.length_eq_zero_iff.1 hp
          clear h2 hown
          have HST : Hid (∀ W, Below wr.heap.size wr W → StA W none 0 (fun i => (nd (sk.getD i 0)).kind) (fun i => (highs o).getD (sk.getD i 0) 0)) := fun W _ => .inl rfl
          go_wp2_with (first
            | (go_at_call 27; refine (usesFit_any ⟨(nd j).kind, (nd j).op, (nd j).ty, (nd j).n, (nd j).text, ((0 : Nat) : Int)⟩ (w.heap.size + 1) _ (HX.out j hlt) (by rw [Below.heap_alloc _ _ _ (by omega)]; exact HMAP.out)).mono ?_; rintro e w1 ⟨hs1, hb1⟩; obtain ⟨k0, k1, k2, k3, k4, k5⟩ := six_new hb1; have HB1 := hid hb1; clear hb1; rcases hs1.get with ⟨rfl, hP1⟩ | ⟨rfl, hP1⟩; all_goals (have HP1 := hid hP1; clear hP1 hs1))
            | (go_at_call 28; refine (kidsFit_any ⟨(nd j).kind, (nd j).op, (nd j).ty, (nd j).n, (nd j).text, ((0 : Nat) : Int)⟩ none 0 _ (fun i => (nd (sk.getD i 0)).kind) (fun i => (highs o).getD (sk.getD i 0) 0) _ (by omega) (fun h => HP1.out.2.2.2.2.2.2.2.2.2.2.1 h) (by omega) (by unfold maxLen; omega) (HST.out _ (((Below.refl _ _).alloc (Nat.le_refl _) _).trans (HB1.out.mono (by simp)))) (HE.out.below ((HB0.out.alloc (by omega) _).trans (HB1.out.mono (B' := w.heap.size) (by simp; omega))))).mono ?_; rintro e w2 ⟨hs2, hb2⟩; obtain ⟨q0, q1, q2, q3, q4, q5⟩ := six_new (HB1.out.trans (hb2.mono HB1.out.size)); have HB2 := hid hb2; clear hb2; rcases hs2.get with ⟨rfl, hP2⟩ | ⟨rfl, hP2⟩; all_goals (have HP2 := hid hP2; clear hP2 hs2)))
          · have HH : Hid (∀ i, i < 0 → (fun i => (highs o).getD (sk.getD i 0) 0) i ≤ 12001) := fun i _ => by have := highs_le o (sk.getD i 0); have := HLEN.out.1; show (highs o).getD (sk.getD i 0) 0 ≤ 12001; omega
            have HBX := hid ((HBW.out.alloc hsz _).trans ((HB1.out.trans (HB2.out.mono HB1.out.size)).mono (B' := w.heap.size + 2) (by simp; omega)))
            have HBR := hid (((Below.refl _ _).alloc (Nat.le_refl _) _).trans ((HB1.out.trans (HB2.out.mono HB1.out.size)).mono (B' := wr.heap.size) (by simp)))

            have hw2 : wr.heap.size < w2.heap.size := by have := HB2.out.size; have := HB1.out.size; simp at this; omega
            have hw3 : w.heap.size + 2 ≤ w2.drew.heap.size := by have := HBX.out.size; simp at this ⊢; omega
            go_region_held3 (fun w' => w'.cell? ⟨wr.heap.size, 0, none⟩ = some (.int .i64 (nd j).kind) ∧ w'.cell? ⟨wr.heap.size, 1, none⟩ = some (.int .i64 (nd j).op) ∧ w'.cell? ⟨wr.heap.size, 2, none⟩ = some (.int .i64 (nd j).ty) ∧ w'.cell? ⟨wr.heap.size, 3, none⟩ = some (.int .i64 (nd j).n) ∧ w'.cell? ⟨wr.heap.size, 4, none⟩ = some (.string (nd j).text) ∧ w'.cell? ⟨wr.heap.size, 5, none⟩ = some (.int .i64 0)) (first | (exact six_keep hb3 (by simp; omega) ⟨q0, q1, q2, q3, q4, q5⟩) | (exact S4) | go_keep) (first | (go_at_call 29; refine (highAbove_all none 0 _ _ _ _ (by omega) HH.out (HST.out _ HBR.out.drew)).mono ?_; rintro e w3 ⟨rfl, hb3⟩) | (refine step_append_own_at rfl (.tmp 51) (.tmp 57) 70 rfl (w.heap.size + 2) 75 i0 (.agg #[.int .i64 0, .int .i64 0]) 2 16 Tryz.underlying70 HHI.out.1 HHI.out.2.1 HHI.out.2.2.1 HHI.out.2.2.2 rfl (by decide) (.slice none 0 0) 0 (sdRow nd (highs o) []) (by simp [Act.eval]) (own_nil _ _) ⟨w3.heap.size, 0, none⟩ 1 1 (sdCells (nd j).kind (upK ((List.range 0).map fun i => (highs o).getD (sk.getD i 0) 0))) (by simp [Act.eval]) rfl (cell_two_new _ _ _ _) (by simp [sdCells, Value.oneCell']) (by unfold maxLen; omega) (by omega) (by have := HBR.out.size; have := hb3.size; simp at this; simp; omega) ?_; intro v4 w4 o4 g4 n4 b4; have S4 := six_grown_none g4 (Nat.lt_of_lt_of_le hw2 hb3.size) (six_keep hb3 (by simp; omega) ⟨q0, q1, q2, q3, q4, q5⟩)))
            have hb4 := ((HBX.out.drew.trans (hb3.mono hw3)).alloc (Nat.le_trans hw3 hb3.size) _).grown g4 (by rw [World.size_alloc]; exact Nat.le_succ_of_le (Nat.le_trans hw3 hb3.size)) (fun q e => by cases e)
            have NX := hid (VInv_step HKF.out HFIT.out HK.out hp hsk rfl rfl o4 (HND.out ▸ HP1.out) (HND.out ▸ HP2.out) hb4)
            clear o4 g4 n4 b4 hb3 hb4 S4
            go_wp2
            go_roundw
            case rel => exact ⟨j + 1, by omega, by go_num, NX.out⟩
            case measure => simp [intOf]; omega
          · have HF := hid (invalid_at hlt HKF.out HK.out (fun h => HP2.out (by rw [hsk] at h; rw [HND.out]; exact h.2)))
            go_ret
            exact ⟨says_f HF.out, (HB0.out.alloc (by omega) _).trans ((HB1.out.trans (HB2.out.mono HB1.out.size)).mono (B' := w.heap.size) (by simp; omega))⟩
          · have HF := hid (invalid_at hlt HKF.out HK.out (fun h => HP1.out (by rw [HND.out]; exact h.1)))
            go_ret
            exact ⟨says_f HF.out, (HB0.out.alloc (by omega) _).trans (HB1.out.mono (B' := w.heap.size) (by simp; omega))⟩
        · have HROW := hid hrow
          have hcm := hrow.2.1
          have hcx := hrow.2.2.1
          unfold maxLen at hcx
          have hgl := hrow.lt
          clear hown hrow
          by_cases hcp : co = p
          · subst hcp
            obtain rfl : k = 0 := by omega
            simp only [Nat.add_zero] at *
            have HST : Hid (∀ W, Below wr.heap.size wr W → StA W (some ⟨g, 0, none⟩) 0 (fun i => (nd (sk.getD i 0)).kind) (fun i => (highs o).getD (sk.getD i 0) 0)) := fun W _ => .inl rfl
            go_wp2_with (first
              | (go_at_call 27; refine (usesFit_any ⟨(nd j).kind, (nd j).op, (nd j).ty, (nd j).n, (nd j).text, ((0 : Nat) : Int)⟩ (w.heap.size + 1) _ (HX.out j hlt) (by rw [Below.heap_alloc _ _ _ (by omega)]; exact HMAP.out)).mono ?_; rintro e w1 ⟨hs1, hb1⟩; obtain ⟨k0, k1, k2, k3, k4, k5⟩ := six_new hb1; have HB1 := hid hb1; clear hb1; rcases hs1.get with ⟨rfl, hP1⟩ | ⟨rfl, hP1⟩; all_goals (have HP1 := hid hP1; clear hP1 hs1))
              | (go_at_call 28; refine (kidsFit_any ⟨(nd j).kind, (nd j).op, (nd j).ty, (nd j).n, (nd j).text, ((0 : Nat) : Int)⟩ (some ⟨g, 0, none⟩) 0 _ (fun i => (nd (sk.getD i 0)).kind) (fun i => (highs o).getD (sk.getD i 0) 0) _ (by omega) (fun h => HP1.out.2.2.2.2.2.2.2.2.2.2.1 h) (by omega) (by unfold maxLen; omega) (HST.out _ (((Below.refl _ _).alloc (Nat.le_refl _) _).trans (HB1.out.mono (by simp)))) (HE.out.below ((HB0.out.alloc (by omega) _).trans (HB1.out.mono (B' := w.heap.size) (by simp; omega))))).mono ?_; rintro e w2 ⟨hs2, hb2⟩; obtain ⟨q0, q1, q2, q3, q4, q5⟩ := six_new (HB1.out.trans (hb2.mono HB1.out.size)); have HB2 := hid hb2; clear hb2; rcases hs2.get with ⟨rfl, hP2⟩ | ⟨rfl, hP2⟩; all_goals (have HP2 := hid hP2; clear hP2 hs2)))
            · have HH : Hid (∀ i, i < 0 → (fun i => (highs o).getD (sk.getD i 0) 0) i ≤ 12001) := fun i _ => by have := highs_le o (sk.getD i 0); have := HLEN.out.1; show (highs o).getD (sk.getD i 0) 0 ≤ 12001; omega
              have HBX := hid ((HBW.out.alloc hsz _).trans ((HB1.out.trans (HB2.out.mono HB1.out.size)).mono (B' := w.heap.size + 2) (by simp; omega)))
              have HBR := hid (((Below.refl _ _).alloc (Nat.le_refl _) _).trans ((HB1.out.trans (HB2.out.mono HB1.out.size)).mono (B' := wr.heap.size) (by simp)))
              have HROW2 := hid ((sdRow_append nd (highs o) sp sk) ▸ HROW.out)
              have i1 : (0 : Int) ≤ (co : Int) := by omega
              have hw2 : wr.heap.size < w2.heap.size := by have := HB2.out.size; have := HB1.out.size; simp at this; omega
              have hw3 : w.heap.size + 2 ≤ w2.drew.heap.size := by have := HBX.out.size; simp at this ⊢; omega
              go_region_held3 (fun w' => w'.cell? ⟨wr.heap.size, 0, none⟩ = some (.int .i64 (nd j).kind) ∧ w'.cell? ⟨wr.heap.size, 1, none⟩ = some (.int .i64 (nd j).op) ∧ w'.cell? ⟨wr.heap.size, 2, none⟩ = some (.int .i64 (nd j).ty) ∧ w'.cell? ⟨wr.heap.size, 3, none⟩ = some (.int .i64 (nd j).n) ∧ w'.cell? ⟨wr.heap.size, 4, none⟩ = some (.string (nd j).text) ∧ w'.cell? ⟨wr.heap.size, 5, none⟩ = some (.int .i64 0)) (first | (exact six_keep hb3 (by simp; omega) ⟨q0, q1, q2, q3, q4, q5⟩) | (exact S4) | go_keep) (first | (go_at_call 29; refine (highAbove_all (some ⟨g, 0, none⟩) 0 _ _ _ _ (by omega) HH.out (HST.out _ HBR.out.drew)).mono ?_; rintro e w3 ⟨rfl, hb3⟩) | (refine step_append_own_at rfl (.tmp 51) (.tmp 57) 70 rfl (w.heap.size + 2) 75 i0 (.agg #[.int .i64 0, .int .i64 0]) 2 16 Tryz.underlying70 HHI.out.1 HHI.out.2.1 HHI.out.2.2.1 HHI.out.2.2.2 rfl (by decide) (.slice (some ⟨g, 0, none⟩) co co) co (sdRow nd (highs o) sp) (by simp [Act.eval]) (((HROW2.out.front (by rw [sdRow_length, hp])).below ((HBR.out.drew.trans (hb3.mono HBR.out.size)).alloc (by have := HBR.out.size; have := hb3.size; simp at this; omega) _)).own hBg) ⟨w3.heap.size, 0, none⟩ 1 1 (sdCells (nd j).kind (upK ((List.range 0).map fun i => (highs o).getD (sk.getD i 0) 0))) (by simp [Act.eval]) rfl (cell_two_new _ _ _ _) (by simp [sdCells, Value.oneCell']) (by unfold maxLen; omega) (by omega) (by have := HBR.out.size; have := hb3.size; simp at this; simp; omega) ?_; intro v4 w4 o4 g4 n4 b4; have S4 := six_grown (r := g) g4 (Nat.lt_of_lt_of_le hw2 hb3.size) (Nat.ne_of_lt hgl) (six_keep hb3 (by simp; omega) ⟨q0, q1, q2, q3, q4, q5⟩)))
              have hb4 := ((HBX.out.drew.trans (hb3.mono hw3)).alloc (Nat.le_trans hw3 hb3.size) _).grown g4 (by rw [World.size_alloc]; exact Nat.le_succ_of_le (Nat.le_trans hw3 hb3.size)) (fun q e => by cases e; exact hBg)
              have NX := hid (VInv_step HKF.out HFIT.out HK.out hp hsk rfl rfl o4 (HND.out ▸ HP1.out) (HND.out ▸ HP2.out) hb4)
              clear o4 g4 n4 b4 hb3 hb4 S4
              go_wp2
              go_roundw
              case rel => exact ⟨j + 1, by omega, by go_num, NX.out⟩
              case measure => simp [intOf]; omega
            · have HF := hid (invalid_at hlt HKF.out HK.out (fun h => HP2.out (by rw [hsk] at h; rw [HND.out]; exact h.2)))
              go_ret
              exact ⟨says_f HF.out, (HB0.out.alloc (by omega) _).trans ((HB1.out.trans (HB2.out.mono HB1.out.size)).mono (B' := w.heap.size) (by simp; omega))⟩
            · have HF := hid (invalid_at hlt HKF.out HK.out (fun h => HP1.out (by rw [HND.out]; exact h.1)))
              go_ret
              exact ⟨says_f HF.out, (HB0.out.alloc (by omega) _).trans (HB1.out.mono (B' := w.heap.size) (by simp; omega))⟩
          · have HST : Hid (∀ W, Below wr.heap.size wr W → StA W (some ⟨g, p * 2, none⟩) k (fun i => (nd (sk.getD i 0)).kind) (fun i => (highs o).getD (sk.getD i 0) 0)) := fun W hb => by
              have := (HROW.out.stand hp).below hb hgl
              rw [hsk] at this
              exact .inr ⟨g, p * 2, rfl, Nat.lt_of_lt_of_le hgl hb.size, this⟩
            go_wp2_with (first
              | (go_at_call 27; refine (usesFit_any ⟨(nd j).kind, (nd j).op, (nd j).ty, (nd j).n, (nd j).text, (k : Int)⟩ (w.heap.size + 1) _ (HX.out j hlt) (by rw [Below.heap_alloc _ _ _ (by omega)]; exact HMAP.out)).mono ?_; rintro e w1 ⟨hs1, hb1⟩; obtain ⟨k0, k1, k2, k3, k4, k5⟩ := six_new hb1; have HB1 := hid hb1; clear hb1; rcases hs1.get with ⟨rfl, hP1⟩ | ⟨rfl, hP1⟩; all_goals (have HP1 := hid hP1; clear hP1 hs1))
              | (go_at_call 28; refine (kidsFit_any ⟨(nd j).kind, (nd j).op, (nd j).ty, (nd j).n, (nd j).text, (k : Int)⟩ (some ⟨g, p * 2, none⟩) k _ (fun i => (nd (sk.getD i 0)).kind) (fun i => (highs o).getD (sk.getD i 0) 0) _ (by omega) (fun h => HP1.out.2.2.2.2.2.2.2.2.2.2.1 h) (by omega) (by unfold maxLen; omega) (HST.out _ (((Below.refl _ _).alloc (Nat.le_refl _) _).trans (HB1.out.mono (by simp)))) (HE.out.below ((HB0.out.alloc (by omega) _).trans (HB1.out.mono (B' := w.heap.size) (by simp; omega))))).mono ?_; rintro e w2 ⟨hs2, hb2⟩; obtain ⟨q0, q1, q2, q3, q4, q5⟩ := six_new (HB1.out.trans (hb2.mono HB1.out.size)); have HB2 := hid hb2; clear hb2; rcases hs2.get with ⟨rfl, hP2⟩ | ⟨rfl, hP2⟩; all_goals (have HP2 := hid hP2; clear hP2 hs2)))
            · have HH : Hid (∀ i, i < k → (fun i => (highs o).getD (sk.getD i 0) 0) i ≤ 12001) := fun i _ => by have := highs_le o (sk.getD i 0); have := HLEN.out.1; show (highs o).getD (sk.getD i 0) 0 ≤ 12001; omega
              have HBX := hid ((HBW.out.alloc hsz _).trans ((HB1.out.trans (HB2.out.mono HB1.out.size)).mono (B' := w.heap.size + 2) (by simp; omega)))
              have HBR := hid (((Below.refl _ _).alloc (Nat.le_refl _) _).trans ((HB1.out.trans (HB2.out.mono HB1.out.size)).mono (B' := wr.heap.size) (by simp)))
              have HROW2 := hid ((sdRow_append nd (highs o) sp sk) ▸ HROW.out)
              have i1 : (0 : Int) ≤ (p : Int) := by omega
              have i2 : (p : Int) ≤ (co : Int) := by omega
              have i3 : ¬ co = 0 := by omega
              have hw2 : wr.heap.size < w2.heap.size := by have := HB2.out.size; have := HB1.out.size; simp at this; omega
              have hw3 : w.heap.size + 2 ≤ w2.drew.heap.size := by have := HBX.out.size; simp at this ⊢; omega
              go_region_held3 (fun w' => w'.cell? ⟨wr.heap.size, 0, none⟩ = some (.int .i64 (nd j).kind) ∧ w'.cell? ⟨wr.heap.size, 1, none⟩ = some (.int .i64 (nd j).op) ∧ w'.cell? ⟨wr.heap.size, 2, none⟩ = some (.int .i64 (nd j).ty) ∧ w'.cell? ⟨wr.heap.size, 3, none⟩ = some (.int .i64 (nd j).n) ∧ w'.cell? ⟨wr.heap.size, 4, none⟩ = some (.string (nd j).text) ∧ w'.cell? ⟨wr.heap.size, 5, none⟩ = some (.int .i64 k)) (first | (exact six_keep hb3 (by simp; omega) ⟨q0, q1, q2, q3, q4, q5⟩) | (exact S4) | go_keep) (first | (go_at_call 29; refine (highAbove_all (some ⟨g, p * 2, none⟩) k _ _ _ _ (by omega) HH.out (HST.out _ HBR.out.drew)).mono ?_; rintro e w3 ⟨rfl, hb3⟩) | (refine step_append_own_at rfl (.tmp 51) (.tmp 57) 70 rfl (w.heap.size + 2) 75 i0 (.agg #[.int .i64 0, .int .i64 0]) 2 16 Tryz.underlying70 HHI.out.1 HHI.out.2.1 HHI.out.2.2.1 HHI.out.2.2.2 rfl (by decide) (.slice (some ⟨g, 0, none⟩) p co) p (sdRow nd (highs o) sp) (by simp [Act.eval]) (((HROW2.out.front (by rw [sdRow_length, hp])).below ((HBR.out.drew.trans (hb3.mono HBR.out.size)).alloc (by have := HBR.out.size; have := hb3.size; simp at this; omega) _)).own hBg) ⟨w3.heap.size, 0, none⟩ 1 1 (sdCells (nd j).kind (upK ((List.range k).map fun i => (highs o).getD (sk.getD i 0) 0))) (by simp [Act.eval]) rfl (cell_two_new _ _ _ _) (by simp [sdCells, Value.oneCell']) (by unfold maxLen; omega) (by omega) (by have := HBR.out.size; have := hb3.size; simp at this; simp; omega) ?_; intro v4 w4 o4 g4 n4 b4; have S4 := six_grown (r := g) g4 (Nat.lt_of_lt_of_le hw2 hb3.size) (Nat.ne_of_lt hgl) (six_keep hb3 (by simp; omega) ⟨q0, q1, q2, q3, q4, q5⟩)))
              have hb4 := ((HBX.out.drew.trans (hb3.mono hw3)).alloc (Nat.le_trans hw3 hb3.size) _).grown g4 (by rw [World.size_alloc]; exact Nat.le_succ_of_le (Nat.le_trans hw3 hb3.size)) (fun q e => by cases e; exact hBg)
              have NX := hid (VInv_step HKF.out HFIT.out HK.out hp hsk rfl rfl o4 (HND.out ▸ HP1.out) (HND.out ▸ HP2.out) hb4)
              clear o4 g4 n4 b4 hb3 hb4 S4
              go_wp2
              go_roundw
              case rel => exact ⟨j + 1, by omega, by go_num, NX.out⟩
              case measure => simp [intOf]; omega
            · have HF := hid (invalid_at hlt HKF.out HK.out (fun h => HP2.out (by rw [hsk] at h; rw [HND.out]; exact h.2)))
              go_ret
              exact ⟨says_f HF.out, (HB0.out.alloc (by omega) _).trans ((HB1.out.trans (HB2.out.mono HB1.out.size)).mono (B' := w.heap.size) (by simp; omega))⟩
            · have HF := hid (invalid_at hlt HKF.out HK.out (fun h => HP1.out (by rw [HND.out]; exact h.1)))
              go_ret
              exact ⟨says_f HF.out, (HB0.out.alloc (by omega) _).trans (HB1.out.mono (B' := w.heap.size) (by simp; omega))⟩
      · have HF : Hid (¬ ValidT nd N) := fun ⟨_, _, _, O, x, h4, _⟩ => by
          have := kidsF_bad HKF.out hok N hlt
          rw [this] at h4; cases h4
        rcases SdAt.of_own hown with ⟨rfl, h1, h2⟩ | ⟨g, co, rfl, hBg, hrow⟩
        · rw [h1] at hok
          clear hown h2
          by_cases hneg : (nd j).kids < 0
          · go_wp2
            go_ret
            exact ⟨says_f HF.out, HB0.out.alloc (by omega) _⟩
          · have hge : 0 ≤ (nd j).kids := by omega
            have hgt : (0 : Int) < (nd j).kids := by omega
            go_wp2
            go_ret
            exact ⟨says_f HF.out, HB0.out.alloc (by omega) _⟩
        · clear hown hrow
          by_cases hneg : (nd j).kids < 0
          · go_wp2
            go_ret
            exact ⟨says_f HF.out, HB0.out.alloc (by omega) _⟩
          · have hge : 0 ≤ (nd j).kids := by omega
            have hgt : (s.length : Int) < (nd j).kids := by omega
            have hsl : s.length ≤ 12001 := by have := HLEN.out.2.1; omega
            go_wp2
            go_ret
            exact ⟨says_f HF.out, HB0.out.alloc (by omega) _⟩
    · obtain rfl : j = N := by omega
      have HE := hid (valid_end hN HKF.out HFIT.out)
      rcases SdAt.of_own hown with ⟨rfl, h1, h2⟩ | ⟨g, co, rfl, hBg, hrow⟩
      · have HF : Hid (¬ ValidT nd j) := fun h => by have := (HE.out.1 h).1; omega
        clear hown h2
        go_wp2
        go_ret
        exact ⟨says_f HF.out, HB0.out⟩
      · have HROW := hid hrow
        have hsl : s.length ≤ 12001 := by have := HLEN.out.2.1; omega
        clear hown hrow
        by_cases hone : s.length = 1
        · obtain ⟨x, rfl⟩ := List.length_eq_one_iff.1 hone
          have hst := HROW.out.stand (sp := []) (sk := [x]) (p := 0) rfl 0 (by simp)
          have r0 : wr.cell? ⟨g, 0, none⟩ = some (.int .i64 (nd x).kind) := hst.1
          have r5 : wr.cell? ⟨g, 1, none⟩ = some (.int .i64 ((highs o).getD x 0 : Nat)) := hst.2
          have HE2 : Hid (ValidT nd j ↔ (nd x).kind = 24 ∧ (highs o).getD x 0 ≤ 60) := by
            show _ ↔ _
            rw [HE.out]
            simp
          clear hst
          generalize (highs o).getD x 0 = hx at r5 HE2
          clear HE
          by_cases c1 : (nd x).kind = 24
          · have d1 : ((nd x).kind == 24) = true := by rw [c1]; rfl
            have HT : Hid (decide ((hx : Int) ≤ 60) = true ↔ ValidT nd j) := by
              show _ ↔ _
              rw [HE2.out, decide_eq_true_iff]
              constructor
              · intro h; exact ⟨c1, by omega⟩
              · intro h; have := h.2; omega
            clear c1
            go_wp2
            go_ret
            exact ⟨⟨_, rfl, HT.out⟩, HB0.out⟩
          · have d1 : ((nd x).kind == 24) = false := by rw [beq_eq_false_iff_ne]; exact c1
            have HF := hid (fun h => c1 (HE2.out.1 h).1)
            clear c1
            go_wp2
            go_ret
            exact ⟨says_f HF.out, HB0.out⟩
        · have HF : Hid (¬ ValidT nd j) := fun h => hone (HE.out.1 h).1
          have d0 : ((s.length : Int) == 1) = false := by rw [beq_eq_false_iff_ne]; omega
          clear hone
          go_wp2
          go_ret
          exact ⟨says_f HF.out, HB0.out⟩
end Go.Proofs.YtkngjbpbjjoneaaGreatDoor.Q
