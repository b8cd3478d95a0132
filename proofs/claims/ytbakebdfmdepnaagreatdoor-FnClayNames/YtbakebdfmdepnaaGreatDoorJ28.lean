import Derived.Deep.RegionHeld3
import Derived.Test.YtbakebdfmdepnaaGreatDoorJ27
import Derived.Test.YtbakebdfmdepnaaGreatDoorJ07
import Derived.Test.YtbakebdfmdepnaaGreatDoorJ20
namespace Go.Proofs.YtbakebdfmdepnaaGreatDoor
open Go.RowKit
set_option maxRecDepth 20000
theorem info_sd : (Tryz.prog.info? 80).map (fun i => (i.zero, i.size, i.bytes)) = some (some (.agg #[.int .i64 0, .int .i64 0, .int .i64 0, .string ⟨#[]⟩, .int .i64 0, .int .i64 0]), 6, 56) := by kernel_rfl
def VInv (nd : Nat → Nd) (B : Nat) (W0 W : World) (j : Nat) (vo : Value) : Prop := ∃ o s, kidsF nd j = some (o, s) ∧ (∀ x, x < j → FitAt nd o x) ∧ W.ownsRow B 80 6 vo s.length (sdRow nd (highs o) s) ∧ Below B W0 W
theorem five_new {w w1 : World} {a0 a1 a2 a3 a4 : Value} {t : TypeId} (h : Below (w.alloc (.cells #[a0, a1, a2, a3, a4] t)).heap.size (w.alloc (.cells #[a0, a1, a2, a3, a4] t)) w1) :
  w1.cell? ⟨w.heap.size, 0, none⟩ = some a0 ∧ w1.cell? ⟨w.heap.size, 1, none⟩ = some a1 ∧ w1.cell? ⟨w.heap.size, 2, none⟩ = some a2 ∧ w1.cell? ⟨w.heap.size, 3, none⟩ = some a3 ∧ w1.cell? ⟨w.heap.size, 4, none⟩ = some a4 := by
 have f : ∀ i, w1.cell? ⟨w.heap.size, i, none⟩ = #[a0, a1, a2, a3, a4][i]? := fun i => by
  rw [h.cell (p := ⟨w.heap.size, i, none⟩) (by simp), cell_new_row]
 exact ⟨f 0, f 1, f 2, f 3, f 4⟩
theorem five_keep {W W' : World} {B g : Nat} {a0 a1 a2 a3 a4 : Value} (h : Below B W.drew W') (hB : g < B) (hw : W.cell? ⟨g, 0, none⟩ = some a0 ∧ W.cell? ⟨g, 1, none⟩ = some a1 ∧ W.cell? ⟨g, 2, none⟩ = some a2 ∧ W.cell? ⟨g, 3, none⟩ = some a3 ∧ W.cell? ⟨g, 4, none⟩ = some a4) :
  W'.cell? ⟨g, 0, none⟩ = some a0 ∧ W'.cell? ⟨g, 1, none⟩ = some a1 ∧ W'.cell? ⟨g, 2, none⟩ = some a2 ∧ W'.cell? ⟨g, 3, none⟩ = some a3 ∧ W'.cell? ⟨g, 4, none⟩ = some a4 := by
 obtain ⟨h0, h1, h2, h3, h4⟩ := hw
 exact ⟨(h.cell (p := ⟨g, _, none⟩) hB).trans h0, (h.cell (p := ⟨g, _, none⟩) hB).trans h1, (h.cell (p := ⟨g, _, none⟩) hB).trans h2, (h.cell (p := ⟨g, _, none⟩) hB).trans h3, (h.cell (p := ⟨g, _, none⟩) hB).trans h4⟩
theorem cell_six_new (w : World) (a b c d e f : Value) (t : TypeId) : ∀ j u, [a, b, c, d, e, f][j]? = some u → (w.alloc (.cells #[a, b, c, d, e, f] t)).cell? ((⟨w.heap.size, 0, none⟩ : Addr).add j) = some u := by
 intro j u hj
 have e1 : ((⟨w.heap.size, 0, none⟩ : Addr).add j) = ⟨w.heap.size, j, none⟩ := by unfold Addr.add; simp; intro h; exact h.symm
 rw [e1, cell_new_row, ← hj]; simp
theorem five_grown {W W' : World} {g r : Nat} {X : Obj} {a0 a1 a2 a3 a4 : Value} (h : (W.alloc X).grownBy W' (some r)) (hg : g < W.heap.size) (hr : r ≠ g) (hw : W.cell? ⟨g, 0, none⟩ = some a0 ∧ W.cell? ⟨g, 1, none⟩ = some a1 ∧ W.cell? ⟨g, 2, none⟩ = some a2 ∧ W.cell? ⟨g, 3, none⟩ = some a3 ∧ W.cell? ⟨g, 4, none⟩ = some a4) :
  W'.cell? ⟨g, 0, none⟩ = some a0 ∧ W'.cell? ⟨g, 1, none⟩ = some a1 ∧ W'.cell? ⟨g, 2, none⟩ = some a2 ∧ W'.cell? ⟨g, 3, none⟩ = some a3 ∧ W'.cell? ⟨g, 4, none⟩ = some a4 := by
 have e : ∀ i, W'.cell? ⟨g, i, none⟩ = W.cell? ⟨g, i, none⟩ := fun i => by
  have := h.block g (by simp; omega) (fun e => hr (by injection e with e; exact e.symm))
  rw [← cell_alloc_lt W X g i hg]
  unfold World.cell?
  rw [this]
 obtain ⟨h0, h1, h2, h3, h4⟩ := hw
 exact ⟨(e _).trans h0, (e _).trans h1, (e _).trans h2, (e _).trans h3, (e _).trans h4⟩
theorem five_grown_none {W W' : World} {g : Nat} {X : Obj} {a0 a1 a2 a3 a4 : Value} (h : (W.alloc X).grownBy W' none) (hg : g < W.heap.size) (hw : W.cell? ⟨g, 0, none⟩ = some a0 ∧ W.cell? ⟨g, 1, none⟩ = some a1 ∧ W.cell? ⟨g, 2, none⟩ = some a2 ∧ W.cell? ⟨g, 3, none⟩ = some a3 ∧ W.cell? ⟨g, 4, none⟩ = some a4) :
  W'.cell? ⟨g, 0, none⟩ = some a0 ∧ W'.cell? ⟨g, 1, none⟩ = some a1 ∧ W'.cell? ⟨g, 2, none⟩ = some a2 ∧ W'.cell? ⟨g, 3, none⟩ = some a3 ∧ W'.cell? ⟨g, 4, none⟩ = some a4 := by
 have e : ∀ i, W'.cell? ⟨g, i, none⟩ = W.cell? ⟨g, i, none⟩ := fun i => by
  have := h.block g (by simp; omega) (fun e => by cases e)
  rw [← cell_alloc_lt W X g i hg]
  unfold World.cell?
  rw [this]
 obtain ⟨h0, h1, h2, h3, h4⟩ := hw
 exact ⟨(e _).trans h0, (e _).trans h1, (e _).trans h2, (e _).trans h3, (e _).trans h4⟩
theorem kid_highs (hs sk : List Nat) (k : Nat) (hk : sk.length = k) : ((List.range k).map fun i => hs.getD (sk.getD i 0) 0) = kidHighs hs sk := by
 subst hk
 apply List.ext_getElem
 ·simp [kidHighs]
 ·intro i h1 h2
  simp [kidHighs] at h1 h2 ⊢
  simp [h1]
theorem VInv_step {nd : Nat → Nd} {B : Nat} {W0 W : World} {j p k : Nat} {o : List (List Nat)} {sp sk : List Nat} {v : Value} {x : Nd} {h : Nat} (hkf : kidsF nd j = some (o, sp ++ sk)) (hfit : ∀ x, x < j → FitAt nd o x) (hk : (nd j).kids = sk.length) (hp : sp.length = p) (hsk : sk.length = k)
  (hx : x = nd j) (hh : h = upK ((List.range k).map fun i => (highs o).getD (sk.getD i 0) 0)) (hown : W.ownsRow B 80 6 v (p + 1) (sdRow nd (highs o) sp ++ sdCells x h)) (hP : PlainNd (nd j)) (hK : KidsOk (nd j).kind k (fun i => nd (sk.getD i 0))) (hb : Below B W0 W) : VInv nd B W0 W (j + 1) v := by
 have hl := kidsF_len nd _ _ _ hkf
 rw [kid_highs _ _ _ hsk] at hh
 subst hx hh
 refine ⟨o ++ [sk], sp ++ [j], kidsF_good hkf hk rfl, ?_, ?_, hb⟩
 ·have := FitAt_snoc (nd := nd) (o := o) (sk := sk) (by rw [hl.1]; exact hfit) (by rw [hl.1, hsk]; exact ⟨hP, hK⟩)
  rw [hl.1] at this
  exact this
 ·rw [highs_snoc, sdRow_snoc nd (highs o) _ j sp (fun x hx => by rw [highs_length, hl.1]; exact hl.2.2 x (by simp [hx])) (by rw [highs_length]; exact hl.1), List.length_append, hp]
  exact hown
set_option maxHeartbeats 4000000 in
theorem implValid_any (b N cap : Nat) (nd : Nat → Nd) (w : World) (hN : N ≤ 5000) (hb : b < w.heap.size) (hn : NodesAt w b N nd) (hx : ∀ i, i < N → (nd i).text.size ≤ maxLen) :
  Calls Tryz.prog 19 #[.agg #[.slice (some ⟨b, 0, none⟩) N cap]] w fun e w' => Says e (ValidT nd N) ∧ Below w.heap.size w w' := by
 have HN := hid hn
 have HX := hid hx
 clear hn hx
 obtain ⟨i0, hi, hz0, hz1, hz2⟩ := info_parts info_sd
 have HHI := hid (And.intro hi (And.intro hz0 (And.intro hz1 hz2)))
 clear hi hz0 hz1 hz2
 go_enter Tryz.func19, Tryz.ntmps19
 go_wp2_with (go_at_call 35; refine (clayWords_any _).mono ?_; rintro e w' ⟨rfl, rfl⟩)
 go_loopw [4, 17] (fun vo i wr => ∃ j : Nat, j ≤ N ∧ i = .int .i64 j ∧ VInv nd (w.heap.size + 2) ((w.alloc (.cells #[.slice (some ⟨b, 0, none⟩) N cap] 25)).alloc (.map (wordE 17) 17)) wr j vo) (fun _ i _ => N - (intOf i).toNat)
 case atStart => exact ⟨0, Nat.zero_le _, rfl, [], [], rfl, fun x h => absurd h (Nat.not_lt_zero _), own_nil _ _, Below.refl _ _⟩
 case round =>
  obtain ⟨j, hj, rfl, o, s, hkf, hfit, hown, hbw⟩ := hrel
  have HKF := hid hkf
  have HFIT := hid hfit
  have HBW := hid hbw
  have HLEN := hid (kidsF_len nd _ _ _ hkf)
  have hsz : w.heap.size + 2 ≤ wr.heap.size := by have := hbw.size; simpa using this
  have HB0 := hid ((below_two w (.cells #[.slice (some ⟨b, 0, none⟩) N cap] 25) (.map (wordE 17) 17)).trans (hbw.mono (B' := w.heap.size) (by omega)))
  have HMAP : Hid (wr.heap[w.heap.size + 1]? = some (.map (wordE 17) 17)) := by
   have := heap_alloc_new (w.alloc (.cells #[.slice (some ⟨b, 0, none⟩) N cap] 25)) (.map (wordE 17) 17)
   rw [World.size_alloc] at this
   exact (hbw.block _ (by omega)).trans this
  clear hkf hfit hbw
  by_cases hlt : j < N
  ·obtain ⟨a0, a1, a2, a3, a4⟩ := (HN.out.below HB0.out hb) j hlt
   by_cases hok : 0 ≤ (nd j).kids ∧ (nd j).kids ≤ s.length
   ·obtain ⟨k, hk⟩ := Int.eq_ofNat_of_zero_le hok.1
    have hks : k ≤ s.length := by omega
    clear hok
    obtain ⟨sp, sk, hs, hsk⟩ : ∃ sp sk, s = sp ++ sk ∧ sk.length = k := ⟨s.take (s.length - k), s.drop (s.length - k), (List.take_append_drop _ _).symm, by simp; omega⟩
    subst hs
    obtain ⟨p, hp⟩ : ∃ p, sp.length = p := ⟨_, rfl⟩
    have hpk : (sp ++ sk).length = p + k := by rw [List.length_append, hp, hsk]
    have HK : Hid ((nd j).kids = sk.length) := by rw [hsk]; exact hk
    have hpj : p + k ≤ j := by have := HLEN.out.2.1; omega
    have HND : Hid ((⟨(nd j).kind, (nd j).op, (nd j).n, (nd j).text, (k : Int)⟩ : Nd) = nd j) := by
     show _ = _
     rw [← hk]
    rw [hk] at a4
    rw [hpk] at hks hown
    clear hk
    rcases SdAt.of_own hown with ⟨rfl, h1, h2⟩ | ⟨g, co, rfl, hBg, hrow⟩
    ·obtain rfl : k = 0 := by omega
     obtain rfl : p = 0 := by omega
     obtain rfl : sp = [] := List.length_eq_zero_iff.1 hp
     clear h2 hown
     have HST : Hid (∀ W, Below wr.heap.size wr W → StA W none 0 (fun i => nd (sk.getD i 0)) (fun i => (highs o).getD (sk.getD i 0) 0)) := fun W _ => .inl rfl
     have HXK : Hid (∀ i, i < 0 → (nd (sk.getD i 0)).text.size ≤ maxLen) := fun i hi => HX.out _ (by
      have : sk.getD i 0 ∈ [] ++ sk := by
       rw [List.getD_eq_getElem?_getD, List.getElem?_eq_getElem (by omega)]
       simp
      have := HLEN.out.2.2 _ this
      omega)
     go_wp2_with (first
      | (go_at_call 36; refine (usesFit_any ⟨(nd j).kind, (nd j).op, (nd j).n, (nd j).text, ((0 : Nat) : Int)⟩ (w.heap.size + 1) _ (HX.out j hlt) (by rw [Below.heap_alloc _ _ _ (by omega)]; exact HMAP.out)).mono ?_; rintro e w1 ⟨hs1, hb1⟩; obtain ⟨k0, k1, k2, k3, k4⟩ := five_new hb1; have HB1 := hid hb1; clear hb1; rcases hs1.get with ⟨rfl, hP1⟩ | ⟨rfl, hP1⟩; all_goals (have HP1 := hid hP1; clear hP1 hs1))
      | (go_at_call 37; refine (kidsFit_any _ none 0 _ (fun i => nd (sk.getD i 0)) (fun i => (highs o).getD (sk.getD i 0) 0) _ (by omega) HXK.out (by omega) (by unfold maxLen; omega) (HST.out _ (((Below.refl _ _).alloc (Nat.le_refl _) _).trans (HB1.out.mono (by simp))))).mono ?_; rintro e w2 ⟨hs2, hb2⟩; obtain ⟨q0, q1, q2, q3, q4⟩ := five_new (HB1.out.trans (hb2.mono HB1.out.size)); have HB2 := hid hb2; clear hb2; rcases hs2.get with ⟨rfl, hP2⟩ | ⟨rfl, hP2⟩; all_goals (have HP2 := hid hP2; clear hP2 hs2)))
     ·have HH : Hid (∀ i, i < 0 → (fun i => (highs o).getD (sk.getD i 0) 0) i ≤ 5000) := fun i _ => by have := highs_le o (sk.getD i 0); have := HLEN.out.1; show (highs o).getD (sk.getD i 0) 0 ≤ 5000; omega
      have HBX := hid ((HBW.out.alloc hsz _).trans ((HB1.out.trans (HB2.out.mono HB1.out.size)).mono (B' := w.heap.size + 2) (by simp; omega)))
      have HBR := hid (((Below.refl _ _).alloc (Nat.le_refl _) _).trans ((HB1.out.trans (HB2.out.mono HB1.out.size)).mono (B' := wr.heap.size) (by simp)))
      have hw2 : wr.heap.size < w2.heap.size := by have := HB2.out.size; have := HB1.out.size; simp at this; omega
      have hw3 : w.heap.size + 2 ≤ w2.drew.heap.size := by have := HBX.out.size; simp at this ⊢; omega
      go_region_held3 (fun w' => w'.cell? ⟨wr.heap.size, 0, none⟩ = some (.int .i64 (nd j).kind) ∧ w'.cell? ⟨wr.heap.size, 1, none⟩ = some (.int .i64 (nd j).op) ∧ w'.cell? ⟨wr.heap.size, 2, none⟩ = some (.int .i64 (nd j).n) ∧ w'.cell? ⟨wr.heap.size, 3, none⟩ = some (.string (nd j).text) ∧ w'.cell? ⟨wr.heap.size, 4, none⟩ = some (.int .i64 0)) (first | (exact five_keep hb3 (by simp; omega) ⟨q0, q1, q2, q3, q4⟩) | (exact S4) | go_keep) (first | (go_at_call 38; refine (highAbove_all none 0 _ _ _ _ (by omega) HH.out (HST.out _ HBR.out.drew)).mono ?_; rintro e w3 ⟨rfl, hb3⟩) | (refine step_append_own_at rfl (.tmp 52) (.tmp 57) 75 rfl (w.heap.size + 2) 80 i0 (.agg #[.int .i64 0, .int .i64 0, .int .i64 0, .string ⟨#[]⟩, .int .i64 0, .int .i64 0]) 6 56 Tryz.underlying75 HHI.out.1 HHI.out.2.1 HHI.out.2.2.1 HHI.out.2.2.2 rfl (by decide) (.slice none 0 0) 0 (sdRow nd (highs o) []) (by simp [Act.eval]) (own_nil _ _) ⟨w3.heap.size, 0, none⟩ 1 1 (sdCells ⟨(nd j).kind, (nd j).op, (nd j).n, (nd j).text, ((0 : Nat) : Int)⟩ (upK ((List.range 0).map fun i => (highs o).getD (sk.getD i 0) 0))) (by simp [Act.eval]) rfl (cell_six_new _ _ _ _ _ _ _ _) (by simp [sdCells, Value.oneCell']) (by unfold maxLen; omega) (by omega) (by have := HBR.out.size; have := hb3.size; simp at this; simp; omega) ?_; intro v4 w4 o4 g4 n4 b4; have S4 := five_grown_none g4 (Nat.lt_of_lt_of_le hw2 hb3.size) (five_keep hb3 (by simp; omega) ⟨q0, q1, q2, q3, q4⟩)))
      have hb4 := ((HBX.out.drew.trans (hb3.mono hw3)).alloc (Nat.le_trans hw3 hb3.size) _).grown g4 (by rw [World.size_alloc]; exact Nat.le_succ_of_le (Nat.le_trans hw3 hb3.size)) (fun q e => by cases e)
      have NX := hid (VInv_step HKF.out HFIT.out HK.out hp hsk HND.out rfl o4 (HND.out ▸ HP1.out.1) HP2.out hb4)
      clear o4 g4 n4 b4 hb3 hb4 S4
      go_wp2
      go_roundw
      case rel => exact ⟨j + 1, by omega, by go_num, NX.out⟩
      case measure => simp [intOf]; omega
     ·have HF := hid (invalid_at hlt HKF.out HK.out (fun h => HP2.out (by rw [hsk] at h; exact h.2)))
      go_ret
      exact ⟨says_f HF.out, (HB0.out.alloc (by omega) _).trans ((HB1.out.trans (HB2.out.mono HB1.out.size)).mono (B' := w.heap.size) (by simp; omega))⟩
     ·have HF := hid (invalid_at hlt HKF.out HK.out (fun h => HP1.out (by
       rw [HND.out]
       refine ⟨h.1, ?_⟩
       by_cases hr : 1 ≤ (nd j).kind ∧ (nd j).kind ≤ 24
       ·exact hr
       ·exact absurd h.2 ((KF_end _ _ _).2.2.2.2.2 (by omega)))))
      go_ret
      exact ⟨says_f HF.out, (HB0.out.alloc (by omega) _).trans (HB1.out.mono (B' := w.heap.size) (by simp; omega))⟩
    ·have HROW := hid hrow
     have hcm := hrow.2.1
     have hcx := hrow.2.2.1
     unfold maxLen at hcx
     have hgl := hrow.lt
     clear hown hrow
     by_cases hcp : co = p
     ·subst hcp
      obtain rfl : k = 0 := by omega
      simp only [Nat.add_zero] at *
      have HST : Hid (∀ W, Below wr.heap.size wr W → StA W (some ⟨g, 0, none⟩) 0 (fun i => nd (sk.getD i 0)) (fun i => (highs o).getD (sk.getD i 0) 0)) := fun W _ => .inl rfl
      have HXK : Hid (∀ i, i < 0 → (nd (sk.getD i 0)).text.size ≤ maxLen) := fun i hi => HX.out _ (by
       have : sk.getD i 0 ∈ sp ++ sk := by
        rw [List.getD_eq_getElem?_getD, List.getElem?_eq_getElem (by omega)]
        simp
       have := HLEN.out.2.2 _ this
       omega)
      go_wp2_with (first
       | (go_at_call 36; refine (usesFit_any ⟨(nd j).kind, (nd j).op, (nd j).n, (nd j).text, ((0 : Nat) : Int)⟩ (w.heap.size + 1) _ (HX.out j hlt) (by rw [Below.heap_alloc _ _ _ (by omega)]; exact HMAP.out)).mono ?_; rintro e w1 ⟨hs1, hb1⟩; obtain ⟨k0, k1, k2, k3, k4⟩ := five_new hb1; have HB1 := hid hb1; clear hb1; rcases hs1.get with ⟨rfl, hP1⟩ | ⟨rfl, hP1⟩; all_goals (have HP1 := hid hP1; clear hP1 hs1))
       | (go_at_call 37; refine (kidsFit_any _ (some ⟨g, 0, none⟩) 0 _ (fun i => nd (sk.getD i 0)) (fun i => (highs o).getD (sk.getD i 0) 0) _ (by omega) HXK.out (by omega) (by unfold maxLen; omega) (HST.out _ (((Below.refl _ _).alloc (Nat.le_refl _) _).trans (HB1.out.mono (by simp))))).mono ?_; rintro e w2 ⟨hs2, hb2⟩; obtain ⟨q0, q1, q2, q3, q4⟩ := five_new (HB1.out.trans (hb2.mono HB1.out.size)); have HB2 := hid hb2; clear hb2; rcases hs2.get with ⟨rfl, hP2⟩ | ⟨rfl, hP2⟩; all_goals (have HP2 := hid hP2; clear hP2 hs2)))
      ·have HH : Hid (∀ i, i < 0 → (fun i => (highs o).getD (sk.getD i 0) 0) i ≤ 5000) := fun i _ => by have := highs_le o (sk.getD i 0); have := HLEN.out.1; show (highs o).getD (sk.getD i 0) 0 ≤ 5000; omega
       have HBX := hid ((HBW.out.alloc hsz _).trans ((HB1.out.trans (HB2.out.mono HB1.out.size)).mono (B' := w.heap.size + 2) (by simp; omega)))
       have HBR := hid (((Below.refl _ _).alloc (Nat.le_refl _) _).trans ((HB1.out.trans (HB2.out.mono HB1.out.size)).mono (B' := wr.heap.size) (by simp)))
       have HROW2 := hid ((sdRow_append nd (highs o) sp sk) ▸ HROW.out)
       have i1 : (0 : Int) ≤ (co : Int) := by omega
       have hw2 : wr.heap.size < w2.heap.size := by have := HB2.out.size; have := HB1.out.size; simp at this; omega
       have hw3 : w.heap.size + 2 ≤ w2.drew.heap.size := by have := HBX.out.size; simp at this ⊢; omega
       go_region_held3 (fun w' => w'.cell? ⟨wr.heap.size, 0, none⟩ = some (.int .i64 (nd j).kind) ∧ w'.cell? ⟨wr.heap.size, 1, none⟩ = some (.int .i64 (nd j).op) ∧ w'.cell? ⟨wr.heap.size, 2, none⟩ = some (.int .i64 (nd j).n) ∧ w'.cell? ⟨wr.heap.size, 3, none⟩ = some (.string (nd j).text) ∧ w'.cell? ⟨wr.heap.size, 4, none⟩ = some (.int .i64 0)) (first | (exact five_keep hb3 (by simp; omega) ⟨q0, q1, q2, q3, q4⟩) | (exact S4) | go_keep) (first | (go_at_call 38; refine (highAbove_all (some ⟨g, 0, none⟩) 0 _ _ _ _ (by omega) HH.out (HST.out _ HBR.out.drew)).mono ?_; rintro e w3 ⟨rfl, hb3⟩) | (refine step_append_own_at rfl (.tmp 52) (.tmp 57) 75 rfl (w.heap.size + 2) 80 i0 (.agg #[.int .i64 0, .int .i64 0, .int .i64 0, .string ⟨#[]⟩, .int .i64 0, .int .i64 0]) 6 56 Tryz.underlying75 HHI.out.1 HHI.out.2.1 HHI.out.2.2.1 HHI.out.2.2.2 rfl (by decide) (.slice (some ⟨g, 0, none⟩) co co) co (sdRow nd (highs o) sp) (by simp [Act.eval]) (((HROW2.out.front (by rw [sdRow_length, hp])).below ((HBR.out.drew.trans (hb3.mono HBR.out.size)).alloc (by have := HBR.out.size; have := hb3.size; simp at this; omega) _)).own hBg) ⟨w3.heap.size, 0, none⟩ 1 1 (sdCells ⟨(nd j).kind, (nd j).op, (nd j).n, (nd j).text, ((0 : Nat) : Int)⟩ (upK ((List.range 0).map fun i => (highs o).getD (sk.getD i 0) 0))) (by simp [Act.eval]) rfl (cell_six_new _ _ _ _ _ _ _ _) (by simp [sdCells, Value.oneCell']) (by unfold maxLen; omega) (by omega) (by have := HBR.out.size; have := hb3.size; simp at this; simp; omega) ?_; intro v4 w4 o4 g4 n4 b4; have S4 := five_grown (r := g) g4 (Nat.lt_of_lt_of_le hw2 hb3.size) (Nat.ne_of_lt hgl) (five_keep hb3 (by simp; omega) ⟨q0, q1, q2, q3, q4⟩)))
       have hb4 := ((HBX.out.drew.trans (hb3.mono hw3)).alloc (Nat.le_trans hw3 hb3.size) _).grown g4 (by rw [World.size_alloc]; exact Nat.le_succ_of_le (Nat.le_trans hw3 hb3.size)) (fun q e => by cases e; exact hBg)
       have NX := hid (VInv_step HKF.out HFIT.out HK.out hp hsk HND.out rfl o4 (HND.out ▸ HP1.out.1) HP2.out hb4)
       clear o4 g4 n4 b4 hb3 hb4 S4
       go_wp2
       go_roundw
       case rel => exact ⟨j + 1, by omega, by go_num, NX.out⟩
       case measure => simp [intOf]; omega
      ·have HF := hid (invalid_at hlt HKF.out HK.out (fun h => HP2.out (by rw [hsk] at h; exact h.2)))
       go_ret
       exact ⟨says_f HF.out, (HB0.out.alloc (by omega) _).trans ((HB1.out.trans (HB2.out.mono HB1.out.size)).mono (B' := w.heap.size) (by simp; omega))⟩
      ·have HF := hid (invalid_at hlt HKF.out HK.out (fun h => HP1.out (by
        rw [HND.out]
        refine ⟨h.1, ?_⟩
        by_cases hr : 1 ≤ (nd j).kind ∧ (nd j).kind ≤ 24
        ·exact hr
        ·exact absurd h.2 ((KF_end _ _ _).2.2.2.2.2 (by omega)))))
       go_ret
       exact ⟨says_f HF.out, (HB0.out.alloc (by omega) _).trans (HB1.out.mono (B' := w.heap.size) (by simp; omega))⟩
     ·have HST : Hid (∀ W, Below wr.heap.size wr W → StA W (some ⟨g, p * 6, none⟩) k (fun i => nd (sk.getD i 0)) (fun i => (highs o).getD (sk.getD i 0) 0)) := fun W hb => by
       have := (HROW.out.stand hp).below hb hgl
       rw [hsk] at this
       exact .inr ⟨g, p * 6, rfl, Nat.lt_of_lt_of_le hgl hb.size, this⟩
      have HXK : Hid (∀ i, i < k → (nd (sk.getD i 0)).text.size ≤ maxLen) := fun i hi => HX.out _ (by
       have : sk.getD i 0 ∈ sp ++ sk := by
        rw [List.getD_eq_getElem?_getD, List.getElem?_eq_getElem (by omega)]
        simp
       have := HLEN.out.2.2 _ this
       omega)
      go_wp2_with (first
       | (go_at_call 36; refine (usesFit_any ⟨(nd j).kind, (nd j).op, (nd j).n, (nd j).text, (k : Int)⟩ (w.heap.size + 1) _ (HX.out j hlt) (by rw [Below.heap_alloc _ _ _ (by omega)]; exact HMAP.out)).mono ?_; rintro e w1 ⟨hs1, hb1⟩; obtain ⟨k0, k1, k2, k3, k4⟩ := five_new hb1; have HB1 := hid hb1; clear hb1; rcases hs1.get with ⟨rfl, hP1⟩ | ⟨rfl, hP1⟩; all_goals (have HP1 := hid hP1; clear hP1 hs1))
       | (go_at_call 37; refine (kidsFit_any _ (some ⟨g, p * 6, none⟩) k _ (fun i => nd (sk.getD i 0)) (fun i => (highs o).getD (sk.getD i 0) 0) _ (by omega) HXK.out (by omega) (by unfold maxLen; omega) (HST.out _ (((Below.refl _ _).alloc (Nat.le_refl _) _).trans (HB1.out.mono (by simp))))).mono ?_; rintro e w2 ⟨hs2, hb2⟩; obtain ⟨q0, q1, q2, q3, q4⟩ := five_new (HB1.out.trans (hb2.mono HB1.out.size)); have HB2 := hid hb2; clear hb2; rcases hs2.get with ⟨rfl, hP2⟩ | ⟨rfl, hP2⟩; all_goals (have HP2 := hid hP2; clear hP2 hs2)))
      ·have HH : Hid (∀ i, i < k → (fun i => (highs o).getD (sk.getD i 0) 0) i ≤ 5000) := fun i _ => by have := highs_le o (sk.getD i 0); have := HLEN.out.1; show (highs o).getD (sk.getD i 0) 0 ≤ 5000; omega
       have HBX := hid ((HBW.out.alloc hsz _).trans ((HB1.out.trans (HB2.out.mono HB1.out.size)).mono (B' := w.heap.size + 2) (by simp; omega)))
       have HBR := hid (((Below.refl _ _).alloc (Nat.le_refl _) _).trans ((HB1.out.trans (HB2.out.mono HB1.out.size)).mono (B' := wr.heap.size) (by simp)))
       have HROW2 := hid ((sdRow_append nd (highs o) sp sk) ▸ HROW.out)
       have i1 : (0 : Int) ≤ (p : Int) := by omega
       have i2 : (p : Int) ≤ (co : Int) := by omega
       have i3 : ¬ co = 0 := by omega
       have hw2 : wr.heap.size < w2.heap.size := by have := HB2.out.size; have := HB1.out.size; simp at this; omega
       have hw3 : w.heap.size + 2 ≤ w2.drew.heap.size := by have := HBX.out.size; simp at this ⊢; omega
       go_region_held3 (fun w' => w'.cell? ⟨wr.heap.size, 0, none⟩ = some (.int .i64 (nd j).kind) ∧ w'.cell? ⟨wr.heap.size, 1, none⟩ = some (.int .i64 (nd j).op) ∧ w'.cell? ⟨wr.heap.size, 2, none⟩ = some (.int .i64 (nd j).n) ∧ w'.cell? ⟨wr.heap.size, 3, none⟩ = some (.string (nd j).text) ∧ w'.cell? ⟨wr.heap.size, 4, none⟩ = some (.int .i64 k)) (first | (exact five_keep hb3 (by simp; omega) ⟨q0, q1, q2, q3, q4⟩) | (exact S4) | go_keep) (first | (go_at_call 38; refine (highAbove_all (some ⟨g, p * 6, none⟩) k _ _ _ _ (by omega) HH.out (HST.out _ HBR.out.drew)).mono ?_; rintro e w3 ⟨rfl, hb3⟩) | (refine step_append_own_at rfl (.tmp 52) (.tmp 57) 75 rfl (w.heap.size + 2) 80 i0 (.agg #[.int .i64 0, .int .i64 0, .int .i64 0, .string ⟨#[]⟩, .int .i64 0, .int .i64 0]) 6 56 Tryz.underlying75 HHI.out.1 HHI.out.2.1 HHI.out.2.2.1 HHI.out.2.2.2 rfl (by decide) (.slice (some ⟨g, 0, none⟩) p co) p (sdRow nd (highs o) sp) (by simp [Act.eval]) (((HROW2.out.front (by rw [sdRow_length, hp])).below ((HBR.out.drew.trans (hb3.mono HBR.out.size)).alloc (by have := HBR.out.size; have := hb3.size; simp at this; omega) _)).own hBg) ⟨w3.heap.size, 0, none⟩ 1 1 (sdCells ⟨(nd j).kind, (nd j).op, (nd j).n, (nd j).text, (k : Int)⟩ (upK ((List.range k).map fun i => (highs o).getD (sk.getD i 0) 0))) (by simp [Act.eval]) rfl (cell_six_new _ _ _ _ _ _ _ _) (by simp [sdCells, Value.oneCell']) (by unfold maxLen; omega) (by omega) (by have := HBR.out.size; have := hb3.size; simp at this; simp; omega) ?_; intro v4 w4 o4 g4 n4 b4; have S4 := five_grown (r := g) g4 (Nat.lt_of_lt_of_le hw2 hb3.size) (Nat.ne_of_lt hgl) (five_keep hb3 (by simp; omega) ⟨q0, q1, q2, q3, q4⟩)))
       have hb4 := ((HBX.out.drew.trans (hb3.mono hw3)).alloc (Nat.le_trans hw3 hb3.size) _).grown g4 (by rw [World.size_alloc]; exact Nat.le_succ_of_le (Nat.le_trans hw3 hb3.size)) (fun q e => by cases e; exact hBg)
       have NX := hid (VInv_step HKF.out HFIT.out HK.out hp hsk HND.out rfl o4 (HND.out ▸ HP1.out.1) HP2.out hb4)
       clear o4 g4 n4 b4 hb3 hb4 S4
       go_wp2
       go_roundw
       case rel => exact ⟨j + 1, by omega, by go_num, NX.out⟩
       case measure => simp [intOf]; omega
      ·have HF := hid (invalid_at hlt HKF.out HK.out (fun h => HP2.out (by rw [hsk] at h; exact h.2)))
       go_ret
       exact ⟨says_f HF.out, (HB0.out.alloc (by omega) _).trans ((HB1.out.trans (HB2.out.mono HB1.out.size)).mono (B' := w.heap.size) (by simp; omega))⟩
      ·have HF := hid (invalid_at hlt HKF.out HK.out (fun h => HP1.out (by
        rw [HND.out]
        refine ⟨h.1, ?_⟩
        by_cases hr : 1 ≤ (nd j).kind ∧ (nd j).kind ≤ 24
        ·exact hr
        ·exact absurd h.2 ((KF_end _ _ _).2.2.2.2.2 (by omega)))))
       go_ret
       exact ⟨says_f HF.out, (HB0.out.alloc (by omega) _).trans (HB1.out.mono (B' := w.heap.size) (by simp; omega))⟩
   ·have HF : Hid (¬ ValidT nd N) := fun ⟨_, _, _, O, x, h4, _⟩ => by
     have := kidsF_bad HKF.out hok N hlt
     rw [this] at h4; cases h4
    rcases SdAt.of_own hown with ⟨rfl, h1, h2⟩ | ⟨g, co, rfl, hBg, hrow⟩
    ·rw [h1] at hok
     clear hown h2
     by_cases hneg : (nd j).kids < 0
     ·go_wp2
      go_ret
      exact ⟨says_f HF.out, HB0.out.alloc (by omega) _⟩
     ·have hge : 0 ≤ (nd j).kids := by omega
      have hgt : (0 : Int) < (nd j).kids := by omega
      go_wp2
      go_ret
      exact ⟨says_f HF.out, HB0.out.alloc (by omega) _⟩
    ·clear hown hrow
     by_cases hneg : (nd j).kids < 0
     ·go_wp2
      go_ret
      exact ⟨says_f HF.out, HB0.out.alloc (by omega) _⟩
     ·have hge : 0 ≤ (nd j).kids := by omega
      have hgt : (s.length : Int) < (nd j).kids := by omega
      have hsl : s.length ≤ 5000 := by have := HLEN.out.2.1; omega
      go_wp2
      go_ret
      exact ⟨says_f HF.out, HB0.out.alloc (by omega) _⟩
  ·obtain rfl : j = N := by omega
   have HE := hid (valid_end hN HKF.out HFIT.out)
   rcases SdAt.of_own hown with ⟨rfl, h1, h2⟩ | ⟨g, co, rfl, hBg, hrow⟩
   ·have HF : Hid (¬ ValidT nd j) := fun h => by have := (HE.out.1 h).1; omega
    clear hown h2
    go_wp2
    go_ret
    exact ⟨says_f HF.out, HB0.out⟩
   ·have HROW := hid hrow
    have hsl : s.length ≤ 5000 := by have := HLEN.out.2.1; omega
    clear hown hrow
    by_cases hone : s.length = 1
    ·obtain ⟨x, rfl⟩ := List.length_eq_one_iff.1 hone
     have hst := HROW.out.stand (sp := []) (sk := [x]) (p := 0) rfl 0 (by simp)
     have r0 : wr.cell? ⟨g, 0, none⟩ = some (.int .i64 (nd x).kind) := hst.1
     have r5 : wr.cell? ⟨g, 5, none⟩ = some (.int .i64 ((highs o).getD x 0 : Nat)) := hst.2.2.2.2.2
     have HE2 : Hid (ValidT nd j ↔ (nd x).kind = 24 ∧ (highs o).getD x 0 ≤ 50) := by
      show _ ↔ _
      rw [HE.out]
      simp
     clear hst
     generalize (highs o).getD x 0 = hx at r5 HE2
     clear HE
     by_cases c1 : (nd x).kind = 24
     ·have d1 : ((nd x).kind == 24) = true := by rw [c1]; rfl
      have HT : Hid (decide ((hx : Int) ≤ 50) = true ↔ ValidT nd j) := by
       show _ ↔ _
       rw [HE2.out, decide_eq_true_iff]
       constructor
       ·intro h; exact ⟨c1, by omega⟩
       ·intro h; have := h.2; omega
      clear c1
      go_wp2
      go_ret
      exact ⟨⟨_, rfl, HT.out⟩, HB0.out⟩
     ·have d1 : ((nd x).kind == 24) = false := by rw [beq_eq_false_iff_ne]; exact c1
      have HF := hid (fun h => c1 (HE2.out.1 h).1)
      clear c1
      go_wp2
      go_ret
      exact ⟨says_f HF.out, HB0.out⟩
    ·have HF : Hid (¬ ValidT nd j) := fun h => hone (HE.out.1 h).1
     have d0 : ((s.length : Int) == 1) = false := by rw [beq_eq_false_iff_ne]; omega
     clear hone
     go_wp2
     go_ret
     exact ⟨says_f HF.out, HB0.out⟩
def builts2 : List (List UInt8) := [[98, 101, 103, 105, 110, 115], [99, 117, 116], [102, 97, 105, 108], [102, 105, 108, 101, 115], [105, 110, 116], [106, 111, 105, 110], [107, 101, 121, 115], [108, 101, 110], [114, 97, 110, 103, 101], [114, 101, 99, 111, 114, 100], [115, 111, 114, 116, 101, 100], [115, 112, 108, 105, 116], [116, 101, 120, 116], [117, 110, 105, 113, 117, 101], [119, 105, 116, 104, 111, 117, 116]]
theorem builts_both : (∀ l ∈ builts, l ∈ builts2) ∧ (∀ l ∈ builts2, l ∈ builts) := by decide
def built2S (i : Nat) : ByteArray := ⟨(builts2.getD i []).toArray⟩
theorem mem_builts2 (t : ByteArray) : isBuilt t = true ↔ ∃ i, i < 15 ∧ built2S i = t := by
 unfold isBuilt
 rw [decide_eq_true_iff]
 constructor
 ·intro h
  obtain ⟨i, hl, e⟩ := List.getElem_of_mem (builts_both.1 _ h)
  exact ⟨i, hl, by simp [built2S, hl, e]⟩
 ·rintro ⟨i, h, rfl⟩
  have hl : i < builts2.length := h
  refine builts_both.2 _ ?_
  simp [built2S, hl]
set_option maxHeartbeats 400000 in
theorem l3Builts_any (w : World) :
  Calls Tryz.prog 75 #[] w fun e w' => e = .returned (.slice (some ⟨w.heap.size, 0, none⟩) 15 15) ∧ w' = w.alloc (.cells (builts2.map fun x => Value.string ⟨x.toArray⟩).toArray 9) := by
 go_enter Tryz.func75, Tryz.ntmps75
 go_wp2
 go_ret
 exact ⟨rfl, rfl⟩
theorem built2_cell (w : World) (i : Nat) (h : i < 15) : (w.alloc (.cells (builts2.map fun x => Value.string ⟨x.toArray⟩).toArray 9)).cell? ⟨w.heap.size, i, none⟩ = some (.string (built2S i)) := by
 have hl : i < builts2.length := h
 rw [cell_new_row]
 simp [built2S, hl]
theorem hasBuilt_any (s : ByteArray) (w : World) (b : Nat) (hc : ∀ i, i < 15 → w.cell? ⟨b, i, none⟩ = some (.string (built2S i))) :
  Calls Tryz.prog 72 #[.slice (some ⟨b, 0, none⟩) 15 15, .string s] w fun e w' => e = .returned (.bool (isBuilt s)) ∧ w' = w := by
 refine (l1Has_any b 15 s built2S w (by omega) hc).mono ?_
 rintro e w' ⟨⟨rfl, h⟩ | ⟨rfl, h⟩, rfl⟩
 ·exact ⟨ret_bool ((mem_builts2 s).2 h).symm, rfl⟩
 ·refine ⟨ret_bool ?_, rfl⟩
  cases hq : isBuilt s with
  | false => rfl
  | true =>
   obtain ⟨i, hi, e⟩ := (mem_builts2 s).1 hq
   exact absurd e (h i hi)
def envL (L : List (ByteArray × Nat)) : Env := L.foldl (fun kn p => kn.ext p.1 p.2) builtEnv
theorem envL_snoc (L : List (ByteArray × Nat)) (p : ByteArray × Nat) : envL (L ++ [p]) = (envL L).ext p.1 p.2 := by simp [envL]
theorem envL_cut (L : List (ByteArray × Nat)) (t : ByteArray) (i : Nat) (h : ∀ q, i ≤ q → ∀ p, L[q]? = some p → ¬ p.1 = t) : envL L t = envL (L.take i) t := by
 induction hn : L.length - i generalizing i with
 | zero => rw [List.take_of_length_le (by omega)]
 | succ n ih =>
  rw [ih (i + 1) (fun q hq => h q (by omega)) (by omega), List.take_succ_eq_append_getElem (by omega), envL_snoc]
  unfold Env.ext
  rw [if_neg]
  intro e
  exact h i (Nat.le_refl _) _ (List.getElem?_eq_getElem (by omega)) e.symm
theorem envL_at (L : List (ByteArray × Nat)) (t : ByteArray) (i : Nat) (p : ByteArray × Nat) (hp : L[i]? = some p) (he : p.1 = t) (h : ∀ q, i < q → ∀ p, L[q]? = some p → ¬ p.1 = t) : envL L t = (p.2 : Int) := by
 obtain ⟨hl, e⟩ := List.getElem?_eq_some_iff.1 hp
 rw [envL_cut L t (i + 1) (fun q hq => h q (by omega)), List.take_succ_eq_append_getElem hl, e, envL_snoc]
 unfold Env.ext
 rw [if_pos he.symm]
def KnAt (W : World) (g c : Nat) (L : List (ByteArray × Nat)) : Prop := L.length ≤ c ∧ c ≤ maxLen ∧ g < W.heap.size ∧ ∀ i p, L[i]? = some p → W.cell? ⟨g, i * 2, none⟩ = some (.string p.1) ∧ W.cell? ⟨g, i * 2 + 1, none⟩ = some (.int .i64 p.2)
set_option maxHeartbeats 2000000 in
theorem use_any (x : Mx) (hx : x.Ok) (k : Nat) (L : List (ByteArray × Nat)) (g c : Nat) (F : Nat × Nat → Prop) (cf : Nat → Nat) (bn : Nat → Int) (w : World) (hL : L.length ≤ 2000000) (h : x.At w cf bn) (ht : Stb x.S w x.Tree) (hok : CodesOk cf F) (hk : KnAt w g c L) (hkN : k < x.N) :
  Calls Tryz.prog 49 #[.pointer (some ⟨x.wb, 0, none⟩), .int .i64 k, .slice (some ⟨g, 0, none⟩) L.length c] w fun e w' => e = .returned (.tuple #[]) ∧ x.Ends w w' F bn (useE x.nd (envL L) k) := by
 obtain ⟨f0, f1, f2, f3⟩ := ht.now.four
 obtain ⟨c0, c1, c2, c3, c4⟩ := ht.now.2.1 k hkN
 obtain ⟨b0, b1⟩ := h.2.cell k hkN
 have H := hid h
 have HX := hid hx
 have HT := hid ht
 have HK := hid hk
 have HOK := hid hok
 have hN5 := hx.N
 obtain ⟨n, hn⟩ : ∃ n, L.length = n := ⟨_, rfl⟩
 have HNL := hid hn
 rw [hn] at hL ⊢
 clear h ht hk hx hok hn
 go_enter Tryz.func49, Tryz.ntmps49
 go_wp2
 clear f0 f1 f2 f3 c0 c1 c2 c3 c4 b0 b1
 go_loopw [6] (fun i wr => ∃ j : Nat, j ≤ n ∧ i = .int .i64 ((j : Int) - 1) ∧ (∀ q, j ≤ q → ∀ p, L[q]? = some p → ¬ p.1 = (x.nd k).text) ∧ Below w.heap.size w wr) (fun i _ => (intOf i + 1).toNat)
 case atStart => exact ⟨n, Nat.le_refl _, by go_num, fun q hq p hp => by have := (List.getElem?_eq_some_iff.1 hp).1; have := HNL.out; omega, Below.refl _ _⟩
 case round =>
  obtain ⟨j, hj, rfl, hno, hbw⟩ := hrel
  have HNO := hid hno
  have HBW := hid hbw
  have HA := hid (H.out.go hbw)
  have HSV : Hid (Sv x.S w wr) := Sv.of_below hbw
  clear hno hbw
  obtain ⟨f0, f1, f2, f3⟩ := (HT.out _ HSV.out).four
  obtain ⟨c0, c1, c2, c3, c4⟩ := (HT.out _ HSV.out).2.1 k hkN
  obtain ⟨b0, b1⟩ := HA.out.2.cell k hkN
  by_cases hlt : 0 < j
  ·obtain ⟨i, rfl⟩ : ∃ i, j = i + 1 := ⟨j - 1, by omega⟩
   obtain ⟨p, hp⟩ : ∃ p, L[i]? = some p := ⟨_, List.getElem?_eq_getElem (by have := HNL.out; omega)⟩
   obtain ⟨d0, d1⟩ := HK.out.2.2.2 i p hp
   have d0 := (HBW.out.cell (p := ⟨g, i * 2, none⟩) HK.out.2.2.1).trans d0
   have d1 := (HBW.out.cell (p := ⟨g, i * 2 + 1, none⟩) HK.out.2.2.1).trans d1
   have hi1 : (((i + 1 : Nat) : Int) - 1) = (i : Int) := by omega
   rw [hi1]
   have HP := hid hp
   clear hp hi1
   cases he : (p.1.toList == (x.nd k).text.toList)
   ·have HNE : Hid (¬ p.1 = (x.nd k).text) := fun h => by rw [h] at he; simp at he
    go_wp2
    go_region
    go_wp2
    go_roundw
    case rel => exact ⟨i, by omega, by go_num, fun q hq p' hp' => by
     by_cases e : q = i
     ·subst e
      have := HP.out.symm.trans hp'
      injection this with this
      subst this
      exact HNE.out
     ·exact HNO.out q (by omega) p' hp', HBW.out.drew⟩
    case measure => simp [intOf]
   ·have HEQ : Hid (p.1 = (x.nd k).text) := bytes_eq he
    have EV : Hid (useE x.nd (envL L) k = [.bind k (p.2 : Int)]) := by
     show _ = _
     unfold useE
     rw [envL_at L (x.nd k).text i p HP.out HEQ.out (fun q hq => HNO.out q (by omega)), if_neg (by omega)]
    go_wp2
    go_region
    have HA2 : Hid (x.At wr.drew cf bn) := HA.out
    have HBW2 := hid HBW.out.drew
    have HS2 := hid HSV.out.drew
    clear f0 f1 f2 f3 c0 c1 c2 c3 c4 b0 b1 HA HBW HSV
    have d0 : wr.drew.cell? ⟨g, i * 2, none⟩ = some (.string p.1) := d0
    have d1 : wr.drew.cell? ⟨g, i * 2 + 1, none⟩ = some (.int .i64 p.2) := d1
    generalize wr.drew = w2 at *
    obtain ⟨f0, f1, f2, f3⟩ := (HT.out _ HS2.out).four
    obtain ⟨b0, b1⟩ := HA2.out.2.cell k hkN
    have HEND : Hid (x.Ends w (w2.setCell ⟨x.gb, k, none⟩ (.int .i64 p.2)).drew F bn (useE x.nd (envL L) k)) := by
     rw [EV.out]
     exact ⟨(HS2.out.setCell (p := ⟨x.gb, k, none⟩) (.inl (.inr rfl)) _).drew, cf, _, ⟨⟨_, (Below.heap_setCell _ _ _ _ (fun e => HX.out.ne e)).trans HA2.out.1.choose_spec.1, HA2.out.1.choose_spec.2⟩, HA2.out.2.set k hkN p.2⟩, HOK.out.congr (fun y => by simp [fls]), fun _ => rfl⟩
    go_wp2
    go_region
    go_wp2
    exact bodyPost_ret (results_none rfl _ _ _) rfl ⟨rfl, HEND.out⟩
  ·obtain rfl : j = 0 := by omega
   have HENV : Hid (envL L (x.nd k).text = builtEnv (x.nd k).text) := by
    have := envL_cut L (x.nd k).text 0 (fun q hq => HNO.out q (by omega))
    rw [List.take_zero] at this
    exact this
   cases hbt : isBuilt (x.nd k).text
   ·have EV : Hid (useE x.nd (envL L) k = [.bind k (-1), .flt k 9]) := by
     show _ = _
     unfold useE
     rw [HENV.out]
     unfold builtEnv
     rw [hbt]
     rfl
    have e0' : ∀ O, (wr.alloc O).cell? ⟨x.wb, 0, none⟩ = _ := fun O => ((HT.out _ (HSV.out.alloc O)).four).1
    have e3' : ∀ O, (wr.alloc O).cell? ⟨x.g, k * 5 + 3, none⟩ = _ := fun O => ((HT.out _ (HSV.out.alloc O)).2.1 k hkN).2.2.2.1
    have e0 : ∀ O, (wr.drew.alloc O).cell? ⟨x.wb, 0, none⟩ = _ := fun O => ((HT.out _ (HSV.out.drew.alloc O)).four).1
    have e3 : ∀ O, (wr.drew.alloc O).cell? ⟨x.g, k * 5 + 3, none⟩ = _ := fun O => ((HT.out _ (HSV.out.drew.alloc O)).2.1 k hkN).2.2.2.1
    go_wp2
    go_region_with (first
     | (go_at_call 75; refine (l3Builts_any _).mono ?_; rintro e w2 ⟨rfl, rfl⟩)
     | (go_at_call 72; refine (hasBuilt_any _ _ wr.heap.size (fun i hi => by exact built2_cell wr i hi)).mono ?_; rintro e w3 ⟨rfl, hw3⟩; rw [hw3, hbt]))
    all_goals
     have HS2 : Hid (Sv x.S w (wr.alloc (.cells (builts2.map fun x => Value.string ⟨x.toArray⟩).toArray 9)).drew) := (HSV.out.alloc _).drew
     have HA2 : Hid (x.At (wr.alloc (.cells (builts2.map fun x => Value.string ⟨x.toArray⟩).toArray 9)).drew cf bn) := Mx.At.go (W := wr) HA.out (((Below.refl _ _).alloc (Nat.le_refl _) _).drew)
     clear f0 f1 f2 f3 c0 c1 c2 c3 c4 b0 b1 HA HBW HSV e0 e3 e0' e3'
     generalize (wr.alloc (.cells (builts2.map fun x => Value.string ⟨x.toArray⟩).toArray 9)).drew = w2 at *
     obtain ⟨f0, f1, f2, f3⟩ := (HT.out _ HS2.out).four
     obtain ⟨b0, b1⟩ := HA2.out.2.cell k hkN
     go_wp2_with (first
      | (go_at_call 28; refine (fault_any x HX.out k 9 (by omega) F cf bn _ hkN HA2.out (HT.out _ HS2.out) HOK.out).mono ?_; rintro e w5 ⟨rfl, hen⟩; have HEN := hid hen; clear hen))
     go_end0
     rw [EV.out]
     obtain ⟨s5, cf5, bn5, a5, k5, n5⟩ := HEN.out
     exact ⟨rfl, HS2.out.trans s5, cf5, bn5, a5, k5, fun h => by cases h⟩
   ·have EV : Hid (useE x.nd (envL L) k = [.bind k (-2)]) := by
     show _ = _
     unfold useE
     rw [HENV.out]
     unfold builtEnv
     rw [hbt]
     rfl
    have e0' : ∀ O, (wr.alloc O).cell? ⟨x.wb, 0, none⟩ = _ := fun O => ((HT.out _ (HSV.out.alloc O)).four).1
    have e3' : ∀ O, (wr.alloc O).cell? ⟨x.g, k * 5 + 3, none⟩ = _ := fun O => ((HT.out _ (HSV.out.alloc O)).2.1 k hkN).2.2.2.1
    have e0 : ∀ O, (wr.drew.alloc O).cell? ⟨x.wb, 0, none⟩ = _ := fun O => ((HT.out _ (HSV.out.drew.alloc O)).four).1
    have e3 : ∀ O, (wr.drew.alloc O).cell? ⟨x.g, k * 5 + 3, none⟩ = _ := fun O => ((HT.out _ (HSV.out.drew.alloc O)).2.1 k hkN).2.2.2.1
    go_wp2
    go_region_with (first
     | (go_at_call 75; refine (l3Builts_any _).mono ?_; rintro e w2 ⟨rfl, rfl⟩)
     | (go_at_call 72; refine (hasBuilt_any _ _ wr.heap.size (fun i hi => by exact built2_cell wr i hi)).mono ?_; rintro e w3 ⟨rfl, hw3⟩; rw [hw3, hbt]))
    all_goals
     have HS2 : Hid (Sv x.S w (wr.alloc (.cells (builts2.map fun x => Value.string ⟨x.toArray⟩).toArray 9)).drew) := (HSV.out.alloc _).drew
     have HA2 : Hid (x.At (wr.alloc (.cells (builts2.map fun x => Value.string ⟨x.toArray⟩).toArray 9)).drew cf bn) := Mx.At.go (W := wr) HA.out (((Below.refl _ _).alloc (Nat.le_refl _) _).drew)
     clear f0 f1 f2 f3 c0 c1 c2 c3 c4 b0 b1 HA HBW HSV e0 e3 e0' e3'
     generalize (wr.alloc (.cells (builts2.map fun x => Value.string ⟨x.toArray⟩).toArray 9)).drew = w2 at *
     obtain ⟨f0, f1, f2, f3⟩ := (HT.out _ HS2.out).four
     obtain ⟨b0, b1⟩ := HA2.out.2.cell k hkN
     have HEND : Hid (x.Ends w (w2.setCell ⟨x.gb, k, none⟩ (.int .i64 (-2))) F bn (useE x.nd (envL L) k)) := by
      rw [EV.out]
      exact ⟨HS2.out.setCell (p := ⟨x.gb, k, none⟩) (.inl (.inr rfl)) _, cf, _, ⟨⟨_, (Below.heap_setCell _ _ _ _ (fun e => HX.out.ne e)).trans HA2.out.1.choose_spec.1, HA2.out.1.choose_spec.2⟩, HA2.out.2.set k hkN (-2)⟩, HOK.out.congr (fun y => by simp [fls]), fun _ => rfl⟩
     go_wp2
     exact bodyPost_ret (results_none rfl _ _ _) rfl ⟨rfl, HEND.out⟩
end Go.Proofs.YtbakebdfmdepnaaGreatDoor
