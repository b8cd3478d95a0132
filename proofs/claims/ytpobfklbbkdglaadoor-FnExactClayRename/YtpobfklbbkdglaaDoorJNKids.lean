import Derived.Deep.RegionLaw
import Derived.Test.YtpobfklbbkdglaaDoorJMake
import Derived.Test.YtpobfklbbkdglaaDoorJKid
import Derived.Test.YtpobfklbbkdglaaDoorJUse
namespace Go.Proofs.YtpobfklbbkdglaaDoor
open Go.RowKit
set_option maxRecDepth 20000
/-- What the loop of clayKidPlaces holds behind j nodes. -/
structure KPI (nd : Nat → Nd) (O : List (List Nat)) (N B gk : Nat) (W0 W : World) (j : Nat) (vo : Value) (s : List Nat) : Prop where
  kf : kidsF nd j = some (O.take j, s)
  own : W.ownsRow B 3 1 vo s.length (intRow s)
  vne : vo.ownBlock ≠ some gk
  grid : ∃ cur, W.heap[gk]? = some (.cells cur 36 (0, 0)) ∧ cur.size = N ∧ ∀ i, i < N → ∃ v, cur[i]? = some v ∧ (j ≤ i → v = .slice none 0 0) ∧
    (i < j → W.ownsRow B 3 1 v (O.getD i []).length (intRow (O.getD i [])) ∧ v.ownBlock ≠ some gk ∧ ∀ r, v.ownBlock = some r → vo.ownBlock ≠ some r)
  bel : Below B W0 W
  gkB : B ≤ gk
theorem own_keep {w w' : World} {B e size n : Nat} {v : Value} {xs : List Value} (h : w.ownsRow B e size v n xs) (hk : ∀ r, v.ownBlock = some r → w'.heap[r]? = w.heap[r]?) : w'.ownsRow B e size v n xs := by
  obtain ⟨h1, h2 | ⟨g, cap, cur, rfl, b, c, d⟩⟩ := h
  · exact ⟨h1, .inl h2⟩
  · exact ⟨h1, .inr ⟨g, cap, cur, rfl, b, (hk g rfl).trans c, d⟩⟩
theorem own_lt {w : World} {B e size n r : Nat} {v : Value} {xs : List Value} (h : w.ownsRow B e size v n xs) (hr : v.ownBlock = some r) : B ≤ r ∧ r < w.heap.size := h.lt r hr
theorem KPI_step {nd : Nat → Nd} {O : List (List Nat)} {N B gk : Nat} {W0 wr X w2 w5 : World} {j : Nat} {vo v1 v3 : Value} {s sp sk : List Nat} {row : Option Nat} {o : Obj} (h : KPI nd O N B gk W0 wr j vo s) (hj : j < N) (hO : O.getD j [] = sk) (hkf : kidsF nd (j + 1) = some (O.take (j + 1), sp ++ [j]))
    (hB : B ≤ wr.heap.size) (hX : Below wr.heap.size wr X) (o1 : w2.ownsRow B 3 1 v1 sk.length (intRow sk)) (g1 : X.grownBy w2 none) (b1 : ∀ r, v1.ownBlock = some r → wr.heap.size ≤ r)
    (o3 : w5.ownsRow B 3 1 v3 (sp.length + 1) (intRow sp ++ [.int .i64 j])) (g3 : ((w2.setCell ⟨gk, j, none⟩ v1).alloc o).grownBy w5 row) (hr : ∀ k, row = some k → vo.ownBlock = some k) (b3 : v3.ownBlock = row ∨ v3.ownBlock = some ((w2.setCell ⟨gk, j, none⟩ v1).alloc o).heap.size) :
    KPI nd O N B gk W0 w5 (j + 1) v3 (sp ++ [j]) := by
  obtain ⟨_, ho, hv, ⟨cur, c1, c2, c3⟩, hb, hg⟩ := h
  have lgk := (Array.getElem?_eq_some_iff.1 c1).1
  have e2 : ∀ r, r < wr.heap.size → w2.heap[r]? = wr.heap[r]? := fun r hr => (g1.block r (Nat.lt_of_lt_of_le hr hX.size) (fun e => by cases e)).trans (hX.block r hr)
  have z2 : wr.heap.size ≤ w2.heap.size := Nat.le_trans hX.size g1.size
  have z3 : (w2.setCell ⟨gk, j, none⟩ v1).heap.size = w2.heap.size := by simp [World.setCell]
  have z4 : ((w2.setCell ⟨gk, j, none⟩ v1).alloc o).heap.size = w2.heap.size + 1 := by rw [World.size_alloc, z3]
  have e5 : ∀ r, r < w2.heap.size → r ≠ gk → row ≠ some r → w5.heap[r]? = w2.heap[r]? := fun r h1 h2 h3 =>
    (g3.block r (by rw [z4]; omega) (fun e => h3 e.symm)).trans ((Below.heap_alloc _ _ _ (by rw [z3]; exact h1)).trans (Below.heap_setCell _ _ _ _ h2))
  have hrgk : row ≠ some gk := fun e => hv (hr gk e)
  have egk : w5.heap[gk]? = some (.cells (cur.setIfInBounds j v1) 36 (0, 0)) := by
    rw [g3.block gk (by rw [z4]; omega) (fun e => hrgk e.symm), Below.heap_alloc _ _ _ (by rw [z3]; omega)]
    exact set_at v1 ((e2 gk lgk).trans c1)
  have hv3 : ∀ r, v3.ownBlock = some r → vo.ownBlock = some r ∨ r = w2.heap.size + 1 := fun r e => by
    rcases b3 with h | h
    · exact .inl (hr r (h.symm.trans e))
    · rw [e, z4] at h; injection h with h; exact .inr h
  refine ⟨hkf, ?_, ?_, ⟨_, egk, by simp [c2], fun i hi => ?_⟩, ?_, hg⟩
  · rw [List.length_append]
    have e : intRow (sp ++ [j]) = intRow sp ++ [.int .i64 j] := by simp [intRow]
    rw [e]; exact o3
  · intro e
    rcases hv3 gk e with h | h
    · exact hv h
    · omega
  · by_cases e : i = j
    · subst e
      refine ⟨v1, Array.getElem?_setIfInBounds_self_of_lt (by omega), fun h => by omega, fun _ => ⟨?_, ?_, ?_⟩⟩
      · rw [hO]
        exact own_keep o1 fun r hr1 => e5 r (own_lt o1 hr1).2 (by have := b1 r hr1; omega) (fun e => by have := own_lt ho (hr r e); have := b1 r hr1; omega)
      · intro e; have := b1 _ e; omega
      · intro r hr1 e
        have := b1 r hr1
        have := (own_lt o1 hr1).2
        rcases hv3 r e with h | h
        · have := own_lt ho h; omega
        · omega
    · obtain ⟨v, d1, d2, d3⟩ := c3 i hi
      refine ⟨v, by rw [Array.getElem?_setIfInBounds_ne (fun h => e h.symm)]; exact d1, fun h => d2 (by omega), fun h => ?_⟩
      obtain ⟨q1, q2, q3⟩ := d3 (by omega)
      refine ⟨own_keep q1 fun r hr1 => ?_, q2, fun r hr1 e => ?_⟩
      · have := (own_lt q1 hr1).2
        exact (e5 r (by omega) (fun e => q2 (by rw [hr1, e])) (fun e => q3 r hr1 (hr r e))).trans (e2 r this)
      · have := (own_lt q1 hr1).2
        rcases hv3 r e with h | h
        · exact q3 r hr1 h
        · omega
  · refine hb.trans ⟨?_, ?_, ?_, ?_, fun r hr1 => ?_⟩
    · exact g3.os.trans (g1.os.trans hX.os)
    · exact g3.tape.trans (g1.tape.trans hX.tape)
    · exact g3.output.trans (g1.output.trans hX.output)
    · have := g3.size; rw [z4] at this; omega
    · exact (e5 r (by omega) (by omega) (fun e => by have := own_lt ho (hr r e); omega)).trans (e2 r (by omega))
theorem set_alloc (w : World) (O : Obj) (a : Addr) (v : Value) (h : a.block < w.heap.size) : ((w.setCell a v).alloc O).drew = ((w.alloc O).drew).setCell a v := by
  unfold World.setCell World.alloc World.drew
  simp only [World.mk.injEq, and_true]
  apply Array.ext
  · simp
  · intro i h1 h2
    simp only [Array.getElem_push, Array.getElem_modify, Array.size_modify]
    by_cases hi : i < w.heap.size
    · simp [hi]
    · rw [dif_neg hi, dif_neg hi, if_neg (by omega)]
theorem append_nil (ty : TypeId) (w : World) : (Builtin.append_ #[36, 36] ty #[.slice none 0 0, .slice none 0 0]).run Tryd.prog w = .ok (.slice none 0 0) w := by
  rfl
set_option maxHeartbeats 2000000 in
theorem kidPlaces_any (b N cap : Nat) (nd : Nat → Nd) (O : List (List Nat)) (S : List Nat) (w : World) (hN : N ≤ 5000) (hb : b < w.heap.size) (hn : NodesAt w b N nd) (hO : kidsF nd N = some (O, S)) :
    Calls Tryd.prog 50 #[.slice (some ⟨b, 0, none⟩) N cap] w fun e w' => ∃ gk, e = .returned (.slice (some ⟨gk, 0, none⟩) N N) ∧ w.heap.size ≤ gk ∧ KG w' gk N O ∧ (∀ i, i < N → ∀ g n c, w'.cell? ⟨gk, i, none⟩ = some (.slice (some ⟨g, 0, none⟩) n c) → w.heap.size ≤ g) ∧ Below w.heap.size w w' := by
  have HN := hid hn
  have HO := hid hO
  clear hn hO
  obtain ⟨i0, hi, hz0, hz1, hz2⟩ := info_parts info_int
  have HHI := hid (And.intro hi (And.intro hz0 (And.intro hz1 hz2)))
  clear hi hz0 hz1 hz2
  obtain ⟨i1, hi, hz0, hz1, hz2⟩ := info_parts info_ints
  have HHS := hid (And.intro hi (And.intro hz0 (And.intro hz1 hz2)))
  clear hi hz0 hz1
  go_enter Tryd.func50, Tryd.ntmps50
  go_wp2_with (at_make; refine wpList_make_full _ rfl _ _ 48 rfl w.heap.size 36 i1 (.slice none 0 0) 1 Tryd.underlying48 HHS.out.1 HHS.out.2.1 HHS.out.2.2.1 _ _ _ _ N rfl rfl rfl rfl (by rw [hz2]; omega) (by unfold maxLen; omega) (Nat.le_refl _) ?_; intro w1 o1 g1)
  have HG0 : Hid (∃ cur, w1.heap[w.heap.size]? = some (.cells cur 36 (0, 0)) ∧ cur.size = N ∧ ∀ i, i < N → cur[i]? = some (.slice none 0 0)) := by
    obtain ⟨h1, ⟨h2, _⟩ | ⟨g, c, cur, e, _, h4, _, _, h7, h8⟩⟩ := o1
    · cases h2
    · cases e
      refine ⟨cur, h4, by omega, fun i hi => ?_⟩
      rw [Nat.mul_one, List.take_of_length_le (by simp; omega)] at h8
      have e : (Value.slice none 0 0).cells = #[.slice none 0 0] := rfl
      rw [e, toList_madeCells_one] at h8
      rw [← Array.getElem?_toList, h8, List.getElem?_replicate, if_pos hi]
  have HB0 := hid ((Below.refl w.heap.size w).grown g1 (Nat.le_refl _) (fun q e => by cases e))
  clear o1 g1
  go_loopw [4, 13] (fun vo i wr => ∃ (j : Nat) (s : List Nat), j ≤ N ∧ i = .int .i64 j ∧ KPI nd O N w.heap.size w.heap.size w wr j vo s) (fun _ i _ => N - (intOf i).toNat)
  case atStart =>
    refine ⟨0, [], Nat.zero_le _, rfl, rfl, World.ownsRow_nil _ _ _ _, (by simp [Value.ownBlock]), ?_, HB0.out, Nat.le_refl _⟩
    obtain ⟨cur, h1, h2, h3⟩ := HG0.out
    exact ⟨cur, h1, h2, fun i hi => ⟨_, h3 i hi, fun _ => rfl, fun h => absurd h (Nat.not_lt_zero _)⟩⟩
  case round =>
    obtain ⟨j, s, hj, rfl, hkp⟩ := hrel
    have HKP := hid hkp
    clear hkp HB0
    have HBW := hid HKP.out.bel
    have hsz := HBW.out.size
    by_cases hlt : j < N
    · obtain ⟨a0, a1, a2, a3, a4⟩ := (HN.out.below HBW.out hb) j hlt
      obtain ⟨sp, sk, hk1, hk2, hk3⟩ := kidsF_at HO.out j hlt
      have hs : s = sp ++ sk := by have := HKP.out.kf; rw [hk1] at this; injection this with this; injection this with _ this; exact this.symm
      subst hs
      have hkk : (nd j).kids = sk.length := by
        obtain ⟨o', sp', sk', q1, q2, q3, q4⟩ := kidsF_step hk2
        rw [q1] at hk1
        injection hk1 with hk1
        injection hk1 with _ hk1
        have e1 := List.append_inj_left' q3 rfl
        subst e1
        rw [q4, List.append_cancel_left hk1]
      have HK2 := hid hk2
      have HK3 := hid hk3
      have hle := (kidsF_len nd _ _ _ hk1).2.1
      obtain ⟨p, hp⟩ : ∃ p, sp.length = p := ⟨_, rfl⟩
      obtain ⟨k, hsk⟩ : ∃ k, sk.length = k := ⟨_, rfl⟩
      rw [List.length_append, hp, hsk] at hle
      rw [hkk, hsk] at a4
      have HP := hid hp
      have HSK := hid hsk
      clear hkk hk1 hk2 hk3 hp hsk
      obtain ⟨cur, hc1, hc2, hc3⟩ := HKP.out.grid
      have lgk := (Array.getElem?_eq_some_iff.1 hc1).1
      obtain ⟨v0, hv0, hv1, _⟩ := hc3 j hlt
      obtain rfl := hv1 (Nat.le_refl _)
      have HGR : Hid (∀ W : World, W.heap[w.heap.size]? = wr.heap[w.heap.size]? → W.cell? ⟨w.heap.size, j, none⟩ = some (.slice none 0 0) ∧ W.frozen? ⟨w.heap.size, j, none⟩ = false) := fun W hW => by
        rw [hc1] at hW
        constructor
        · unfold World.cell?; rw [hW]; exact hv0
        · unfold World.frozen?; rw [hW]; simp
      clear hc1 hc2 hc3 hv0 hv1
      have hown := HKP.out.own
      rw [List.length_append, HP.out, HSK.out] at hown
      rcases hown with ⟨_, ⟨rfl, h0⟩ | ⟨g, co, cur, rfl, hBg, hcu, hpc, hcm, hcs, hct⟩⟩
      · obtain rfl : k = 0 := by omega
        obtain rfl : p = 0 := by omega
        obtain rfl : sp = [] := List.length_eq_zero_iff.1 HP.out
        obtain rfl : sk = [] := List.length_eq_zero_iff.1 HSK.out
        have HXB : Hid (Below wr.heap.size wr (wr.alloc (.cells #[.int .i64 (nd j).kind, .int .i64 (nd j).op, .int .i64 (nd j).n, .string (nd j).text, .int .i64 0] 58)).drew) := ((Below.refl _ _).alloc (Nat.le_refl _) _).drew
        obtain ⟨x0, x1⟩ := HGR.out (wr.alloc (.cells #[.int .i64 (nd j).kind, .int .i64 (nd j).op, .int .i64 (nd j).n, .string (nd j).text, .int .i64 0] 58)).drew (HXB.out.block _ lgk)
        go_wp2
        go_region
        rw [set_alloc _ _ _ _ lgk]
        have HW2 : Hid (∃ w2, w2 = (wr.alloc (.cells #[.int .i64 (nd j).kind, .int .i64 (nd j).op, .int .i64 (nd j).n, .string (nd j).text, .int .i64 0] 58)).drew ∧ Below wr.heap.size wr w2) := ⟨_, rfl, HXB.out⟩
        clear x0 x1 HXB
        generalize hw3 : World.setCell (wr.alloc (.cells #[.int .i64 (nd j).kind, .int .i64 (nd j).op, .int .i64 (nd j).n, .string (nd j).text, .int .i64 0] 58)).drew ⟨w.heap.size, j, none⟩ (.slice none 0 0) = w3
        have hw3' : ∃ w2, w3 = World.setCell w2 ⟨w.heap.size, j, none⟩ (.slice none 0 0) ∧ Below wr.heap.size wr w2 := by
          obtain ⟨w2, e, h⟩ := HW2.out
          exact ⟨w2, by rw [e]; exact hw3.symm, h⟩
        clear hw3 HW2
        obtain ⟨w2, hw3, hb2⟩ := hw3'
        have HW3 := hid hw3
        have HB2 := hid hb2
        have hz3 : wr.heap.size ≤ w3.heap.size := by rw [hw3]; have := hb2.size; simpa [World.setCell] using this
        clear hw3 hb2
        have OWN8 : Hid (World.ownsRow (w3.alloc (.cells #[.int .i64 j] 3)) w.heap.size 3 1 (.slice none 0 0) 0 []) := World.ownsRow_nil _ _ _ _
        go_wp2_with (at_builtin; refine wpList_append_own_at _ rfl (.tmp 36) (.tmp 38) 36 rfl w.heap.size 3 i0 (.int .i64 0) 1 8 Tryd.underlying36 HHI.out.1 HHI.out.2.1 HHI.out.2.2.1 HHI.out.2.2.2 rfl (by decide) (.slice none 0 0) _ _ rfl OWN8.out ⟨w3.heap.size, 0, none⟩ 1 1 [.int .i64 j] rfl rfl (cell_one_new w3 _ _) (by simp [Value.oneCell']) (by unfold maxLen; omega) (by omega) (by simp; omega) ?_; intro v3 w5 o5 g5 nn5 b5; have O5 := hid o5; have G5 := hid g5; have NN5 := hid nn5; have B5 := hid b5; clear o5 g5 nn5 b5)
        have HST : Hid (∃ v', v3 = v' ∧ KPI nd O N w.heap.size w.heap.size w w5 (j + 1) v3 ([] ++ [j])) := by
          have g5 := G5.out
          rw [HW3.out] at g5
          have b5 := B5.out
          rw [HW3.out] at b5
          exact ⟨_, rfl, KPI_step (sk := []) (v1 := .slice none 0 0) HKP.out hlt HK3.out HK2.out hsz HB2.out (World.ownsRow_nil _ _ _ _) ⟨rfl, rfl, rfl, Nat.le_refl _, fun _ _ _ => rfl⟩ (fun r e => by cases e) O5.out g5 (fun k e => e) b5⟩
        clear O5 G5 NN5 B5
        go_wp2
        go_roundw
        case rel =>
          obtain ⟨v', _, h⟩ := HST.out
          exact ⟨j + 1, _, by omega, by go_num, h⟩
        case measure => simp [intOf]; omega
      · have hgne : g ≠ w.heap.size := fun e => HKP.out.vne (by rw [← e]; rfl)
        have hgl : g < wr.heap.size := (Array.getElem?_eq_some_iff.1 hcu).1
        have HROW : Hid (RowAt wr 3 g co (p + k) (intRow (sp ++ sk))) := ⟨by rw [intRow_length, List.length_append, HP.out, HSK.out], hpc, hcm, cur, hcu, by omega, by rw [Nat.mul_one] at hct; exact hct⟩
        have HFR : Hid (World.ownsRow wr w.heap.size 3 1 (.slice (some ⟨g, 0, none⟩) p co) p (intRow sp)) := by
          have h1 := HROW.out
          rw [intRow_append] at h1
          have := h1.front
          rw [intRow_length, HP.out] at this
          exact this.own hBg
        clear hcu hct
        by_cases hk0 : k = 0
        · subst hk0
          have hsk0 : sk = [] := List.length_eq_zero_iff.1 HSK.out
          simp only [Nat.add_zero] at *
          have HXB : Hid (Below wr.heap.size wr (wr.alloc (.cells #[.int .i64 (nd j).kind, .int .i64 (nd j).op, .int .i64 (nd j).n, .string (nd j).text, .int .i64 0] 58)).drew) := ((Below.refl _ _).alloc (Nat.le_refl _) _).drew
          obtain ⟨x0, x1⟩ := HGR.out (wr.alloc (.cells #[.int .i64 (nd j).kind, .int .i64 (nd j).op, .int .i64 (nd j).n, .string (nd j).text, .int .i64 0] 58)).drew (HXB.out.block _ lgk)
          by_cases hcp : co = p
          · subst hcp
            go_wp2
            go_region
            rw [set_alloc _ _ _ _ lgk]
            obtain ⟨w2, hw2⟩ : ∃ w2, w2 = (wr.alloc (.cells #[.int .i64 (nd j).kind, .int .i64 (nd j).op, .int .i64 (nd j).n, .string (nd j).text, .int .i64 0] 58)).drew := ⟨_, rfl⟩
            have HG1 : Hid (World.grownBy (wr.alloc (.cells #[.int .i64 (nd j).kind, .int .i64 (nd j).op, .int .i64 (nd j).n, .string (nd j).text, .int .i64 0] 58)).drew w2 none) := by rw [hw2]; exact ⟨rfl, rfl, rfl, Nat.le_refl _, fun _ _ _ => rfl⟩
            have HO1 : Hid (World.ownsRow w2 w.heap.size 3 1 (.slice none 0 0) 0 (intRow sk)) := by rw [hsk0]; exact World.ownsRow_nil _ _ _ _
            have HB1 : Hid (∀ r, (Value.slice none 0 0).ownBlock = some r → wr.heap.size ≤ r) := fun r hr => by cases hr
            rw [← hw2]
            clear hw2 x0 x1
            generalize hw3 : World.setCell w2 ⟨w.heap.size, j, none⟩ (.slice none 0 0) = w3
            have HW3 := hid hw3
            have hz3 : wr.heap.size ≤ w3.heap.size := by rw [← hw3]; have := HG1.out.size; have := HXB.out.size; simp only [World.setCell, Array.size_modify]; omega
            clear hw3
            have OWN8 : Hid (World.ownsRow (w3.alloc (.cells #[.int .i64 j] 3)) w.heap.size 3 1 (.slice (some ⟨g, 0, none⟩) co co) co (intRow sp)) := by
              refine own_keep HFR.out fun r hr => ?_
              cases hr
              rw [Below.heap_alloc w3 _ g (Nat.lt_of_lt_of_le hgl hz3), ← HW3.out, Below.heap_setCell _ _ _ _ hgne, HG1.out.block g (Nat.lt_of_lt_of_le hgl HXB.out.size) (fun e => by cases e), HXB.out.block g hgl]
            go_wp2_with (at_builtin; refine wpList_append_own_at _ rfl (.tmp 36) (.tmp 38) 36 rfl w.heap.size 3 i0 (.int .i64 0) 1 8 Tryd.underlying36 HHI.out.1 HHI.out.2.1 HHI.out.2.2.1 HHI.out.2.2.2 rfl (by decide) (.slice (some ⟨g, 0, none⟩) co co) _ _ rfl OWN8.out ⟨w3.heap.size, 0, none⟩ 1 1 [.int .i64 j] rfl rfl (cell_one_new w3 _ _) (by simp [Value.oneCell']) (by unfold maxLen; omega) (by omega) (by simp; omega) ?_; intro v3 w5 o5 g5 nn5 b5; have O5 := hid o5; have G5 := hid g5; have NN5 := hid nn5; have B5 := hid b5; clear o5 g5 nn5 b5)
            have HST : Hid (KPI nd O N w.heap.size w.heap.size w w5 (j + 1) v3 (sp ++ [j])) := by
              have g5 := G5.out
              rw [← HW3.out] at g5
              have b5 := B5.out
              rw [← HW3.out] at b5
              exact KPI_step (v1 := .slice none 0 0) HKP.out hlt HK3.out HK2.out hsz HXB.out (by rw [HSK.out]; exact HO1.out) HG1.out HB1.out (by rw [HP.out]; exact O5.out) g5 (fun k e => e) b5
            clear O5 G5 NN5 B5
            go_wp2
            go_roundw
            case rel => exact ⟨j + 1, _, by omega, by go_num, HST.out⟩
            case measure => simp [intOf]; omega
          · go_wp2
            go_region
            rw [set_alloc _ _ _ _ lgk]
            obtain ⟨w2, hw2⟩ : ∃ w2, w2 = (wr.alloc (.cells #[.int .i64 (nd j).kind, .int .i64 (nd j).op, .int .i64 (nd j).n, .string (nd j).text, .int .i64 0] 58)).drew := ⟨_, rfl⟩
            have HG1 : Hid (World.grownBy (wr.alloc (.cells #[.int .i64 (nd j).kind, .int .i64 (nd j).op, .int .i64 (nd j).n, .string (nd j).text, .int .i64 0] 58)).drew w2 none) := by rw [hw2]; exact ⟨rfl, rfl, rfl, Nat.le_refl _, fun _ _ _ => rfl⟩
            have HO1 : Hid (World.ownsRow w2 w.heap.size 3 1 (.slice none 0 0) 0 (intRow sk)) := by rw [hsk0]; exact World.ownsRow_nil _ _ _ _
            have HB1 : Hid (∀ r, (Value.slice none 0 0).ownBlock = some r → wr.heap.size ≤ r) := fun r hr => by cases hr
            rw [← hw2]
            clear hw2 x0 x1
            generalize hw3 : World.setCell w2 ⟨w.heap.size, j, none⟩ (.slice none 0 0) = w3
            have HW3 := hid hw3
            have hz3 : wr.heap.size ≤ w3.heap.size := by rw [← hw3]; have := HG1.out.size; have := HXB.out.size; simp only [World.setCell, Array.size_modify]; omega
            clear hw3
            have OWN8 : Hid (World.ownsRow (w3.alloc (.cells #[.int .i64 j] 3)) w.heap.size 3 1 (.slice (some ⟨g, 0, none⟩) p co) p (intRow sp)) := by
              refine own_keep HFR.out fun r hr => ?_
              cases hr
              rw [Below.heap_alloc w3 _ g (Nat.lt_of_lt_of_le hgl hz3), ← HW3.out, Below.heap_setCell _ _ _ _ hgne, HG1.out.block g (Nat.lt_of_lt_of_le hgl HXB.out.size) (fun e => by cases e), HXB.out.block g hgl]
            go_wp2_with (at_builtin; refine wpList_append_own_at _ rfl (.tmp 36) (.tmp 38) 36 rfl w.heap.size 3 i0 (.int .i64 0) 1 8 Tryd.underlying36 HHI.out.1 HHI.out.2.1 HHI.out.2.2.1 HHI.out.2.2.2 rfl (by decide) (.slice (some ⟨g, 0, none⟩) p co) _ _ rfl OWN8.out ⟨w3.heap.size, 0, none⟩ 1 1 [.int .i64 j] rfl rfl (cell_one_new w3 _ _) (by simp [Value.oneCell']) (by unfold maxLen; omega) (by omega) (by simp; omega) ?_; intro v3 w5 o5 g5 nn5 b5; have O5 := hid o5; have G5 := hid g5; have NN5 := hid nn5; have B5 := hid b5; clear o5 g5 nn5 b5)
            have HST : Hid (KPI nd O N w.heap.size w.heap.size w w5 (j + 1) v3 (sp ++ [j])) := by
              have g5 := G5.out
              rw [← HW3.out] at g5
              have b5 := B5.out
              rw [← HW3.out] at b5
              exact KPI_step (v1 := .slice none 0 0) HKP.out hlt HK3.out HK2.out hsz HXB.out (by rw [HSK.out]; exact HO1.out) HG1.out HB1.out (by rw [HP.out]; exact O5.out) g5 (fun k e => e) b5
            clear O5 G5 NN5 B5
            go_wp2
            go_roundw
            case rel => exact ⟨j + 1, _, by omega, by go_num, HST.out⟩
            case measure => simp [intOf]; omega
        · have hcp : ¬ co = p := by omega
          have HXB : Hid (Below wr.heap.size wr (wr.alloc (.cells #[.int .i64 (nd j).kind, .int .i64 (nd j).op, .int .i64 (nd j).n, .string (nd j).text, .int .i64 k] 58)).drew) := ((Below.refl _ _).alloc (Nat.le_refl _) _).drew
          obtain ⟨x0, x1⟩ := HGR.out (wr.alloc (.cells #[.int .i64 (nd j).kind, .int .i64 (nd j).op, .int .i64 (nd j).n, .string (nd j).text, .int .i64 k] 58)).drew (HXB.out.block _ lgk)
          have HTC := hid (tail_cells (HROW.out.below HXB.out hgl) HP.out)
          have hpk1 : (p : Int) ≤ (p : Int) + (k : Int) := by omega
          go_wp2
          go_region_law (refine step_append_own_at rfl (.tmp 28) (.tmp 31) 36 rfl w.heap.size 3 i0 (.int .i64 0) 1 8 Tryd.underlying36 HHI.out.1 HHI.out.2.1 HHI.out.2.2.1 HHI.out.2.2.2 rfl (by decide) (.slice none 0 0) 0 [] (by simp [Act.eval]) (World.ownsRow_nil _ _ _ _) ⟨g, p, none⟩ k (co - p) (intRow sk) (by simp [Act.eval]) (by rw [intRow_length, HSK.out, Nat.mul_one]) HTC.out (intRow_one sk) (by unfold maxLen; omega) (by omega) (Nat.le_trans hsz HXB.out.size) ?_; intro v1 w2 o1 g1 nn1 b1; rw [List.nil_append, Nat.zero_add] at o1; have hnn : ¬ v1 = .slice none 0 0 := (fun e => hk0 (nn1.1 e).2); obtain ⟨r1, d1, rfl, _, _⟩ := RowAt.of_own o1 hnn; have HO1 := hid o1; have HG1 : Hid (World.grownBy (wr.alloc (.cells #[.int .i64 (nd j).kind, .int .i64 (nd j).op, .int .i64 (nd j).n, .string (nd j).text, .int .i64 k] 58)).drew w2 none) := g1; have HBB := hid b1; obtain ⟨y0, y1⟩ := HGR.out w2 ((HG1.out.block _ (Nat.lt_of_lt_of_le lgk HXB.out.size) (fun e => by cases e)).trans (HXB.out.block _ lgk)); clear o1 g1 nn1 b1 hnn)
          have HB1 : Hid (∀ r, (Value.slice (some ⟨r1, 0, none⟩) k d1).ownBlock = some r → wr.heap.size ≤ r) := fun r hr => by
            rcases HBB.out with h | h
            · rw [hr] at h; cases h
            · rw [hr] at h; injection h with h; have := HXB.out.size; omega
          generalize hw3 : World.setCell w2 ⟨w.heap.size, j, none⟩ (.slice (some ⟨r1, 0, none⟩) k d1) = w3
          have HW3 := hid hw3
          have hz3 : wr.heap.size ≤ w3.heap.size := by rw [← hw3]; have := HG1.out.size; have := HXB.out.size; simp only [World.setCell, Array.size_modify]; omega
          clear hw3 y0 y1
          have OWN8 : Hid (World.ownsRow (w3.alloc (.cells #[.int .i64 j] 3)) w.heap.size 3 1 (.slice (some ⟨g, 0, none⟩) p co) p (intRow sp)) := by
            refine own_keep HFR.out fun r hr => ?_
            cases hr
            rw [Below.heap_alloc w3 _ g (Nat.lt_of_lt_of_le hgl hz3), ← HW3.out, Below.heap_setCell _ _ _ _ hgne, HG1.out.block g (Nat.lt_of_lt_of_le hgl HXB.out.size) (fun e => by cases e), HXB.out.block g hgl]
          go_wp2_with (at_builtin; refine wpList_append_own_at _ rfl (.tmp 36) (.tmp 38) 36 rfl w.heap.size 3 i0 (.int .i64 0) 1 8 Tryd.underlying36 HHI.out.1 HHI.out.2.1 HHI.out.2.2.1 HHI.out.2.2.2 rfl (by decide) (.slice (some ⟨g, 0, none⟩) p co) _ _ rfl OWN8.out ⟨w3.heap.size, 0, none⟩ 1 1 [.int .i64 j] rfl rfl (cell_one_new w3 _ _) (by simp [Value.oneCell']) (by unfold maxLen; omega) (by omega) (by simp; omega) ?_; intro v3 w5 o5 g5 nn5 b5; have O5 := hid o5; have G5 := hid g5; have NN5 := hid nn5; have B5 := hid b5; clear o5 g5 nn5 b5)
          have HST : Hid (KPI nd O N w.heap.size w.heap.size w w5 (j + 1) v3 (sp ++ [j])) := by
            have g5 := G5.out
            rw [← HW3.out] at g5
            have b5 := B5.out
            rw [← HW3.out] at b5
            exact KPI_step (v1 := .slice (some ⟨r1, 0, none⟩) k d1) HKP.out hlt HK3.out HK2.out hsz HXB.out (by rw [HSK.out]; exact HO1.out) HG1.out HB1.out (by rw [HP.out]; exact O5.out) g5 (fun k e => e) b5
          clear O5 G5 NN5 B5
          go_wp2
          go_roundw
          case rel => exact ⟨j + 1, _, by omega, by go_num, HST.out⟩
          case measure => simp [intOf]; omega
    · obtain rfl : j = N := by omega
      have HKG : Hid (KG wr w.heap.size j O) := by
        obtain ⟨cur, hc1, hc2, hc3⟩ := HKP.out.grid
        intro i hi
        obtain ⟨v, d1, d2, d3⟩ := hc3 i hi
        obtain ⟨⟨q1, q2⟩, _, _⟩ := d3 hi
        have hcell : wr.cell? ⟨w.heap.size, i, none⟩ = some v := by unfold World.cell?; rw [hc1]; exact d1
        rcases q2 with ⟨rfl, h0⟩ | ⟨g, cap, cur2, rfl, _, h4, h5, h6, h7, h8⟩
        · exact ⟨none, 0, by rw [hcell, h0], by omega, by omega, .inl (List.length_eq_zero_iff.1 h0)⟩
        · refine ⟨some ⟨g, 0, none⟩, cap, hcell, h5, h6, .inr ⟨g, rfl, fun q hq => ?_⟩⟩
          have : wr.cell? ⟨g, q, none⟩ = cur2[q]? := by unfold World.cell?; rw [h4]; rfl
          rw [this]
          have e : cur2.toList[q]? = (intRow (O.getD i []))[q]? := by rw [← h8, List.getElem?_take_of_lt (by omega)]
          rw [← Array.getElem?_toList, e]
          unfold intRow
          rw [List.getElem?_map, List.getElem?_eq_getElem hq, show (O.getD i []).getD q 0 = (O.getD i [])[q] by rw [List.getD_eq_getElem?_getD (l := O.getD i []), List.getElem?_eq_getElem hq]; rfl]
          rfl
      have HKB : Hid (∀ i, i < j → ∀ g n c, wr.cell? ⟨w.heap.size, i, none⟩ = some (.slice (some ⟨g, 0, none⟩) n c) → w.heap.size ≤ g) := by
        obtain ⟨cur, hc1, hc2, hc3⟩ := HKP.out.grid
        intro i hi g n c hcell
        obtain ⟨v, d1, d2, d3⟩ := hc3 i hi
        obtain ⟨⟨q1, q2⟩, _, _⟩ := d3 hi
        have hcell2 : wr.cell? ⟨w.heap.size, i, none⟩ = some v := by unfold World.cell?; rw [hc1]; exact d1
        rw [hcell2] at hcell
        injection hcell with hcell
        subst hcell
        rcases q2 with ⟨h, _⟩ | ⟨g', cap, cur2, h, h3, _⟩
        · cases h
        · cases h; exact h3
      go_wp2
      go_ret
      exact ⟨w.heap.size, rfl, Nat.le_refl _, HKG.out, HKB.out, HBW.out⟩
end Go.Proofs.YtpobfklbbkdglaaDoor
