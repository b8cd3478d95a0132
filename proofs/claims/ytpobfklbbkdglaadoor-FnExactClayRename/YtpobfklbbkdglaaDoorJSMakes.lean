import Derived.Test.YtpobfklbbkdglaaDoorJSGo
import Derived.Test.YtpobfklbbkdglaaDoorJRoot
namespace Go.Proofs.YtpobfklbbkdglaaDoor
open Go.RowKit
set_option maxRecDepth 20000
theorem KG.below {W W' : World} {gk N B : Nat} {o : List (List Nat)} (h : KG W gk N o) (hb : Below B W W') (hB : W.heap.size ≤ B) : KG W' gk N o := by
  intro i hi
  obtain ⟨ad, c, h1, h2, h3, h4⟩ := h i hi
  have l1 := World.block_lt_of_cell? W _ h1
  refine ⟨ad, c, (hb.cell (p := ⟨gk, i, none⟩) (Nat.lt_of_lt_of_le l1 hB)).trans h1, h2, h3, h4.imp_right ?_⟩
  rintro ⟨g, e, hc⟩
  refine ⟨g, e, fun j hj => ?_⟩
  have l2 := World.block_lt_of_cell? W _ (hc j hj)
  exact (hb.cell (p := ⟨g, j, none⟩) (Nat.lt_of_lt_of_le l2 hB)).trans (hc j hj)
theorem own_not_nil {W : World} {B n : Nat} {v : Value} {xs : List Value} (h : W.ownsRow B 3 1 v n xs) (hv : ¬ v = .slice none 0 0) : ∃ g c, v = .slice (some ⟨g, 0, none⟩) n c ∧ B ≤ g := by
  obtain ⟨g, c, e, hb, _⟩ := RowAt.of_own h hv
  exact ⟨g, c, e, hb⟩
set_option maxHeartbeats 2000000 in
theorem l3Makes_any (b N cap gk ck : Nat) (nd : Nat → Nd) (o : List (List Nat)) (w : World) (hN1 : 1 ≤ N) (hN : N ≤ 5000) (hb : b < w.heap.size) (hn : NodesAt w b N nd) (hg : KG w gk N o) (hck : N ≤ ck) (h24 : (nd (N - 1)).kind = 24) (hfit : ∀ i, i < N → FitAt nd o i) (hkl : ∀ k, (o.getD k []).length ≤ 5000) (hpl : ∀ k, ∀ j ∈ o.getD k [], j < N) :
    Calls Tryd.prog 45 #[.agg #[.slice (some ⟨b, 0, none⟩) N cap], .slice (some ⟨gk, 0, none⟩) N ck] w fun e w' => ∃ g c, e = .returned (.slice (some ⟨g, 0, none⟩) ((o.getD (N - 1) []).flatMap (makersOf nd o)).length c) ∧ w.heap.size ≤ g ∧ RowAt w' 3 g c ((o.getD (N - 1) []).flatMap (makersOf nd o)).length (intRow ((o.getD (N - 1) []).flatMap (makersOf nd o))) ∧ Below w.heap.size w w' := by
  have HN := hid hn
  have HG := hid hg
  have HFT := hid hfit
  have HKL := hid hkl
  have HPL := hid hpl
  have H24 := hid h24
  obtain ⟨i0, hi, hz0, hz1, hz2⟩ := info_parts info_int
  have HHI := hid (And.intro hi (And.intro hz0 (And.intro hz1 hz2)))
  clear hi hz0 hz1 hz2 hn hg hfit hkl hpl h24
  obtain ⟨fl, hfl⟩ : ∃ fl, o.getD (N - 1) [] = fl := ⟨_, rfl⟩
  obtain ⟨n1, rfl⟩ : ∃ n1, N = n1 + 1 := ⟨N - 1, by omega⟩
  rw [Nat.add_sub_cancel] at hfl H24 ⊢
  obtain ⟨ad, cf, q1, q2, q3, q4⟩ := HG.out n1 (by omega)
  rw [hfl] at q1 q2 q4 ⊢
  obtain ⟨m, hm⟩ : ∃ m, fl.length = m := ⟨_, rfl⟩
  have hm2 : m ≤ 200 := by have := (kids_file (HFT.out n1 (by omega)) H24.out).1; rw [hfl, hm] at this; exact this
  have HFP : Hid (∀ j ∈ fl, j < n1 + 1) := fun j hj => HPL.out n1 j (by rw [hfl]; exact hj)
  have HM := hid hm
  rw [hm] at q1 q2
  have HQ4 := hid q4
  have HFL := hid hfl
  clear hm q4 hfl
  have e1 : ∀ O, (w.alloc O).cell? ⟨gk, n1, none⟩ = some (.slice ad m cf) := fun O => (cell_alloc_lt w O _ _ (World.block_lt_of_cell? w _ q1)).trans q1
  have e2 : ∀ O O', ((w.alloc O).alloc O').cell? ⟨gk, n1, none⟩ = some (.slice ad m cf) := fun O O' => (cell_alloc_lt _ O' _ _ (by have := World.block_lt_of_cell? w _ q1; simp at this ⊢; omega)).trans (e1 O)
  go_enter Tryd.func45, Tryd.ntmps45
  go_wp2
  have HB0 : Hid (Below (w.heap.size + 1) (w.alloc (.cells #[.slice (some ⟨b, 0, none⟩) (n1 + 1) cap] 31)) ((w.alloc (.cells #[.slice (some ⟨b, 0, none⟩) (n1 + 1) cap] 31)).alloc (.cells #[] 3))) := (Below.refl _ _).alloc (by simp) _
  have O0 : Hid (World.ownsRow ((w.alloc (.cells #[.slice (some ⟨b, 0, none⟩) (n1 + 1) cap] 31)).alloc (.cells #[] 3)) (w.heap.size + 1) 3 1 (.slice (some ⟨w.heap.size + 1, 0, none⟩) 0 0) 0 []) := by
    have := World.ownsRow_made (base := w.heap.size + 1) (e := 3) (size := 1) (w.alloc (.cells #[.slice (some ⟨b, 0, none⟩) (n1 + 1) cap] 31)) #[] 0 (by simp) (by unfold maxLen; omega) rfl
    rw [World.size_alloc] at this
    exact this
  clear e1 e2
  go_loopw [5, 7] (fun vo i wr => ∃ (j : Nat) (g c : Nat), j ≤ m ∧ i = .int .i64 j ∧ vo = .slice (some ⟨g, 0, none⟩) ((fl.take j).flatMap (makersOf nd o)).length c ∧ World.ownsRow wr (w.heap.size + 1) 3 1 vo ((fl.take j).flatMap (makersOf nd o)).length (intRow ((fl.take j).flatMap (makersOf nd o))) ∧ Below (w.heap.size + 1) (w.alloc (.cells #[.slice (some ⟨b, 0, none⟩) (n1 + 1) cap] 31)) wr) (fun _ i _ => m - (intOf i).toNat)
  case atStart => exact ⟨0, w.heap.size + 1, 0, Nat.zero_le _, rfl, rfl, O0.out, HB0.out⟩
  case round =>
    obtain ⟨j, g, c, hj, rfl, rfl, hown, hbw⟩ := hrel
    have HO := hid hown
    have HBW := hid hbw
    have t0 := tree_cell hbw
    have HB := hid (btree hbw)
    clear hown hbw HB0 O0
    by_cases hlt : j < m
    · have hpl := HQ4.out
      rcases hpl with e | ⟨gf, rfl, hc⟩
      · have := HM.out; rw [e] at this; simp at this; omega
      obtain ⟨y, hy⟩ : ∃ y, fl[j]? = some y := ⟨_, List.getElem?_eq_getElem (by have := HM.out; omega)⟩
      have c0 := hc j (by have := HM.out; omega)
      have lgf := World.block_lt_of_cell? w _ c0
      rw [List.getD_eq_getElem?_getD, hy] at c0
      simp only [Option.getD_some] at c0
      have c0 := (HB.out.cell (p := ⟨gf, j, none⟩) lgf).trans c0
      have hyN := HFP.out y (List.mem_of_getElem? hy)
      have HTK : Hid ((fl.take (j + 1)).flatMap (makersOf nd o) = (fl.take j).flatMap (makersOf nd o) ++ makersOf nd o y) := by
        show _ = _
        rw [List.take_succ_eq_append_getElem (by have := HM.out; omega), (List.getElem?_eq_some_iff.1 hy).2, List.flatMap_append]
        simp
      have hml : ((fl.take j).flatMap (makersOf nd o)).length ≤ 1000000 := by
        have e : ∀ l : List Nat, (l.flatMap (makersOf nd o)).length ≤ l.length * 5000 := fun l => by
          induction l with
          | nil => simp
          | cons a l ih =>
            rw [List.flatMap_cons, List.length_append, List.length_cons]
            have : (makersOf nd o a).length ≤ 5000 := by
              unfold makersOf
              split
              · simp
              · split
                · exact HKL.out a
                · simp
            omega
        have := e (fl.take j)
        rw [List.length_take] at this
        omega
      generalize (fl.take j).flatMap (makersOf nd o) = ms at *
      obtain ⟨nm, hnm⟩ : ∃ nm, ms.length = nm := ⟨_, rfl⟩
      have HNM := hid hnm
      rw [hnm] at hml HO ⊢
      obtain ⟨a0, a1, a2, a3, a4⟩ := (HN.out.below HB.out hb) y hyN
      clear hc hy hnm
      by_cases h20 : (nd y).kind = 20 ∨ (nd y).kind = 21
      · have HM2 : Hid (makersOf nd o y = [y]) := by show _ = _; unfold makersOf; rw [if_pos h20]
        rcases h20 with h20 | h20
        all_goals
          rw [h20] at a0
          clear h20
          go_wp2
          go_region
          have HBD := hid HBW.out.drew
          have HOD : Hid (World.ownsRow wr.drew (w.heap.size + 1) 3 1 (.slice (some ⟨g, 0, none⟩) nm c) nm (intRow ms)) := HO.out
          have c0 : wr.drew.cell? ⟨gf, j, none⟩ = some (.int .i64 (y : Nat)) := c0
          clear HBW HO HB a0 a1 a2 a3 a4 t0
          generalize wr.drew = w2 at *
          have hsz2 := HBD.out.size
          have t0 := tree_cell HBD.out
          have HB := hid (btree HBD.out)
          go_wp2_with (at_builtin; refine wpList_append_own_at _ rfl (.tmp 33) (.tmp 38) 36 rfl (w.heap.size + 1) 3 i0 (.int .i64 0) 1 8 Tryd.underlying36 HHI.out.1 HHI.out.2.1 HHI.out.2.2.1 HHI.out.2.2.2 rfl (by decide) (.slice (some ⟨g, 0, none⟩) nm c) _ _ rfl (own_two HOD.out _) ⟨w2.heap.size, 0, none⟩ 1 1 [.int .i64 y] rfl rfl (cell_one_new w2 _ _) (by simp [Value.oneCell']) (by unfold maxLen; omega) (by omega) (by simp at hsz2 ⊢; omega) ?_; intro v5 w5 o5 g5 nn5 b5; have O5 := hid o5; have G5 := hid g5; have NN5 := hid (some_not_nil nn5); clear o5 g5 nn5 b5)
          obtain ⟨g6, c6, rfl, hb6⟩ := own_not_nil O5.out NN5.out
          have HB5 : Hid (Below (w.heap.size + 1) (w.alloc (.cells #[.slice (some ⟨b, 0, none⟩) (n1 + 1) cap] 31)) w5) := (HBD.out.alloc (by simp at hsz2 ⊢; omega) _).grown G5.out (by simp at hsz2 ⊢; omega) (fun q e => by simp [Value.ownBlock] at e; have := own_lt HOD.out (r := g) rfl; omega)
          clear G5 NN5
          go_wp2
          go_roundw
          case rel =>
            refine ⟨j + 1, g6, c6, by omega, by go_num, ?_, ?_, HB5.out⟩
            · rw [HTK.out, HM2.out, List.length_append, HNM.out]; rfl
            · rw [HTK.out, HM2.out, List.length_append, HNM.out, intRow_append]
              exact O5.out
          case measure => simp [intOf]; omega
      by_cases h23 : (nd y).kind = 23
      · obtain ⟨kl, hkl'⟩ : ∃ kl, o.getD y [] = kl := ⟨_, rfl⟩
        have HM2 : Hid (makersOf nd o y = kl) := by show _ = _; unfold makersOf; rw [if_neg h20, if_pos h23, hkl']
        obtain ⟨ay, cy, s1, s2, s3, s4⟩ := HG.out y hyN
        have hly5 := HKL.out y
        have hne : kl ≠ [] := by
          intro e
          have h1 := (HFT.out y hyN).2
          rw [hkl', e] at h1
          rcases h1 with h | h | h | h | h | h | h | h | h | h | h | h
          all_goals simp at h
          all_goals omega
        rw [hkl'] at s1 s2 s4 hly5
        obtain ⟨gy, rfl, s5⟩ := s4.resolve_left hne
        have lgy := World.block_lt_of_cell? w _ (s5 0 (List.length_pos_iff.2 hne))
        have s1 := (HB.out.cell (p := ⟨gk, y, none⟩) (World.block_lt_of_cell? w _ s1)).trans s1
        obtain ⟨ly, hly⟩ : ∃ ly, kl.length = ly := ⟨_, rfl⟩
        have HLY := hid hly
        have HS5 := hid s5
        rw [hly] at s1 s2 hly5
        rw [h23] at a0
        clear h20 h23 hkl' s4 s5 hne hly
        · go_wp2
          go_region
          have s1 : wr.drew.cell? ⟨gk, y, none⟩ = some (.slice (some ⟨gy, 0, none⟩) ly cy) := s1
          have HBD := hid HBW.out.drew
          have HOD : Hid (World.ownsRow wr.drew (w.heap.size + 1) 3 1 (.slice (some ⟨g, 0, none⟩) nm c) nm (intRow ms)) := HO.out
          have c0 : wr.drew.cell? ⟨gf, j, none⟩ = some (.int .i64 (y : Nat)) := c0
          clear HBW HO HB a0 a1 a2 a3 a4 t0
          generalize wr.drew = w2 at *
          have hsz2 := HBD.out.size
          have t0 := tree_cell HBD.out
          have HB := hid (btree HBD.out)
          have HKC : Hid (∀ q u, (intRow kl)[q]? = some u → w2.cell? ((⟨gy, 0, none⟩ : Addr).add q) = some u) := fun q u hq => by
            have hl := (List.getElem?_eq_some_iff.1 hq).1
            rw [intRow_length] at hl
            have e1 : ((⟨gy, 0, none⟩ : Addr).add q) = ⟨gy, q, none⟩ := by unfold Addr.add; simp; intro h; exact h.symm
            rw [e1, HB.out.cell (p := ⟨gy, q, none⟩) lgy, HS5.out q hl, ← hq]
            unfold intRow
            rw [List.getElem?_map, List.getElem?_eq_getElem hl, show kl.getD q 0 = kl[q] by rw [List.getD_eq_getElem?_getD, List.getElem?_eq_getElem hl]; rfl]
            rfl
          go_wp2_with (at_builtin; refine wpList_append_own_at _ rfl (.tmp 42) (.tmp 49) 36 rfl (w.heap.size + 1) 3 i0 (.int .i64 0) 1 8 Tryd.underlying36 HHI.out.1 HHI.out.2.1 HHI.out.2.2.1 HHI.out.2.2.2 rfl (by decide) (.slice (some ⟨g, 0, none⟩) nm c) _ _ rfl HOD.out ⟨gy, 0, none⟩ ly cy (intRow kl) rfl (by rw [intRow_length, HLY.out, Nat.mul_one]) HKC.out (intRow_one kl) (by unfold maxLen; omega) (by omega) (by simp at hsz2 ⊢; omega) ?_; intro v5 w5 o5 g5 nn5 b5; have O5 := hid o5; have G5 := hid g5; have NN5 := hid (some_not_nil nn5); clear o5 g5 nn5 b5)
          obtain ⟨g6, c6, rfl, hb6⟩ := own_not_nil O5.out NN5.out
          have HB5 : Hid (Below (w.heap.size + 1) (w.alloc (.cells #[.slice (some ⟨b, 0, none⟩) (n1 + 1) cap] 31)) w5) := HBD.out.grown G5.out (by simp at hsz2 ⊢; omega) (fun q e => by simp [Value.ownBlock] at e; have := own_lt HOD.out (r := g) rfl; omega)
          clear G5 NN5
          go_wp2
          go_roundw
          case rel =>
            refine ⟨j + 1, g6, c6, by omega, by go_num, ?_, ?_, HB5.out⟩
            · rw [HTK.out, HM2.out, List.length_append, HNM.out, HLY.out]
            · rw [HTK.out, HM2.out, List.length_append, HNM.out, HLY.out, intRow_append]
              exact O5.out
          case measure => simp [intOf]; omega
      · have HM2 : Hid (makersOf nd o y = []) := by show _ = _; unfold makersOf; rw [if_neg h20, if_neg h23]
        have q5 : ((nd y).kind == 20) = false := by rw [beq_eq_false_iff_ne]; omega
        have q6 : ((nd y).kind == 21) = false := by rw [beq_eq_false_iff_ne]; omega
        have q7 : ((nd y).kind == 23) = false := by rw [beq_eq_false_iff_ne]; omega
        clear h20 h23
        have HBD := hid HBW.out.drew
        have HOD : Hid (World.ownsRow wr.drew (w.heap.size + 1) 3 1 (.slice (some ⟨g, 0, none⟩) nm c) nm (intRow ms)) := HO.out
        go_wp2
        go_region
        go_wp2
        go_roundw
        case rel =>
          refine ⟨j + 1, g, c, by omega, by go_num, ?_, ?_, HBD.out⟩
          · rw [HTK.out, HM2.out, List.append_nil, HNM.out]
          · rw [HTK.out, HM2.out, List.append_nil, HNM.out]
            exact HOD.out
        case measure => simp [intOf]; omega
    · obtain rfl : j = m := by omega
      have e : fl.take j = fl := List.take_of_length_le (by have := HM.out; omega)
      rw [e] at HO ⊢
      obtain ⟨h1, ⟨h2, _⟩ | ⟨g', c', cur, h2, h3, h4, h5, h6, h7, h8⟩⟩ := HO.out
      · cases h2
      cases h2
      have HROW : Hid (RowAt wr 3 g c (fl.flatMap (makersOf nd o)).length (intRow (fl.flatMap (makersOf nd o)))) := ⟨by simp [intRow], h5, h6, cur, h4, by omega, by rw [Nat.mul_one] at h8; exact h8⟩
      have HGE : Hid (w.heap.size ≤ g) := by show _ ≤ _; omega
      clear h1 h3 h4 h5 h6 h7 h8 e
      go_wp2
      go_ret
      exact ⟨g, c, rfl, HGE.out, HROW.out, HB.out⟩
end Go.Proofs.YtpobfklbbkdglaaDoor
