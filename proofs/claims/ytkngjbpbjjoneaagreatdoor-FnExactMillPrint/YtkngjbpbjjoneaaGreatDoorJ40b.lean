import Derived.Test.YtkngjbpbjjoneaaGreatDoorJ39
import Derived.Test.YtkngjbpbjjoneaaGreatDoorJ28
/-! The model's MillPrint. -/
namespace Go.Proofs.YtkngjbpbjjoneaaGreatDoor.Q
open Go.RowKit Go.Shelf
set_option maxRecDepth 20000
/-- The text of a tree with these kids; nothing if it is too long. -/
def prL (nd : Nat → Nd) (N : Nat) : List UInt8 := match kidsF nd N with
  | some (O, _) => if (progT nd O (O.getD (N - 1) [])).length ≤ 12000 then progT nd O (O.getD (N - 1) []) else []
  | none => []
/-- The call answered the text of a tree. -/
def PrintIs (e : Ending) (nd : Nat → Nd) (N : Nat) : Prop := ∃ l : List UInt8, e = .returned (.string ⟨l.toArray⟩) ∧ (¬ ValidT nd N → l = []) ∧ (ValidT nd N → l = prL nd N)
theorem prL_eq {nd : Nat → Nd} {N : Nat} {O : List (List Nat)} {s : List Nat} (h : kidsF nd N = some (O, s)) : prL nd N = if (progT nd O (O.getD (N - 1) [])).length ≤ 12000 then progT nd O (O.getD (N - 1) []) else [] := by unfold prL; rw [h]
theorem progT_snoc (nd : Nat → Nd) (O : List (List Nat)) (ks : List Nat) (k : Nat) : progT nd O (ks ++ [k]) = progT nd O ks ++ (fnT nd O k ++ [10]) := by simp [progT, List.flatMap_append]
set_option maxHeartbeats 4000000 in
theorem specPrint_all (b N cap : Nat) (nd : Nat → Nd) (w : World) (hN : N ≤ 1048576) (hb : b < w.heap.size) (hn : NodesAt w b N nd) (hx : ∀ i, i < N → (nd i).text.size ≤ maxLen) :
    Calls Tryz.prog 5 #[.agg #[.slice (some ⟨b, 0, none⟩) N cap]] w fun e w' => PrintIs e nd N ∧ Below w.heap.size w w' := by
  have HX := hid hx
  have HN := hid hn
  have HB0 := hid (Below.refl (w.heap.size + 1) (w.alloc (.cells #[.slice (some ⟨b, 0, none⟩) N cap] 29)))
  have HST : Hid (∀ V V', Below (w.heap.size + 1) (w.alloc (.cells #[.slice (some ⟨b, 0, none⟩) N cap] 29)) V → Below V.heap.size V V' → Below (w.heap.size + 1) (w.alloc (.cells #[.slice (some ⟨b, 0, none⟩) N cap] 29)) V') := fun V V' h h2 => h.trans (h2.mono (by have := h.size; simpa using this))
  obtain ⟨i0, hi, hz0, hz1, hz2⟩ := info_parts (P := Tryz.prog) (e := 5) (z := .int .u8 0) (size := 1) (bytes := 1) (by kernel_rfl)
  have HHI := hid (And.intro hi (And.intro hz0 (And.intro hz1 hz2)))
  clear hx hn hi hz0 hz1 hz2
  go_enter Tryz.func5, Tryz.ntmps5
  go_wp2_with fail
  refine (specValid_all b N cap nd _ hN (by simp; omega) (HN.out.below (btree HB0.out) hb) HX.out).mono ?_
  rintro e w1 ⟨hs, hb1⟩
  have HB1 := hid (HST.out _ _ HB0.out hb1)
  have t1 := tree_cell HB1.out
  clear hb1
  rcases hs.get with ⟨rfl, hv⟩ | ⟨rfl, hv⟩
  · have HV := hid hv
    obtain ⟨hN1, hN2, h24, O, x, hkf0, hfit⟩ := hv
    have HG : Hid (Good nd O N) := ⟨hN2, ⟨_, hkf0⟩, fun i hi => (hfit i hi).2⟩
    have HK0 := hid hkf0
    have hbl1 : b < w1.heap.size := by have := HB1.out.size; simp at this; omega
    clear hs hkf0 hfit
    go_wp2_with fail
    refine (l11Kids_any b N cap nd _ hN1 hN2 hbl1 (HN.out.below (btree HB1.out) hb)).mono ?_
    rintro e w2 ⟨hb2, ⟨v, rfl, hno⟩ | ⟨L, x2, go, co, rfl, hkf, hrow, hgo, hall⟩⟩
    · exact absurd HK0.out (hno _ _)
    · have hLO : L.map (fun x => x.2.2) = O := by
        have := HK0.out
        rw [hkf] at this
        injection this with this
        injection this with this
      have hLl : L.length = N := by have := (kidsF_len nd _ _ _ hkf).1; rwa [List.length_map] at this
      have HB2 := hid (HST.out _ _ HB1.out hb2)
      have t2 := tree_cell HB2.out
      have hbl2 : b < w2.heap.size := by have := hb2.size; omega
      have hgl2 := hrow.lt
      have hwz2 : w.heap.size + 1 ≤ w2.heap.size := by have := HB2.out.size; simpa using this
      have HPEN : Hid (PenAt nd O N b cap go co w2.heap.size (w2.alloc (.cells #[.slice (some ⟨b, 0, none⟩) N cap, .slice (some ⟨go, 0, none⟩) N co] 40))) := by
        have ha := (Below.refl w2.heap.size w2).alloc (Nat.le_refl _) (.cells #[.slice (some ⟨b, 0, none⟩) N cap, .slice (some ⟨go, 0, none⟩) N co] 40)
        refine ⟨by rw [cell_new_row]; rfl, by rw [cell_new_row]; rfl, by simp, by simp; omega, by simp; omega, HN.out.below ((btree HB2.out).trans (ha.mono (by omega))) hb, fun j hj => ?_⟩
        have hjL : j < L.length := by omega
        have hmem : L[j] ∈ L := List.getElem_mem hjL
        obtain ⟨_, hrk⟩ := hall _ hmem
        have e : O.getD j [] = L[j].2.2 := by rw [← hLO, List.getD_eq_getElem?_getD, List.getElem?_map, List.getElem?_eq_getElem hjL]; rfl
        refine ⟨L[j].1, L[j].2.1, ?_, ?_⟩
        · rw [ha.cell (p := ⟨go, j, none⟩) hgl2, hrow.cell j hjL, e]
          simp [gridRow, hjL]
        · rw [e]; exact hrk.below ha hrk.lt
      have HKF := hid hkf
      clear hb2 hrow hall hgo hkf
      rw [hLl]
      clear hLl hLO
      obtain ⟨M, rfl⟩ : ∃ M, N = M + 1 := ⟨N - 1, by omega⟩
      obtain ⟨gk, ck, hck, hgkl, _, HRK⟩ := HPEN.out.at (j := M) (by omega)
      have HFN : Hid (∀ k ∈ O.getD M [], (nd k).kind = 23 ∧ k < M + 1) := fun k hk => by
        have hf := (HG.out.fit M (by omega)).2
        rw [Nat.add_sub_cancel] at h24
        have hlt := HG.out.down M k hk
        obtain ⟨i, hi, rfl⟩ := mem_getD hk
        have hkind : (nd M).kind = 24 := h24
        revert hf
        revert hkind
        generalize nd M = z
        obtain ⟨zk, zo, zt, zn, ztx, zki⟩ := z
        rintro rfl hf
        exact ⟨((ko_24 _ _ _ _ _ _ _).1 hf).2.2 i hi, by omega⟩
      have hm60 : (O.getD M []).length ≤ 60 := by
        have hf := (HG.out.fit M (by omega)).2
        rw [Nat.add_sub_cancel] at h24
        have hkind : (nd M).kind = 24 := h24
        revert hf
        revert hkind
        generalize nd M = z
        obtain ⟨zk, zo, zt, zn, ztx, zki⟩ := z
        rintro rfl hf
        exact ((ko_24 _ _ _ _ _ _ _).1 hf).2.1
      have HPR := hid (prL_eq HK0.out)
      rw [Nat.add_sub_cancel] at HPR
      generalize O.getD M [] = ks at *
      have hl1 : ((M + 1 : Nat) : Int) - 1 = (M : Int) := by omega
      have hwm : wrap64 (M : Int) = (M : Int) := by unfold wrap64; omega
      clear h24
      go_wp2
      obtain ⟨w3, hw3⟩ : ∃ w3, (w2.alloc (.cells #[.slice (some ⟨b, 0, none⟩) (M + 1) cap, .slice (some ⟨go, 0, none⟩) (M + 1) co] 40)) = w3 := ⟨_, rfl⟩
      have hz3 : w3.heap.size = w2.heap.size + 1 := by rw [← hw3]; simp
      have HB3 : Hid (Below w.heap.size w w3) := by show Below _ _ _; rw [← hw3]; exact (btree HB2.out).alloc (by omega) _
      rw [hw3] at HPEN HRK hgkl
      rw [hw3]
      have HZ3 := hid hz3
      clear hw3 hz3 hck t2 t1
      go_loopw [6, 8] (fun v a wr => ∃ q : Nat, q ≤ ks.length ∧ a = .int .i64 q ∧ wr.ownsRow w3.heap.size 5 1 v (progT nd O (ks.take q)).length (Lib.byteCells (progT nd O (ks.take q))) ∧ (progT nd O (ks.take q)).length ≤ 800001000 * q ∧ Below w3.heap.size w3 wr) (fun _ a _ => ks.length - (intOf a).toNat)
      case atStart => exact ⟨0, Nat.zero_le _, rfl, by rw [← HZ3.out]; exact own_empty w3, by simp [progT], (Below.refl _ _).alloc (Nat.le_refl _) _⟩
      case round =>
        obtain ⟨q, hq, rfl, hown, hle, hbw⟩ := hrel
        have OWN := hid hown
        have HBW := hid hbw
        have hwz := hbw.size
        obtain ⟨ao0, cap0, rfl⟩ := own_slice' hown
        clear hown hbw
        by_cases hlt : q < ks.length
        · have HJ := hid (progT_snoc nd O (ks.take q) ks[q])
          rw [← List.take_succ_eq_append_getElem hlt] at HJ
          have HF := hid (HFN.out ks[q] (List.getElem_mem hlt))
          have HK1 : Hid (∀ W, Below w3.heap.size w3 W → W.cell? ⟨gk, q, none⟩ = some (.int .i64 (ks[q] : Nat))) := fun W hb => by
            rw [hb.cell (p := ⟨gk, q, none⟩) hgkl, HRK.out.cell q hlt]
            simp [intRow, hlt]
          generalize ks[q] = k at *
          have c1 := HK1.out _ HBW.out
          have hlq : 800001000 * q ≤ 800001000 * 60 := by omega
          obtain ⟨Lq, hLq⟩ : ∃ Lq, progT nd O (ks.take q) = Lq := ⟨_, rfl⟩
          rw [hLq] at HJ OWN hle ⊢
          clear hLq
          go_wp2_with (first
            | (go_at_call 12; refine (fn_any HG.out HF.out.2 HF.out.1 _ (HPEN.out.next HBW.out)).mono ?_; rintro e w4 ⟨⟨S, rfl, HY, hy⟩, hb4⟩; have HB4 := hid (HBW.out.trans (hb4.mono hwz)); have HO4 := hid (own_below OWN.out hb4); have hz4 := HB4.out.size; clear hb4)
            | (at_builtin; refine Lib.wpList_append_own_string _ rfl _ _ 41 9 rfl w3.heap.size 5 i0 Tryz.underlying41 Tryz.underlying9 HHI.out.1 HHI.out.2.1 HHI.out.2.2.1 HHI.out.2.2.2 _ _ _ rfl HO4.out S rfl (by unfold maxLen; omega) (by omega) hz4 ?_; intro v5 w5 o5 g5 _; obtain ⟨a5, c5, rfl⟩ := own_slice' o5; have HO5 := hid o5; have HB5 := hid (HB4.out.grown g5 hz4 (fun k e => (HO4.out.lt k e).1)); clear o5 g5))
          go_wp2
          go_roundw
          case rel =>
            have e5 : (fnT nd O k ++ [10]).length = S.size := by rw [← HY.out, len_size]
            refine ⟨q + 1, by omega, by go_num, ?_, ?_, HB5.out⟩
            · rw [HJ.out, List.length_append, e5]
              have := HO5.out
              rw [Lib.strCells_eq, HY.out, ← Lib.byteCells_append] at this
              exact this
            · rw [HJ.out, List.length_append, e5]
              omega
          case measure => simp [intOf]; omega
        · obtain rfl : q = ks.length := by omega
          have HT : Hid (ks.take ks.length = ks) := List.take_of_length_le (Nat.le_refl _)
          have OWN1 := OWN.out
          rw [HT.out] at OWN1 hle
          rw [HT.out]
          have hcv := conv_row wr w3.heap.size _ _ OWN1
          obtain ⟨T, hT⟩ : ∃ T, progT nd O ks = T := ⟨_, rfl⟩
          rw [hT] at hle hcv HPR ⊢
          clear OWN1 hT
          by_cases h12 : T.length ≤ 12000
          · rw [if_pos h12] at HPR
            have h12' : (T.length : Int) ≤ 12000 := by omega
            go_wp2
            go_ret
            exact ⟨⟨T, rfl, fun h => absurd HV.out h, fun _ => HPR.out.symm⟩, HB3.out.trans (HBW.out.mono (by have := HZ3.out; omega))⟩
          · rw [if_neg h12] at HPR
            have h12' : (12000 : Int) < (T.length : Int) := by omega
            go_wp2
            go_ret
            exact ⟨⟨[], rfl, fun h => absurd HV.out h, fun _ => HPR.out.symm⟩, HB3.out.trans (HBW.out.mono (by have := HZ3.out; omega))⟩
  · have HV := hid hv
    clear hs hv
    go_wp2
    go_ret
    exact ⟨⟨[], rfl, fun _ => rfl, fun h => absurd h HV.out⟩, btree HB1.out⟩
end Go.Proofs.YtkngjbpbjjoneaaGreatDoor.Q
