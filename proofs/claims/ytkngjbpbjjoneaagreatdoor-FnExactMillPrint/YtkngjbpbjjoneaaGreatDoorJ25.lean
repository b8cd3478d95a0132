import Derived.Lib.AppendStr
import Derived.Deep.RegionHeld3
import Derived.Test.YtkngjbpbjjoneaaGreatDoorJ19
import Derived.Test.YtkngjbpbjjoneaaGreatDoorJ20
import Derived.Test.YtkngjbpbjjoneaaGreatDoorJ21
/-! Printed by gen_fld.py. -/
namespace Go.Proofs.YtkngjbpbjjoneaaGreatDoor.Q
open Go.RowKit Go.Shelf
set_option maxRecDepth 20000
theorem usesFit_any (x : Nd) (r : Nat) (w : World) (ht : x.text.size ≤ maxLen) (hr : w.heap[r]? = some (.map (mwE 35) 35)) :
    Calls Tryz.prog 27 #[ndV x, .map (some r)] w fun e w' => Says e (PlainNd x) ∧ Below w.heap.size w w' := by
  obtain ⟨k, op, ty, n, t, kids⟩ := x
  have h : UF k := by
    by_cases hk : k < 1 ∨ 24 < k
    · exact us_E k hk
    · obtain rfl | rfl | rfl | rfl | rfl | rfl | rfl | rfl | rfl | rfl | rfl | rfl | rfl | rfl | rfl | rfl | rfl | rfl | rfl | rfl | rfl | rfl | rfl | rfl : k = 1 ∨ k = 2 ∨ k = 3 ∨ k = 4 ∨ k = 5 ∨ k = 6 ∨ k = 7 ∨ k = 8 ∨ k = 9 ∨ k = 10 ∨ k = 11 ∨ k = 12 ∨ k = 13 ∨ k = 14 ∨ k = 15 ∨ k = 16 ∨ k = 17 ∨ k = 18 ∨ k = 19 ∨ k = 20 ∨ k = 21 ∨ k = 22 ∨ k = 23 ∨ k = 24 := by omega
      · exact us_1
      · exact us_2
      · exact us_3
      · exact us_4
      · exact us_5
      · exact us_6
      · exact us_7
      · exact us_8
      · exact us_9
      · exact us_10
      · exact us_11
      · exact us_12
      · exact us_13
      · exact us_14
      · exact us_15
      · exact us_16
      · exact us_17
      · exact us_18
      · exact us_19
      · exact us_20
      · exact us_21
      · exact us_22
      · exact us_23
      · exact us_24
  exact h op ty n kids t r w ht hr
end Go.Proofs.YtkngjbpbjjoneaaGreatDoor.Q
/-! The model's list of E. Printed by gen_rlist.py. -/
namespace Go.Proofs.YtkngjbpbjjoneaaGreatDoor.Q
open Go.RowKit Go.Shelf
set_option maxRecDepth 20000
/-- 'append(b, s...)' of a string to a row of the call's own, as one step of a region that draws its order. -/
theorem step_append_str {P : Program} {ops : Array Oper} {o : Oper} {a : Act} {w : World} {K : Act → World → Prop} {Q : Exit → Act → World → Prop} {E : Prop} (hg : o.guard = none) (s x : Operand) (t u : TypeId)
    (hop : o.op = Op.call { callee := Callee.builtin Builtin.append, args := #[s, x], argTypes := #[t, u] })
    (base : Nat) (e : TypeId) (i : TypeInfo) (ht : P.underlying t = some (.slice e)) (hu : P.underlying u = some .string) (hi : P.info? e = some i) (hz : i.zero = some (.int .u8 0)) (hsize : i.size = 1) (hby : i.bytes = 1)
    (v : Value) (n : Nat) (xs : List Value) (hs : a.eval s = v) (hown : w.ownsRow base e 1 v n xs) (y : ByteArray) (hx : a.eval x = .string y)
    (h63 : n + y.size ≤ maxLen) (hbytes : n + y.size ≤ 140737488355328) (hbase : base ≤ w.heap.size)
    (h : ∀ v' w', w'.ownsRow base e 1 v' (n + y.size) (xs ++ Lib.strCells y) → w.grownBy w' v.ownBlock → K (a.put o.dst v') w') :
    if Region.wanted o (yielded ops a.tmps) = true then Oper.wp P o a w K Q else E := by
  have hw : Region.wanted o (yielded ops a.tmps) = true := by simp [Region.wanted, hg]
  rw [if_pos hw]
  obtain ⟨v', w', hr, h2, h3, _⟩ := Lib.run_append_own_string (P := P) w base t u o.type e i ht hu hi hz hsize hby v n xs hown y h63 hbytes hbase
  unfold Oper.wp
  simp [execOp, hop, resolve, invoke, builtin, hs, hx, hr, Result.andThen]
  exact h v' w' h2 h3
theorem own_empty (w : World) : (w.alloc (.cells #[] 5)).ownsRow w.heap.size 5 1 (.slice (some ⟨w.heap.size, 0, none⟩) 0 0) 0 [] :=
  ⟨rfl, .inr ⟨w.heap.size, 0, #[], rfl, Nat.le_refl _, heap_alloc_new w _, Nat.le_refl _, by unfold maxLen; omega, rfl, rfl⟩⟩
set_option maxHeartbeats 4000000 in
theorem list_any (pv : Value) (tv : Nat → List UInt8) (ks : List Nat) (gk ck : Nat) (w : World) (Good : World → Prop) (hG : ∀ W W', Good W → Below W.heap.size W W' → Good W') (hg : Good w) (hrow : RowAt w 3 gk ck ks.length (intRow ks)) (hn : ks.length ≤ 12001)
    (hE : ∀ k ∈ ks, ∀ W, Good W → Calls Tryz.prog 65 #[pv, .int .i64 (k : Nat)] W fun e w' => e = .returned (.string ⟨(tv k).toArray⟩) ∧ Below W.heap.size W w')
    (hlen : ∀ q, (joinOf tv (ks.take q)).length ≤ 1000000000) :
    Calls Tryz.prog 66 #[pv, .slice (some ⟨gk, 0, none⟩) ks.length ck] w fun e w' => e = .returned (.string ⟨(joinOf tv ks).toArray⟩) ∧ Below w.heap.size w w' := by
  obtain ⟨i0, hi, hz0, hz1, hz2⟩ := info_parts (P := Tryz.prog) (e := 5) (z := .int .u8 0) (size := 1) (bytes := 1) (by kernel_rfl)
  have HHI := hid (And.intro hi (And.intro hz0 (And.intro hz1 hz2)))
  have hgl := hrow.lt
  have HG : Hid (∀ W, Below w.heap.size w W → Good W) := fun W hb => hG w W hg hb
  have HE := hid hE
  have HL := hid hlen
  have HR := hid hrow
  clear hi hz0 hz1 hz2 hG hg hE hlen hrow
  go_enter Tryz.func66, Tryz.ntmps66
  go_wp2
  go_loopw [5, 6] (fun v a wr => ∃ q : Nat, q ≤ ks.length ∧ a = .int .i64 q ∧ wr.ownsRow w.heap.size 5 1 v (joinOf tv (ks.take q)).length (Lib.byteCells (joinOf tv (ks.take q))) ∧ Below w.heap.size w wr) (fun _ a _ => ks.length - (intOf a).toNat)
  case atStart => exact ⟨0, Nat.zero_le _, rfl, own_empty w, (Below.refl _ _).alloc (Nat.le_refl _) _⟩
  case round =>
    obtain ⟨q, hq, rfl, hown, hbw⟩ := hrel
    have OWN0 := hid hown
    have HBW := hid hbw
    have hwz := hbw.size
    have hll := HL.out q
    obtain ⟨ao, cap, rfl⟩ := own_slice' hown
    clear hown hbw
    by_cases hlt : q < ks.length
    · have HJ := hid (joinOf_snoc tv (ks.take q) ks[q])
      rw [← List.take_succ_eq_append_getElem hlt] at HJ
      have hl1 := HL.out (q + 1)
      have HEY := hid (HE.out ks[q] (List.getElem_mem hlt))
      have HK1 : Hid (∀ W, Below w.heap.size w W → W.cell? ⟨gk, q, none⟩ = some (.int .i64 (ks[q] : Nat))) := fun W hb => by
        rw [hb.cell (p := ⟨gk, q, none⟩) hgl, HR.out.cell q hlt]
        simp [intRow, hlt]
      generalize ks[q] = y at *
      generalize hS : (⟨(tv y).toArray⟩ : ByteArray) = S at *
      have HSs : Hid (S.size = (tv y).length) := by show _ = _; rw [← hS]; simp [ByteArray.size]
      have HSC : Hid (Lib.strCells S = Lib.byteCells (tv y)) := by
        show _ = _
        rw [Lib.strCells_eq, ← hS]
      have hc := HK1.out _ HBW.out
      clear hS
      by_cases h0 : q = 0
      · subst h0
        have HJ0 : Hid (joinOf tv (ks.take (0 + 1)) = tv y) := by have := HJ.out; rw [List.take_zero, if_pos rfl] at this; exact this
        have OWN : Hid (wr.ownsRow w.heap.size 5 1 (.slice ao ([] : List UInt8).length cap) ([] : List UInt8).length (Lib.byteCells [])) := OWN0.out
        obtain ⟨L, hL⟩ : ∃ L : List UInt8, L = [] := ⟨_, rfl⟩
        have hLle : L.length ≤ 0 := by rw [hL]; exact Nat.le_refl _
        rw [← hL] at OWN
        have hSle : S.size ≤ 1000000000 := by rw [HSs.out]; have := hl1; rw [HJ0.out] at this; exact this
        have HLE := hid hL
        clear hl1
        have hao : (Value.slice ao (joinOf tv (ks.take 0)).length cap) = .slice ao L.length cap := by rw [hL]; rfl
        rw [hao]
        clear hao hL hll
        go_wp2_with (first
          | (go_at_call 65; refine (HEY.out _ (HG.out _ HBW.out)).mono ?_; rintro e w3 ⟨rfl, hb3⟩; have HB3 := hid (HBW.out.trans (hb3.mono hwz)); have HO3 := hid (own_below OWN.out hb3); have hz3 := HB3.out.size; clear hb3)
          | (at_builtin; refine Lib.wpList_append_own_string _ rfl _ _ 41 9 rfl w.heap.size 5 i0 Tryz.underlying41 Tryz.underlying9 HHI.out.1 HHI.out.2.1 HHI.out.2.2.1 HHI.out.2.2.2 _ _ _ rfl HO3.out S rfl (by unfold maxLen; omega) (by omega) hz3 ?_; intro v4 w4 o4 g4 _; obtain ⟨a4, c4, rfl⟩ := own_slice' o4; have HO4 := hid o4; have HB4 := hid (HB3.out.grown g4 hz3 (fun k e => (HO3.out.lt k e).1)); clear o4 g4))
        go_wp2
        go_roundw
        case rel =>
          refine ⟨0 + 1, by omega, by go_num, ?_, HB4.out⟩
          rw [HJ0.out]
          have := HO4.out
          rw [HSC.out, HSs.out, HLE.out] at this
          rw [HSs.out, HLE.out]
          simpa [Lib.byteCells] using this
        case measure => simp [intOf]; omega
      · have hne : ¬ ks.take q = [] := fun e => by
          have : (ks.take q).length = 0 := by rw [e]; rfl
          rw [List.length_take] at this
          omega
        have HJ0 : Hid (joinOf tv (ks.take (q + 1)) = joinOf tv (ks.take q) ++ [44, 32] ++ tv y) := by have := HJ.out; rw [if_neg hne] at this; exact this
        obtain ⟨M, hM⟩ : ∃ M, joinOf tv (ks.take q) = M := ⟨_, rfl⟩
        rw [HJ0.out, hM] at hl1
        rw [hM] at OWN0 hll ⊢
        simp only [List.length_append, List.length_cons, List.length_nil] at hl1
        have hpos : (0 : Int) < q := by omega
        have HMM := hid hM
        clear hM hne
        go_wp2_with (at_builtin; refine Lib.wpList_append_own_string _ rfl _ _ 41 9 rfl w.heap.size 5 i0 Tryz.underlying41 Tryz.underlying9 HHI.out.1 HHI.out.2.1 HHI.out.2.2.1 HHI.out.2.2.2 _ _ _ rfl OWN0.out ⟨#[44, 32]⟩ rfl ?c3 ?c4 hwz ?_)
        case c3 => show _ + 2 ≤ _; unfold maxLen; omega
        case c4 => show _ + 2 ≤ _; omega
        intro v2 wr2 hown2 hgrow2 _
        have OWN2 : Hid (wr2.ownsRow w.heap.size 5 1 v2 (M ++ [44, 32]).length (Lib.byteCells (M ++ [44, 32]))) := by
          have := hown2
          rw [Lib.strCells_eq, ← Lib.byteCells_append] at this
          rw [List.length_append]
          exact this
        have HBW2 := hid (HBW.out.grown hgrow2 hwz (fun k e => (OWN0.out.lt k e).1))
        clear hown2 hgrow2 OWN0 HBW hwz hc
        obtain ⟨ao, cap, rfl⟩ := own_slice' OWN2.out
        have hwz := HBW2.out.size
        have hc := HK1.out _ HBW2.out
        obtain ⟨L, hL⟩ : ∃ L, M ++ [44, 32] = L := ⟨_, rfl⟩
        have hLle : L.length + S.size ≤ 1000000000 := by rw [← hL, HSs.out]; simp; omega
        clear hl1 hll
        rw [hL] at OWN2 ⊢
        have OWN := OWN2
        have HBW := HBW2
        clear OWN2 HBW2
        have HLL := hid hL
        clear hL
        go_wp2_with (first
          | (go_at_call 65; refine (HEY.out _ (HG.out _ HBW.out)).mono ?_; rintro e w3 ⟨rfl, hb3⟩; have HB3 := hid (HBW.out.trans (hb3.mono hwz)); have HO3 := hid (own_below OWN.out hb3); have hz3 := HB3.out.size; clear hb3)
          | (at_builtin; refine Lib.wpList_append_own_string _ rfl _ _ 41 9 rfl w.heap.size 5 i0 Tryz.underlying41 Tryz.underlying9 HHI.out.1 HHI.out.2.1 HHI.out.2.2.1 HHI.out.2.2.2 _ _ _ rfl HO3.out S rfl (by unfold maxLen; omega) (by omega) hz3 ?_; intro v4 w4 o4 g4 _; obtain ⟨a4, c4, rfl⟩ := own_slice' o4; have HO4 := hid o4; have HB4 := hid (HB3.out.grown g4 hz3 (fun k e => (HO3.out.lt k e).1)); clear o4 g4))
        go_wp2
        go_roundw
        case rel =>
          refine ⟨q + 1, by omega, by go_num, ?_, HB4.out⟩
          rw [HJ0.out, HMM.out, HLL.out]
          have := HO4.out
          rw [HSC.out, HSs.out, ← Lib.byteCells_append] at this
          rw [List.length_append, HSs.out]
          exact this
        case measure => simp [intOf]; omega
    · obtain rfl : q = ks.length := by omega
      have HT : Hid (ks.take ks.length = ks) := List.take_of_length_le (Nat.le_refl _)
      have OWN1 := OWN0.out
      rw [HT.out] at OWN1
      rw [HT.out]
      have hcv := conv_row wr w.heap.size _ _ OWN1
      clear OWN1 hll
      go_wp2
      go_ret
      exact ⟨rfl, HBW.out⟩
end Go.Proofs.YtkngjbpbjjoneaaGreatDoor.Q
