import Derived.Test.YtdhcjmlcpnljiaaDoorMSOne2
import Derived.Test.YtdhcjmlcpnljiaaDoorSScan
namespace Go.Proofs.YtdhcjmlcpnljiaaDoor
open Go.RowKit
set_option maxRecDepth 20000
/-- A token as the cells of a struct; a list of them, one behind the other. -/
def mtokCells (t : MTok) : List Value := [.int .i64 t.kind, .string ⟨t.text.toArray⟩, .int .i64 t.ty, .int .i64 t.n, .int .i64 t.place]
def mtokRow (ts : List MTok) : List Value := ts.flatMap mtokCells
theorem mtokRow_snoc (ts : List MTok) (t : MTok) : mtokRow (ts ++ [t]) = mtokRow ts ++ mtokCells t := by simp [mtokRow]
theorem mtokRow_length (ts : List MTok) : (mtokRow ts).length = ts.length * 5 := by
  induction ts with
  | nil => rfl
  | cons t ts ih => simp [mtokRow, mtokCells] at *; omega
theorem info_mtok : (Tryd.prog.info? 39).map (fun i => (i.zero, i.size, i.bytes)) = some (some (.agg #[.int .i64 0, .string ⟨#[]⟩, .int .i64 0, .int .i64 0, .int .i64 0]), 5, 48) := by kernel_rfl
theorem cell_five_new (w : World) (a b c d e : Value) (t : TypeId) : ∀ j u, [a, b, c, d, e][j]? = some u → (w.alloc (.cells #[a, b, c, d, e] t)).cell? ((⟨w.heap.size, 0, none⟩ : Addr).add j) = some u := by
  intro j u hj
  have h : (w.alloc (.cells #[a, b, c, d, e] t)).cell? ⟨w.heap.size, j, none⟩ = #[a, b, c, d, e][j]? := cell_new_row w _ t j
  have e : ((⟨w.heap.size, 0, none⟩ : Addr).add j) = ⟨w.heap.size, j, none⟩ := by unfold Addr.add; simp; intro h; exact h.symm
  rw [e, h, ← hj]; simp
theorem cell_five_new1 (w : World) (X : Obj) (a b c d e : Value) (t : TypeId) : ∀ j u, [a, b, c, d, e][j]? = some u → ((w.alloc X).alloc (.cells #[a, b, c, d, e] t)).cell? ((⟨w.heap.size + 1, 0, none⟩ : Addr).add j) = some u := by
  intro j u hj
  have h := cell_five_new (w.alloc X) a b c d e t j u hj
  rw [World.size_alloc] at h
  exact h
/-- The cells of the fault that the call hands back, in a later world. -/
theorem mflt_cells {w w1 : World} (h : Below (w.heap.size + 1) (w.alloc (.cells #[.int .i64 0, .int .i64 0] 24)) w1) :
    w1.cell? ⟨w.heap.size, 0, none⟩ = some (.int .i64 0) ∧ w1.cell? ⟨w.heap.size, 1, none⟩ = some (.int .i64 0) ∧ w1.frozen? ⟨w.heap.size, 0, none⟩ = false ∧ w1.frozen? ⟨w.heap.size, 1, none⟩ = false := by
  refine ⟨?_, ?_, ?_, ?_⟩
  · rw [h.cell (p := ⟨w.heap.size, 0, none⟩) (Nat.lt_succ_self _), cell_new_row]; rfl
  · rw [h.cell (p := ⟨w.heap.size, 1, none⟩) (Nat.lt_succ_self _), cell_new_row]; rfl
  · rw [h.frozen (p := ⟨w.heap.size, 0, none⟩) (Nat.lt_succ_self _)]; simp
  · rw [h.frozen (p := ⟨w.heap.size, 1, none⟩) (Nat.lt_succ_self _)]; simp
set_option maxHeartbeats 1000000 in
theorem mScan_long (s : ByteArray) (w : World) (hs : s.size ≤ maxLen) (hl : 12000 < s.size) :
    Calls Tryd.prog 5 #[.string s] w fun e w' => ∃ v, e = .returned (.tuple #[v, .agg #[.int .i64 1, .int .i64 0]]) ∧ w'.ownsRow w.heap.size 39 5 v 0 [] ∧ Below w.heap.size w w' := by
  unfold maxLen at hs
  go_enter Tryd.func5, Tryd.ntmps5
  go_wp2
  refine bodyPost_ret (v := .tuple #[.slice (some ⟨w.heap.size + 1, 0, none⟩) 0 0, .agg #[.int .i64 1, .int .i64 0]]) (by simp [results, Tryd.results5, go_sem]) rfl ⟨_, rfl, ?_, ?_⟩
  · have h := World.ownsRow_made (w.alloc (Obj.cells #[Value.int IntKind.i64 1, Value.int IntKind.i64 0] 24)) (base := w.heap.size) (e := 39) (size := 5) #[] 0 (by simp) (by unfold maxLen; omega) rfl
    rw [World.size_alloc] at h
    exact h
  · exact ((Below.refl w.heap.size w).alloc (Nat.le_refl _) _).alloc (by simp) _
set_option maxHeartbeats 2000000 in
theorem mScan_any (s : ByteArray) (w : World) (hl : s.size ≤ 12000) :
    Calls Tryd.prog 5 #[.string s] w fun e w' => ∃ v, e = .returned (.tuple #[v, .agg #[.int .i64 (mscanR s.data.toList).2.1, .int .i64 (mscanR s.data.toList).2.2]]) ∧
      w'.ownsRow w.heap.size 39 5 v (mscanR s.data.toList).1.length (mtokRow (mscanR s.data.toList).1) ∧ Below w.heap.size w w' := by
  generalize hR : mscanR s.data.toList = R
  have HR := hid hR
  clear hR
  obtain ⟨i0, hi, hz0, hz1, hz2⟩ := info_parts info_mtok
  have HHI := hid (And.intro hi (And.intro hz0 (And.intro hz1 hz2)))
  clear hi hz0 hz1 hz2
  have HSZ : Hid (s.data.toList.length = s.size) := len_size s
  go_enter Tryd.func5, Tryd.ntmps5
  go_wp2
  go_loopw [4, 5] (fun v i wr => ∃ (p f : Nat) (pre : List MTok), i = .int .i64 p ∧ p ≤ s.size ∧ s.size - p < f ∧ pre.length ≤ p ∧ wr.ownsRow (w.heap.size + 1) 39 5 v pre.length (mtokRow pre) ∧
      Below (w.heap.size + 1) (w.alloc (.cells #[.int .i64 0, .int .i64 0] 24)) wr ∧ mscanRest s.data.toList f (p + gapN false (s.data.toList.drop p)) pre) (fun _ i _ => s.size - (intOf i).toNat)
  case atStart =>
    refine ⟨0, s.data.toList.length + 1, [], rfl, Nat.zero_le _, by rw [len_size]; omega, Nat.zero_le _, ?_, ?_, by unfold mscanRest; simp⟩
    · have h := World.ownsRow_made (w.alloc (Obj.cells #[Value.int IntKind.i64 0, Value.int IntKind.i64 0] 24)) (base := w.heap.size + 1) (e := 39) (size := 5) #[] 0 (by simp) (by unfold maxLen; omega) rfl
      rw [World.size_alloc] at h
      exact h
    · exact (Below.refl _ _).alloc (by simp) _
  case round =>
    obtain ⟨p, f, pre, rfl, hp, hf, hpre, hown, hbel, hrest⟩ := hrel
    have OWN := hid hown
    have HB := hid hbel
    have HREST := hid hrest
    clear hown hbel hrest
    have hsz := HB.out.size
    rw [World.size_alloc] at hsz
    by_cases hlt : p < s.size
    · have hlt' : p < s.data.toList.length := by rw [len_size]; exact hlt
      by_cases c3 : s[p].toNat = 32 ∨ s[p].toNat = 10
      · have HX : Hid (p + gapN false (s.data.toList.drop p) = p + 1 + gapN false (s.data.toList.drop (p + 1))) := by
          have := gf_blank _ p hlt' (by rw [get_eq s p hlt]; exact c3)
          show _ = _; omega
        have NEXT := HREST.out
        rw [HX.out] at NEXT
        have HN := hid NEXT
        clear NEXT
        by_cases c4 : s[p].toNat = 32
        · have c4' : ((s[p].toNat : Int) == 32) = true := by rw [beq_iff_eq]; omega
          clear c3 c4
          go_wp2
          go_roundw
          case rel => exact ⟨p + 1, f, pre, by go_num, by omega, by omega, by omega, OWN.out, HB.out, HN.out⟩
          case measure => simp [intOf]; omega
        · have c4' : ((s[p].toNat : Int) == 32) = false := by rw [beq_eq_false_iff_ne]; omega
          have c5' : ((s[p].toNat : Int) == 10) = true := by rw [beq_iff_eq]; omega
          clear c3 c4
          go_wp2
          go_roundw
          case rel => exact ⟨p + 1, f, pre, by go_num, by omega, by omega, by omega, OWN.out, HB.out, HN.out⟩
          case measure => simp [intOf]; omega
      · have c4' : ((s[p].toNat : Int) == 32) = false := by rw [beq_eq_false_iff_ne]; omega
        have c5' : ((s[p].toNat : Int) == 10) = false := by rw [beq_eq_false_iff_ne]; omega
        by_cases c1 : s[p].toNat = 35
        · have c1' : ((s[p].toNat : Int) == 35) = true := by rw [beq_iff_eq]; omega
          generalize hT : p + gapN false (s.data.toList.drop p) = T at *
          have HG : Hid (p + gapN true (s.data.toList.drop p) = T) := by
            show _ = _; rw [← gf_note _ p hlt' (by rw [get_eq s p hlt]; exact c1)]; exact hT
          have C1 : Hid (s[p].toNat = 35) := c1
          clear c1 c3 hT
          go_wp2
          go_loop [5] (fun i => ∃ m : Nat, p ≤ m ∧ m ≤ s.size ∧ i = .int .i64 m ∧ m + gapN true (s.data.toList.drop m) = T) (fun i => s.size - (intOf i).toNat)
          case atStart => exact ⟨p, Nat.le_refl _, hp, rfl, HG.out⟩
          case round =>
            obtain ⟨m, hkm, hm, rfl, hr2⟩ := hrel
            have HR2 : Hid (m + gapN true (s.data.toList.drop m) = T) := hr2
            clear hr2
            by_cases hml : m < s.size
            · have hl2 : m < s.data.toList.length := by rw [HSZ.out]; exact hml
              by_cases c2 : s[m].toNat = 10
              · have c2' : ((s[m].toNat : Int) != 10) = false := by simp; omega
                have hne : p < m := by
                  rcases Nat.lt_or_eq_of_le hkm with h | h
                  · exact h
                  · subst h; have := C1.out; omega
                have HX : Hid (m + gapN false (s.data.toList.drop m) = T) := by
                  show _ = _; rw [← gt_nl _ m hl2 (by rw [get_eq s m hml]; exact c2)]; exact HR2.out
                clear c2
                go_wp2
                go_roundw
                case rel => exact ⟨m, f, pre, rfl, hm, by omega, by omega, OWN.out, HB.out, by rw [HX.out]; exact HREST.out⟩
                case measure => simp [intOf]; omega
              · have c2' : ((s[m].toNat : Int) != 10) = true := by simp; omega
                have HX : Hid (m + 1 + gapN true (s.data.toList.drop (m + 1)) = T) := by
                  have := gt_step _ m hl2 (by rw [get_eq s m hml]; exact c2)
                  have h2 := HR2.out
                  show _ = _; omega
                clear c2
                go_wp2
                go_round
                case rel => exact ⟨m + 1, by omega, by omega, by go_num, HX.out⟩
                case measure => simp [intOf]; omega
            · have HX : Hid (m + gapN false (s.data.toList.drop m) = T) := by
                have := g_end true s.data.toList m (by rw [HSZ.out]; omega)
                have h3 := g_end false s.data.toList m (by rw [HSZ.out]; omega)
                have h2 := HR2.out
                show _ = _; omega
              go_wp2
              go_roundw
              case rel => exact ⟨m, f, pre, rfl, hm, by omega, by omega, OWN.out, HB.out, by rw [HX.out]; exact HREST.out⟩
              case measure => simp [intOf]; omega
        · have c1' : ((s[p].toNat : Int) == 35) = false := by rw [beq_eq_false_iff_ne]; omega
          have HX : Hid (p + gapN false (s.data.toList.drop p) = p) := by
            have := gf_stop _ p hlt' (by rw [get_eq s p hlt]; exact c1) (by rw [get_eq s p hlt]; omega) (by rw [get_eq s p hlt]; omega)
            show _ = _; omega
          rw [HX.out] at HREST
          clear c1 c3 HX
          obtain ⟨f, rfl⟩ : ∃ f', f = f' + 1 := ⟨f - 1, by omega⟩
          generalize hO : mone (s.data.toList.drop p) = O
          have HO := hid hO
          clear hO
          by_cases hc : O.code = 0
          · have HV : Hid (moneV O p = .tuple #[.agg #[.int .i64 O.kind, .string ⟨O.text.toArray⟩, .int .i64 O.ty, .int .i64 O.n, .int .i64 p], .int .i64 (p + O.size), .int .i64 0]) := if_pos hc
            have hs1 := mone_size (s.data.toList.drop p) (by rw [HO.out]; exact hc)
            rw [HO.out, List.length_drop, len_size] at hs1
            obtain ⟨hs1, hs2⟩ := hs1
            have hs3 : p + O.size ≤ s.size := by omega
            have NEXT := hid (mscanRest_go HREST.out hlt' (by rw [HO.out]; exact hc))
            rw [HO.out] at NEXT
            clear hc
            go_wp2_with (first
              | (go_at_call 17; refine (l10One_any s p _ hl hlt).mono ?_; rintro e w1 ⟨rfl, hb⟩; rw [HO.out, HV.out]; have HB1 := hid hb; clear hb; have hz1 := HB1.out.size)
              | (at_builtin; refine wpList_append_own _ rfl (.tmp 60) (.tmp 62) 22 rfl (w.heap.size + 1) 39 i0 (.agg #[.int .i64 0, .string ⟨#[]⟩, .int .i64 0, .int .i64 0, .int .i64 0]) 5 48 Tryd.underlying22 HHI.out.1 HHI.out.2.1 HHI.out.2.2.1 HHI.out.2.2.2 rfl (by decide) _ _ _ rfl (((own_below OWN.out HB1.out).alloc _).alloc _) ⟨w1.heap.size + 1, 0, none⟩ 1 1 [.int .i64 O.kind, .string ⟨O.text.toArray⟩, .int .i64 O.ty, .int .i64 O.n, .int .i64 p] rfl rfl (cell_five_new1 _ _ _ _ _ _ _ _) (by simp [Value.oneCell']) (by unfold maxLen; omega) (by omega) (by simp; omega) ?_; intro v' w2 hown' hgrow _))
            have R1 : Hid (w2.ownsRow (w.heap.size + 1) 39 5 v' (pre ++ [MTok.mk O.kind O.text O.ty O.n p]).length (mtokRow (pre ++ [MTok.mk O.kind O.text O.ty O.n p]))) := by
              show World.ownsRow _ _ _ _ _ _ _; rw [mtokRow_snoc, List.length_append]; exact hown'
            have R2 := hid ((((HB.out.trans (HB1.out.mono hsz)).alloc (by omega) _).alloc (by simp; omega) _).grown hgrow (by simp; omega) (fun k e => (OWN.out.lt k e).1))
            clear hown' hgrow
            go_wp2
            go_roundw
            case rel => exact ⟨p + O.size, f, pre ++ [MTok.mk O.kind O.text O.ty O.n p], by go_num, by omega, by omega, by simp; omega, R1.out, R2.out, NEXT.out⟩
            case measure => simp [intOf]; omega
          · have HV : Hid (moneV O p = .tuple #[.agg #[.int .i64 0, .string ⟨#[]⟩, .int .i64 0, .int .i64 0, .int .i64 0], .int .i64 p, .int .i64 O.code]) := if_neg hc
            have HE : Hid (R = ([], O.code, p)) := by
              show _ = _; rw [← HR.out, mscanRest_bad HREST.out hlt' (by rw [len_size]; exact hl) (by rw [HO.out]; exact hc), HO.out]
            have hc' : ((O.code : Int) != 0) = true := by simp; omega
            have hRe := HE.out
            subst hRe
            clear hc HE HR
            go_wp2_with (first
              | (go_at_call 17; refine (l10One_any s p _ hl hlt).mono ?_; rintro e w1 ⟨rfl, hb⟩; rw [HO.out, HV.out]; have HB1 := hid (HB.out.trans (hb.mono hsz)); have hz1 : w.heap.size + 1 ≤ w1.heap.size := Nat.le_trans hsz hb.size; have hz2 : w.heap.size < w1.heap.size := hz1; clear hb; obtain ⟨k0, k1, k2, k3⟩ := mflt_cells HB1.out))
            refine bodyPost_ret (v := .tuple #[.slice (some ⟨w1.heap.size + 1, 0, none⟩) 0 0, .agg #[.int .i64 O.code, .int .i64 p]]) (by simp [results, Tryd.results5, go_sem, k0, k1, hz2]) rfl ⟨_, rfl, ?_, ?_⟩
            · have h := fun W => World.ownsRow_made (w := World.alloc W (.cells #[.int .i64 0, .string ⟨#[]⟩, .int .i64 0, .int .i64 0, .int .i64 0] 39)) (base := w.heap.size) (e := 39) (size := 5) #[] 0
              have h2 := h ((w1.setCell ⟨w.heap.size, 0, none⟩ (.int .i64 O.code)).setCell ⟨w.heap.size, 1, none⟩ (.int .i64 p)) (by simp; omega) (by unfold maxLen; omega) rfl
              simpa [mtokRow] using h2
            · refine Below.alloc (Below.alloc ?_ (by simp; omega) _) (by simp; omega) _
              exact ((((Below.refl w.heap.size w).alloc (Nat.le_refl _) _).trans (HB1.out.mono (by omega))).setCell (p := ⟨w.heap.size, 0, none⟩) (Nat.le_refl _) _).setCell (p := ⟨w.heap.size, 1, none⟩) (Nat.le_refl _) _
    · have HX : Hid (p + gapN false (s.data.toList.drop p) = p) := by
        have := g_end false s.data.toList p (by rw [len_size]; omega)
        show _ = _; omega
      rw [HX.out] at HREST
      have HE : Hid (R = (pre, 0, 0)) := by
        show _ = _; rw [← HR.out, mscanRest_end HREST.out (by rw [len_size]; omega) (by rw [len_size]; exact hl)]
      obtain ⟨k0, k1, k2, k3⟩ := mflt_cells HB.out
      have hRe := HE.out
      subst hRe
      clear HE HR HX
      go_wp2
      refine bodyPost_ret (v := .tuple #[u4, .agg #[.int .i64 0, .int .i64 0]]) (by simp [results, Tryd.results5, go_sem, k0, k1]) rfl ⟨_, rfl, ?_, ?_⟩
      · exact own_base (ownsRow_setCell_below (ownsRow_setCell_below OWN.out (a := ⟨w.heap.size, 0, none⟩) (Nat.lt_succ_self _) _) (a := ⟨w.heap.size, 1, none⟩) (Nat.lt_succ_self _) _) (by omega)
      · exact ((((Below.refl w.heap.size w).alloc (Nat.le_refl _) _).trans (HB.out.mono (by omega))).setCell (p := ⟨w.heap.size, 0, none⟩) (Nat.le_refl _) _).setCell (p := ⟨w.heap.size, 1, none⟩) (Nat.le_refl _) _
end Go.Proofs.YtdhcjmlcpnljiaaDoor
