import Derived.Test.YtdhcjmlcpnljiaaDoorPlain2
namespace Go.Proofs.YtdhcjmlcpnljiaaDoor
open Go.RowKit
set_option maxRecDepth 20000
/-- A token as the cells of a struct; a list of them, one behind the other. -/
def tokCells (t : Tok) : List Value := [.int .i64 t.kind, .string ⟨t.text.toArray⟩, .int .i64 t.n, .int .i64 t.place]
def tokRow (ts : List Tok) : List Value := ts.flatMap tokCells
theorem tokRow_snoc (ts : List Tok) (t : Tok) : tokRow (ts ++ [t]) = tokRow ts ++ tokCells t := by simp [tokRow]
theorem tokRow_length (ts : List Tok) : (tokRow ts).length = ts.length * 4 := by
  induction ts with
  | nil => rfl
  | cons t ts ih => simp [tokRow, tokCells] at *; omega
theorem info_tok : (Tryd.prog.info? 49).map (fun i => (i.zero, i.size, i.bytes)) = some (some (.agg #[.int .i64 0, .string ⟨#[]⟩, .int .i64 0, .int .i64 0]), 4, 40) := by kernel_rfl
theorem cell_four_new (w : World) (a b c d : Value) (t : TypeId) : ∀ j u, [a, b, c, d][j]? = some u → (w.alloc (.cells #[a, b, c, d] t)).cell? ((⟨w.heap.size, 0, none⟩ : Addr).add j) = some u := by
  intro j u hj
  have h : (w.alloc (.cells #[a, b, c, d] t)).cell? ⟨w.heap.size, j, none⟩ = #[a, b, c, d][j]? := cell_new_row w _ t j
  have e : ((⟨w.heap.size, 0, none⟩ : Addr).add j) = ⟨w.heap.size, j, none⟩ := by unfold Addr.add; simp; intro h; exact h.symm
  rw [e, h, ← hj]; simp
theorem cell_four_new1 (w : World) (X : Obj) (a b c d : Value) (t : TypeId) : ∀ j u, [a, b, c, d][j]? = some u → ((w.alloc X).alloc (.cells #[a, b, c, d] t)).cell? ((⟨w.heap.size + 1, 0, none⟩ : Addr).add j) = some u := by
  intro j u hj
  have h := cell_four_new (w.alloc X) a b c d t j u hj
  rw [World.size_alloc] at h
  exact h
/-- The cells of the fault that the call hands back, in a later world. -/
theorem flt_cells {w w1 : World} (h : Below (w.heap.size + 1) (w.alloc (.cells #[.int .i64 0, .int .i64 0] 32)) w1) :
    w1.cell? ⟨w.heap.size, 0, none⟩ = some (.int .i64 0) ∧ w1.cell? ⟨w.heap.size, 1, none⟩ = some (.int .i64 0) ∧ w1.frozen? ⟨w.heap.size, 0, none⟩ = false ∧ w1.frozen? ⟨w.heap.size, 1, none⟩ = false := by
  refine ⟨?_, ?_, ?_, ?_⟩
  · rw [h.cell (p := ⟨w.heap.size, 0, none⟩) (Nat.lt_succ_self _), cell_new_row]; rfl
  · rw [h.cell (p := ⟨w.heap.size, 1, none⟩) (Nat.lt_succ_self _), cell_new_row]; rfl
  · rw [h.frozen (p := ⟨w.heap.size, 0, none⟩) (Nat.lt_succ_self _)]; simp
  · rw [h.frozen (p := ⟨w.heap.size, 1, none⟩) (Nat.lt_succ_self _)]; simp
theorem own_base {w : World} {B B' e size k : Nat} {v : Value} {xs : List Value} (h : w.ownsRow B e size v k xs) (hB : B' ≤ B) : w.ownsRow B' e size v k xs := by
  obtain ⟨h1, h2 | ⟨g, cap, cur, a, b, c⟩⟩ := h
  · exact ⟨h1, .inl h2⟩
  · exact ⟨h1, .inr ⟨g, cap, cur, a, Nat.le_trans hB b, c⟩⟩
theorem own_below {w w1 : World} {B e size k : Nat} {v : Value} {xs : List Value} (h : w.ownsRow B e size v k xs) (hb : Below w.heap.size w w1) : w1.ownsRow B e size v k xs := by
  obtain ⟨h1, h2 | ⟨g, cap, cur, a, b, c, d⟩⟩ := h
  · exact ⟨h1, .inl h2⟩
  · refine ⟨h1, .inr ⟨g, cap, cur, a, b, ?_, d⟩⟩
    have hg : g < w.heap.size := (Array.getElem?_eq_some_iff.1 c).1
    rw [hb.block g hg]; exact c
set_option maxHeartbeats 1000000 in
theorem sScan_long (s : ByteArray) (w : World) (hs : s.size ≤ maxLen) (hl : 8000 < s.size) :
    Calls Tryd.prog 11 #[.string s] w fun e w' => ∃ v, e = .returned (.tuple #[v, .agg #[.int .i64 1, .int .i64 0]]) ∧ w'.ownsRow w.heap.size 49 4 v 0 [] ∧ Below w.heap.size w w' := by
  unfold maxLen at hs
  go_enter Tryd.func11, Tryd.ntmps11
  go_wp2
  refine bodyPost_ret (v := .tuple #[.slice (some ⟨w.heap.size + 1, 0, none⟩) 0 0, .agg #[.int .i64 1, .int .i64 0]]) (by simp [results, Tryd.results11, go_sem]) rfl ⟨_, rfl, ?_, ?_⟩
  · have h := World.ownsRow_made (w.alloc (Obj.cells #[Value.int IntKind.i64 1, Value.int IntKind.i64 0] 32)) (base := w.heap.size) (e := 49) (size := 4) #[] 0 (by simp) (by unfold maxLen; omega) rfl
    rw [World.size_alloc] at h
    exact h
  · exact ((Below.refl w.heap.size w).alloc (Nat.le_refl _) _).alloc (by simp) _
set_option maxHeartbeats 1000000 in
theorem sScan_any (s : ByteArray) (w : World) (hl : s.size ≤ 8000) :
    Calls Tryd.prog 11 #[.string s] w fun e w' => ∃ v, e = .returned (.tuple #[v, .agg #[.int .i64 (scanR s.data.toList).2.1, .int .i64 (scanR s.data.toList).2.2]]) ∧
      w'.ownsRow w.heap.size 49 4 v (scanR s.data.toList).1.length (tokRow (scanR s.data.toList).1) ∧ Below w.heap.size w w' := by
  generalize hR : scanR s.data.toList = R
  have HR := hid hR
  clear hR
  obtain ⟨i0, hi, hz0, hz1, hz2⟩ := info_parts info_tok
  have HHI := hid (And.intro hi (And.intro hz0 (And.intro hz1 hz2)))
  clear hi hz0 hz1 hz2
  have hms : s.size ≤ maxLen := by unfold maxLen; omega
  have hg0 := gapN_le false s.data.toList
  rw [len_size] at hg0
  go_enter Tryd.func11, Tryd.ntmps11
  go_wp2_with (go_at_call 21; refine (l1Gap_any s 0 _ hms (by omega) (by omega)).mono ?_; rintro e w' ⟨rfl, hw⟩; have hw2 := hw.symm; clear hw; subst hw2)
  go_loopw [4, 5] (fun v i wr => ∃ (p f : Nat) (pre : List Tok), i = .int .i64 p ∧ p ≤ s.size ∧ s.size - p < f ∧ pre.length ≤ p ∧ wr.ownsRow (w.heap.size + 1) 49 4 v pre.length (tokRow pre) ∧
      Below (w.heap.size + 1) (w.alloc (.cells #[.int .i64 0, .int .i64 0] 32)) wr ∧ scanRest s.data.toList f p pre) (fun _ i _ => s.size - (intOf i).toNat)
  case atStart =>
    refine ⟨gapN false s.data.toList, s.data.toList.length + 1, [], rfl, hg0, by rw [len_size]; omega, Nat.zero_le _, ?_, ?_, rfl⟩
    · have h := World.ownsRow_made (w.alloc (Obj.cells #[Value.int IntKind.i64 0, Value.int IntKind.i64 0] 32)) (base := w.heap.size + 1) (e := 49) (size := 4) #[] 0 (by simp) (by unfold maxLen; omega) rfl
      rw [World.size_alloc] at h
      exact h
    · exact (Below.refl _ _).alloc (by simp) _
  case round =>
    obtain ⟨p, f, pre, rfl, hp, hf, hpre, hown, hbel, hrest⟩ := hrel
    have OWN := hid hown
    have HB := hid hbel
    have HREST := hid hrest
    clear hown hbel hrest hg0
    have hsz := HB.out.size
    rw [World.size_alloc] at hsz
    by_cases hlt : p < s.size
    · obtain ⟨f, rfl⟩ : ∃ f', f = f' + 1 := ⟨f - 1, by omega⟩
      have hlt' : p < s.data.toList.length := by rw [len_size]; exact hlt
      generalize hO : one (s.data.toList.drop p) = O
      have HO := hid hO
      clear hO
      by_cases hc : O.code = 0
      · have HV : Hid (oneV O p = .tuple #[.agg #[.int .i64 O.kind, .string ⟨O.text.toArray⟩, .int .i64 O.n, .int .i64 p], .int .i64 (p + O.size), .int .i64 0]) := if_pos hc
        have hs1 := one_size (s.data.toList.drop p) (by rw [HO.out]; exact hc)
        rw [HO.out, List.length_drop, len_size] at hs1
        obtain ⟨hs1, hs2⟩ := hs1
        have hs3 : p + O.size ≤ s.size := by omega
        have NEXT := hid (scanRest_go HREST.out hlt' (by rw [HO.out]; exact hc))
        rw [HO.out] at NEXT
        have hg1 := gapN_le false (s.data.toList.drop (p + O.size))
        rw [List.length_drop, len_size] at hg1
        have HTN : Hid (((p : Int) + (O.size : Int)).toNat = p + O.size) := by show _ = _; omega
        clear hc
        go_wp2_with (first
          | (go_at_call 22; refine (l1One_any s p _ hl hlt).mono ?_; rintro e w1 ⟨rfl, hb⟩; rw [HO.out, HV.out]; have HB1 := hid hb; clear hb; have hz1 := HB1.out.size)
          | (at_builtin; refine wpList_append_own _ rfl (.tmp 34) (.tmp 36) 31 rfl (w.heap.size + 1) 49 i0 (.agg #[.int .i64 0, .string ⟨#[]⟩, .int .i64 0, .int .i64 0]) 4 40 Tryd.underlying31 HHI.out.1 HHI.out.2.1 HHI.out.2.2.1 HHI.out.2.2.2 rfl (by decide) _ _ _ rfl (((own_below OWN.out HB1.out).alloc _).alloc _) ⟨w1.heap.size + 1, 0, none⟩ 1 1 [.int .i64 O.kind, .string ⟨O.text.toArray⟩, .int .i64 O.n, .int .i64 p] rfl rfl (cell_four_new1 _ _ _ _ _ _ _) (by simp [Value.oneCell']) (by unfold maxLen; omega) (by omega) (by simp; omega) ?_; intro v' w2 hown' hgrow _)
          | (go_at_call 21; refine (l1Gap_any s _ _ hms (by omega) (by omega)).mono ?_; rintro e w' ⟨rfl, hw⟩; have hw2 := hw.symm; clear hw; subst hw2; rw [HTN.out]))
        have R1 : Hid (w2.ownsRow (w.heap.size + 1) 49 4 v' (pre ++ [Tok.mk O.kind O.text O.n p]).length (tokRow (pre ++ [Tok.mk O.kind O.text O.n p]))) := by
          show World.ownsRow _ _ _ _ _ _ _; rw [tokRow_snoc, List.length_append]; exact hown'
        have R2 := hid ((((HB.out.trans (HB1.out.mono hsz)).alloc (by omega) _).alloc (by simp; omega) _).grown hgrow (by simp; omega) (fun k e => (OWN.out.lt k e).1))
        clear hown' hgrow
        go_roundw
        case rel => exact ⟨p + O.size + gapN false (s.data.toList.drop (p + O.size)), f, pre ++ [Tok.mk O.kind O.text O.n p], by go_num, by omega, by omega, by simp; omega, R1.out, R2.out, NEXT.out⟩
        case measure => simp [intOf]; omega
      · have HV : Hid (oneV O p = .tuple #[.agg #[.int .i64 0, .string ⟨#[]⟩, .int .i64 0, .int .i64 0], .int .i64 0, .int .i64 O.code]) := if_neg hc
        have HE : Hid (R = ([], O.code, p)) := by
          show _ = _; rw [← HR.out, scanRest_bad HREST.out hlt' (by rw [len_size]; exact hl) (by rw [HO.out]; exact hc), HO.out]
        have hc' : ((O.code : Int) != 0) = true := by simp; omega
        have hRe := HE.out
        subst hRe
        clear hc HE HR
        go_wp2_with (first
          | (go_at_call 22; refine (l1One_any s p _ hl hlt).mono ?_; rintro e w1 ⟨rfl, hb⟩; rw [HO.out, HV.out]; have HB1 := hid (HB.out.trans (hb.mono hsz)); have hz1 : w.heap.size + 1 ≤ w1.heap.size := Nat.le_trans hsz hb.size; have hz2 : w.heap.size < w1.heap.size := hz1; clear hb; obtain ⟨k0, k1, k2, k3⟩ := flt_cells HB1.out))
        refine bodyPost_ret (v := .tuple #[.slice (some ⟨w1.heap.size + 1, 0, none⟩) 0 0, .agg #[.int .i64 O.code, .int .i64 p]]) (by simp [results, Tryd.results11, go_sem, k0, k1, hz2]) rfl ⟨_, rfl, ?_, ?_⟩
        · have h := fun W => World.ownsRow_made (w := World.alloc W (.cells #[.int .i64 0, .string ⟨#[]⟩, .int .i64 0, .int .i64 0] 49)) (base := w.heap.size) (e := 49) (size := 4) #[] 0
          have h2 := h ((w1.setCell ⟨w.heap.size, 0, none⟩ (.int .i64 O.code)).setCell ⟨w.heap.size, 1, none⟩ (.int .i64 p)) (by simp; omega) (by unfold maxLen; omega) rfl
          simpa [tokRow] using h2
        · refine Below.alloc (Below.alloc ?_ (by simp; omega) _) (by simp; omega) _
          exact ((((Below.refl w.heap.size w).alloc (Nat.le_refl _) _).trans (HB1.out.mono (by omega))).setCell (p := ⟨w.heap.size, 0, none⟩) (Nat.le_refl _) _).setCell (p := ⟨w.heap.size, 1, none⟩) (Nat.le_refl _) _
    · have HE : Hid (R = (pre, 0, 0)) := by
        show _ = _; rw [← HR.out, scanRest_end HREST.out (by rw [len_size]; omega) (by rw [len_size]; exact hl)]
      obtain ⟨k0, k1, k2, k3⟩ := flt_cells HB.out
      have hRe := HE.out
      subst hRe
      clear HE HR
      go_wp2
      refine bodyPost_ret (v := .tuple #[u4, .agg #[.int .i64 0, .int .i64 0]]) (by simp [results, Tryd.results11, go_sem, k0, k1]) rfl ⟨_, rfl, ?_, ?_⟩
      · exact own_base (ownsRow_setCell_below (ownsRow_setCell_below OWN.out (a := ⟨w.heap.size, 0, none⟩) (Nat.lt_succ_self _) _) (a := ⟨w.heap.size, 1, none⟩) (Nat.lt_succ_self _) _) (by omega)
      · exact ((((Below.refl w.heap.size w).alloc (Nat.le_refl _) _).trans (HB.out.mono (by omega))).setCell (p := ⟨w.heap.size, 0, none⟩) (Nat.le_refl _) _).setCell (p := ⟨w.heap.size, 1, none⟩) (Nat.le_refl _) _
end Go.Proofs.YtdhcjmlcpnljiaaDoor
