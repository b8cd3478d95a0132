import Derived.Test.YtdhcjmlcpnljiaaDoorSScan
namespace Go.Proofs.YtdhcjmlcpnljiaaDoor
open Go.RowKit
theorem same_drewN {w w' : World} (h : w' = w) : ∃ n, w' = w.drewN n := ⟨0, by rw [h]; rfl⟩
/-- clayTextByte in the words of 'tb'. -/
theorem textByte_none (r : ByteArray) (w : World) (hs : r.size ≤ maxLen) (hp : 0 < r.size) (h : tb r.data.toList = none) :
    Calls Tryd.prog 83 #[.string r] w fun e w' => e = .returned (.tuple #[.int .u8 0, .int .i64 0]) ∧ ∃ n, w' = w.drewN n := by
  have hl : 0 < r.data.toList.length := by rw [len_size]; exact hp
  have g0 := get_eq r 0 hp
  by_cases h1 : r[0].toNat < 32
  · exact (textByte_low r w hp (by omega)).mono fun e w' ⟨a, b⟩ => ⟨a, same_drewN b⟩
  · by_cases h2 : 126 < r[0].toNat
    · exact (textByte_high r w hp (by omega)).mono fun e w' ⟨a, b⟩ => ⟨a, same_drewN b⟩
    · by_cases h3 : r[0].toNat = 92
      · have h3' : ((r[0].toNat : Int) != 92) = false := by simp; omega
        by_cases h4 : r.size < 3
        · exact (textByte_short r w hs hp (by omega) (by omega) h3' h4).mono fun e w' ⟨a, b⟩ => ⟨a, same_drewN b⟩
        · have ht := tb_hex r.data.toList 0 (by rw [len_size]; omega) (by rw [g0]; exact h3)
          rw [List.drop_zero, h] at ht
          have hx : hexv r[1].toNat < 0 ∨ hexv r[2].toNat < 0 := by
            by_cases hx : hexv r[1].toNat < 0 ∨ hexv r[2].toNat < 0
            · exact hx
            · have ht2 : none = if hexv r[1].toNat < 0 ∨ hexv r[2].toNat < 0 then none else some ((hexv r[1].toNat * 16 + hexv r[2].toNat).toNat.toUInt8, 3) := ht
              rw [if_neg hx] at ht2; cases ht2
          refine (textByte_hex r w hs (by omega) (by omega) (by omega) h3').mono fun e w' ⟨a, b⟩ => ⟨?_, b⟩
          rw [a, if_pos hx]
      · have ht := tb_plain r.data.toList 0 hl (by rw [g0]; omega) (by rw [g0]; omega) (by rw [g0]; exact h3)
        rw [List.drop_zero, h] at ht; cases ht
theorem textByte_some (r : ByteArray) (w : World) (hs : r.size ≤ maxLen) (hp : 0 < r.size) (b : UInt8) (m : Nat) (h : tb r.data.toList = some (b, m)) :
    Calls Tryd.prog 83 #[.string r] w fun e w' => e = .returned (.tuple #[.int .u8 b.toNat, .int .i64 m]) ∧ ∃ n, w' = w.drewN n := by
  have hl : 0 < r.data.toList.length := by rw [len_size]; exact hp
  have g0 := get_eq r 0 hp
  by_cases h1 : r[0].toNat < 32 ∨ 126 < r[0].toNat
  · have ht := tb_low r.data.toList 0 hl (by rw [g0]; exact h1)
    rw [List.drop_zero, h] at ht; cases ht
  · by_cases h3 : r[0].toNat = 92
    · have h3' : ((r[0].toNat : Int) != 92) = false := by simp; omega
      by_cases h4 : r.size < 3
      · have ht := tb_short r.data.toList 0 hl (by rw [g0]; exact h3) (by rw [len_size]; omega)
        rw [List.drop_zero, h] at ht; cases ht
      · have ht := tb_hex r.data.toList 0 (by rw [len_size]; omega) (by rw [g0]; exact h3)
        rw [List.drop_zero, h] at ht
        have ht2 : some (b, m) = if hexv r[1].toNat < 0 ∨ hexv r[2].toNat < 0 then none else some ((hexv r[1].toNat * 16 + hexv r[2].toNat).toNat.toUInt8, 3) := ht
        by_cases hx : hexv r[1].toNat < 0 ∨ hexv r[2].toNat < 0
        · rw [if_pos hx] at ht2; cases ht2
        · rw [if_neg hx] at ht2
          have x1 := hexv_le r[1].toNat
          have x2 := hexv_le r[2].toNat
          have hby := hex_byte (hexv r[1].toNat) (hexv r[2].toNat) (by omega) (by omega)
          simp only [Option.some.injEq, Prod.mk.injEq] at ht2
          obtain ⟨e1, e2⟩ := ht2
          subst e1 e2
          refine (textByte_hex r w hs (by omega) (by omega) (by omega) h3').mono fun e w' ⟨a, c⟩ => ⟨?_, c⟩
          rw [a, if_neg hx]
          exact congrArg (fun z => Ending.returned (.tuple #[.int .u8 z, .int .i64 3])) hby.symm
    · have ht := tb_plain r.data.toList 0 hl (by rw [g0]; omega) (by rw [g0]; omega) (by rw [g0]; exact h3)
      rw [List.drop_zero, h, g0] at ht
      cases ht
      refine (textByte_plain r w hp (by omega) (by omega) (by simp; omega)).mono fun e w' ⟨a, c⟩ => ⟨?_, same_drewN c⟩
      rw [a]; rfl
/-- The cells of the token that the call hands back, in a later world. -/
theorem tok_cells {w w1 : World} (h : Below (w.heap.size + 1) (w.alloc (.cells #[.int .i64 0, .string ⟨#[]⟩, .int .i64 0, .int .i64 0] 49)) w1) :
    (w1.cell? ⟨w.heap.size, 0, none⟩ = some (.int .i64 0) ∧ w1.cell? ⟨w.heap.size, 1, none⟩ = some (.string ⟨#[]⟩) ∧ w1.cell? ⟨w.heap.size, 2, none⟩ = some (.int .i64 0) ∧ w1.cell? ⟨w.heap.size, 3, none⟩ = some (.int .i64 0)) ∧
    (w1.frozen? ⟨w.heap.size, 0, none⟩ = false ∧ w1.frozen? ⟨w.heap.size, 1, none⟩ = false ∧ w1.frozen? ⟨w.heap.size, 2, none⟩ = false ∧ w1.frozen? ⟨w.heap.size, 3, none⟩ = false) := by
  refine ⟨⟨?_, ?_, ?_, ?_⟩, ⟨?_, ?_, ?_, ?_⟩⟩
  · rw [h.cell (p := ⟨w.heap.size, 0, none⟩) (Nat.lt_succ_self _), cell_new_row]; rfl
  · rw [h.cell (p := ⟨w.heap.size, 1, none⟩) (Nat.lt_succ_self _), cell_new_row]; rfl
  · rw [h.cell (p := ⟨w.heap.size, 2, none⟩) (Nat.lt_succ_self _), cell_new_row]; rfl
  · rw [h.cell (p := ⟨w.heap.size, 3, none⟩) (Nat.lt_succ_self _), cell_new_row]; rfl
  · rw [h.frozen (p := ⟨w.heap.size, 0, none⟩) (Nat.lt_succ_self _)]; simp
  · rw [h.frozen (p := ⟨w.heap.size, 1, none⟩) (Nat.lt_succ_self _)]; simp
  · rw [h.frozen (p := ⟨w.heap.size, 2, none⟩) (Nat.lt_succ_self _)]; simp
  · rw [h.frozen (p := ⟨w.heap.size, 3, none⟩) (Nat.lt_succ_self _)]; simp
theorem extract_end (s : ByteArray) (p : Nat) : (s.extract p s.size).data.toList = s.data.toList.drop p := by
  have e := ByteArray.data_extract (a := s) (b := p) (e := s.size)
  rw [e, Array.toList_extract, List.extract_eq_take_drop]
  have h : (s.data.toList.drop p).length ≤ s.size - p := by rw [List.length_drop, len_size]; omega
  rw [List.take_of_length_le h]
theorem own_slice {w : World} {B e size k : Nat} {v : Value} {xs : List Value} (h : w.ownsRow B e size v k xs) : ∃ a cap, v = .slice a k cap := by
  obtain ⟨_, ⟨rfl, rfl⟩ | ⟨g, cap, cur, rfl, _⟩⟩ := h
  · exact ⟨none, 0, rfl⟩
  · exact ⟨_, cap, rfl⟩
theorem below_tok {w w1 : World} (h : Below (w.heap.size + 1) (w.alloc (.cells #[.int .i64 0, .string ⟨#[]⟩, .int .i64 0, .int .i64 0] 49)) w1) : Below w.heap.size w w1 :=
  ((Below.refl w.heap.size w).alloc (Nat.le_refl _) _).trans (h.mono (by omega))
def quoV (u : Option (List UInt8 × Nat)) : Value :=
  match u with
  | none => .tuple #[.string ⟨#[]⟩, .int .i64 0]
  | some x => .tuple #[.string ⟨x.1.toArray⟩, .int .i64 x.2]
set_option maxRecDepth 20000 in
set_option maxHeartbeats 1000000 in
/-- A text in quotes, of either language. -/
theorem readQuoted_any (s : ByteArray) (w : World) (hs : s.size ≤ 12000) (hp0 : 0 < s.size) :
    Calls Tryd.prog 73 #[.string s] w fun e w' => e = .returned (quoV (unqAt s.size s.data.toList 1 [])) ∧ Below w.heap.size w w' := by
  generalize hU : unqAt s.size s.data.toList 1 [] = U
  have HU := hid hU
  clear hU
  obtain ⟨i0, hi, hz0, hz1, hz2⟩ := info_parts info_u8
  have HHI := hid (And.intro hi (And.intro hz0 (And.intro hz1 hz2)))
  clear hi hz0 hz1 hz2
  go_enter Tryd.func73, Tryd.ntmps73
  go_wp2
  go_loopw [4, 5] (fun v i wr => ∃ (p f : Nat) (acc : List UInt8), i = .int .i64 p ∧ 1 ≤ p ∧ p ≤ s.size ∧ s.size - p < f ∧ acc.length ≤ p ∧ wr.ownsRow w.heap.size 5 1 v acc.length (Lib.byteCells acc) ∧
      Below w.heap.size w wr ∧ unqAt f s.data.toList p acc = U)
    (fun _ i _ => s.size - (intOf i).toNat)
  case atStart => exact ⟨1, s.size, [], rfl, by omega, by omega, by omega, by simp, World.ownsRow_nil _ _ _ _, Below.refl _ _, HU.out⟩
  case round =>
    obtain ⟨p, f, acc, rfl, hp1, hp2, hf, hacc, hown, hbel, hrel⟩ := hrel
    have HR : Hid (unqAt f s.data.toList p acc = U) := hrel
    have OWN := hid hown
    have HB := hid hbel
    clear hrel hown hbel
    have hsz := HB.out.size
    by_cases hlt : p < s.size
    · obtain ⟨f, rfl⟩ : ∃ f', f = f' + 1 := ⟨f - 1, by omega⟩
      have hl : p < s.data.toList.length := by rw [len_size]; exact hlt
      by_cases c1 : s[p].toNat = 34
      · have c1' : ((s[p].toNat : Int) != 34) = false := by simp; omega
        have HE : Hid (U = some (acc, p + 1)) := by
          show _ = _; rw [← HR.out]; exact unqAt_quote f _ p acc hl (by rw [get_eq s p hlt]; exact c1)
        have hne : ((p : Int) == s.size) = false := by rw [beq_eq_false_iff_ne]; omega
        have hconv := conv_row wr w.heap.size _ acc OWN.out
        clear c1 HR HU
        go_wp2
        go_ret2
        exact ⟨by rw [HE.out]; rfl, HB.out⟩
      · have c1' : ((s[p].toNat : Int) != 34) = true := by simp; omega
        have hrl : (s.extract p s.size).size = s.size - p := by simp
        have hrm : (s.extract p s.size).size ≤ maxLen := by rw [hrl]; unfold maxLen; omega
        have hrp : 0 < (s.extract p s.size).size := by rw [hrl]; omega
        cases ht : tb (s.data.toList.drop p) with
        | none =>
          have HTB : Hid (tb (s.extract p s.size).data.toList = none) := by show _ = _; rw [extract_end]; exact ht
          have HE : Hid (U = none) := by show _ = _; rw [← HR.out]; exact unqAt_bad f _ p acc hl (by rw [get_eq s p hlt]; exact c1) ht
          have HRM := hid hrm
          have HRP := hid hrp
          clear ht c1 hrl hrm hrp HR HU
          go_wp2_with (first
            | (go_at_call 83; refine (textByte_none _ _ HRM.out HRP.out HTB.out).mono ?_; rintro e w' ⟨rfl, nq, rfl⟩))
          go_ret2
          exact ⟨by rw [HE.out]; rfl, below_drewN HB.out nq⟩
        | some x =>
          obtain ⟨b, m⟩ := x
          have hm := tb_pos ht
          rw [List.length_drop, len_size] at hm
          obtain ⟨hm1, hm2⟩ := hm
          have HTB : Hid (tb (s.extract p s.size).data.toList = some (b, m)) := by show _ = _; rw [extract_end]; exact ht
          have NEXT : Hid (unqAt f s.data.toList (p + m) (acc ++ [b]) = U) := by
            show _ = _; rw [← HR.out]
            exact (unqAt_go f _ p acc hl (by rw [get_eq s p hlt]; exact c1) ht).symm
          have HRM := hid hrm
          have HRP := hid hrp
          have hm0 : ((m : Int) == 0) = false := by rw [beq_eq_false_iff_ne]; omega
          clear ht c1 hrl hrm hrp
          go_wp2_with (first
            | (go_at_call 83; refine (textByte_some _ _ HRM.out HRP.out b m HTB.out).mono ?_; rintro e w' ⟨rfl, nq, rfl⟩)
            | (at_builtin; refine wpList_append_own _ rfl (.tmp 27) (.tmp 29) 68 rfl w.heap.size 5 i0 (.int .u8 0) 1 1 Tryd.underlying68 HHI.out.1 HHI.out.2.1 HHI.out.2.2.1 HHI.out.2.2.2 rfl (by decide) _ _ _ rfl ((own_drewN OWN.out nq).alloc _) ⟨wr.heap.size, 0, none⟩ 1 1 [.int .u8 b.toNat] rfl rfl (cell_one_new _ _ _) (by simp [Value.oneCell']) (by unfold maxLen; omega) (by omega) (by simp; omega) ?_; intro v' w1 hown' hgrow _))
          have R := hid ((((below_drewN HB.out nq).alloc (by simp; omega) _)).grown hgrow (by simp; omega) (fun k e => (OWN.out.lt k e).1))
          have R2 : Hid (w1.ownsRow w.heap.size 5 1 v' (acc ++ [b]).length (Lib.byteCells (acc ++ [b]))) := by
            show World.ownsRow _ _ _ _ _ _ _
            simpa [Lib.byteCells] using hown'
          clear hown' hgrow
          go_roundw
          case rel => exact ⟨p + m, f, acc ++ [b], by go_num, by omega, by omega, by omega, by simp; omega, R2.out, R.out, NEXT.out⟩
          case measure => simp [intOf]; omega
    · have HE : Hid (U = none) := by show _ = _; rw [← HR.out]; exact unqAt_end f _ p acc (by rw [len_size]; omega)
      have hne : ((p : Int) == s.size) = true := by rw [beq_iff_eq]; omega
      clear HR HU
      go_wp2
      go_ret2
      exact ⟨by rw [HE.out]; rfl, HB.out⟩
set_option maxRecDepth 20000 in
set_option maxHeartbeats 1000000 in
theorem readText_any (s : ByteArray) (w : World) (hs : s.size ≤ 8000) (hp0 : 0 < s.size) :
    Calls Tryd.prog 63 #[.string s] w fun e w' => e = .returned (oneV (textOne (s.data.toList.drop 1)) 0) ∧ Below w.heap.size w w' := by
  have HT := hid (text_one s 0 hp0)
  simp only [Nat.zero_add, Nat.sub_zero] at HT
  have HQ : Hid (∀ W : World, Calls Tryd.prog 73 #[.string s] W fun e w' => e = .returned (quoV (unqAt s.size s.data.toList 1 [])) ∧ Below W.heap.size W w') := fun W => readQuoted_any s W (by omega) hp0
  generalize hU : unqAt s.size s.data.toList 1 [] = U at HT HQ
  clear hU
  cases U with
  | none =>
    have HE := hid (oneV_bad (HT.out.1 rfl) (by decide) 0)
    clear HT
    go_enter Tryd.func63, Tryd.ntmps63
    go_wp2_with (go_at_call 73; refine (HQ.out _).mono ?_; rintro e w1 ⟨rfl, hb⟩; unfold quoV; have HB := hid hb; obtain ⟨⟨k0, k1, k2, k3⟩, ⟨k4, k5, k6, k7⟩⟩ := tok_cells (hb.mono (by simp)); clear hb)
    refine bodyPost_ret (v := .tuple #[.agg #[.int .i64 0, .string ⟨#[]⟩, .int .i64 0, .int .i64 0], .int .i64 0, .int .i64 4]) (by simp [results, Tryd.results63, go_sem, k0, k1, k2, k3]) rfl ⟨by rw [HE.out]; rfl, ?_⟩
    exact below_set4 (below_tok (HB.out.mono (by simp)))
  | some x =>
    obtain ⟨o, q⟩ := x
    obtain ⟨hq1, hq2, h5, h4⟩ := HT.out.2 o q rfl
    have hq0 : ((q : Int) == 0) = false := by rw [beq_eq_false_iff_ne]; omega
    have hsz : (⟨o.toArray⟩ : ByteArray).size = o.length := by simp [ByteArray.size]
    by_cases hl : 1000 < o.length
    · have HE := hid (oneV_bad (h5 hl) (by decide) 0)
      clear HT h5 h4
      have hl' : 1000 < (o.length : Int) := by omega
      clear hl
      go_enter Tryd.func63, Tryd.ntmps63
      go_wp2_with (go_at_call 73; refine (HQ.out _).mono ?_; rintro e w1 ⟨rfl, hb⟩; unfold quoV; have HB := hid hb; obtain ⟨⟨k0, k1, k2, k3⟩, ⟨k4, k5, k6, k7⟩⟩ := tok_cells (hb.mono (by simp)); clear hb)
      refine bodyPost_ret (v := .tuple #[.agg #[.int .i64 0, .string ⟨#[]⟩, .int .i64 0, .int .i64 0], .int .i64 0, .int .i64 5]) (by simp [results, Tryd.results63, go_sem, k0, k1, k2, k3]) rfl ⟨by rw [HE.out]; rfl, ?_⟩
      exact below_set4 (below_tok (HB.out.mono (by simp)))
    · have HE := hid (oneV_good (h4 (by omega)) 0)
      clear HT h5 h4
      have hl' : (o.length : Int) ≤ 1000 := by omega
      clear hl
      go_enter Tryd.func63, Tryd.ntmps63
      go_wp2_with (go_at_call 73; refine (HQ.out _).mono ?_; rintro e w1 ⟨rfl, hb⟩; unfold quoV; have HB := hid hb; obtain ⟨⟨k0, k1, k2, k3⟩, ⟨k4, k5, k6, k7⟩⟩ := tok_cells (hb.mono (by simp)); clear hb)
      refine bodyPost_ret (v := .tuple #[.agg #[.int .i64 4, .string ⟨o.toArray⟩, .int .i64 0, .int .i64 0], .int .i64 q, .int .i64 0]) (by simp [results, Tryd.results63, go_sem, k0, k1, k2, k3]) rfl ⟨by rw [HE.out]; simp, ?_⟩
      exact below_set4 (below_tok (HB.out.mono (by simp)))
end Go.Proofs.YtdhcjmlcpnljiaaDoor
