import Derived.Test.YtkdedehneopgbaaPForm
import Derived.Deep.RegionHeld3
/-! The model's ClayFormPlan. -/
namespace Go.Proofs.Ytkdedehneopgbaa
open Go.RowKit
set_option maxRecDepth 20000
/-- 'append(b, s...)' of a string to a row of the call's own, as one step of a region that draws its order. -/
theorem step_append_str {P : Program} {ops : Array Oper} {o : Oper} {a : Act} {w : World} {K : Act → World → Prop} {Q : Exit → Act → World → Prop} {E : Prop} (hg : o.guard = none) (s x : Operand) (t u : TypeId)
    (hop : o.op = Op.call { callee := Callee.builtin Builtin.append, args := #[s, x], argTypes := #[t, u] })
    (base : Nat) (e : TypeId) (i : TypeInfo) (ht : P.underlying t = some (.slice e)) (hu : P.underlying u = some .string) (hi : P.info? e = some i) (hz : i.zero = some (.int .u8 0)) (hsize : i.size = 1) (hby : i.bytes = 1)
    (v : Value) (n : Nat) (xs : List Value) (hs : a.eval s = v) (hown : w.ownsRow base e 1 v n xs) (y : ByteArray) (hx : a.eval x = .string y)
    (h63 : n + y.size ≤ maxLen) (hbytes : n + y.size ≤ 140737488355328) (hbase : base ≤ w.heap.size)
    (h : ∀ v' w', w'.ownsRow base e 1 v' (n + y.size) (xs ++ Lib.strCells y) → w.grownBy w' v.ownBlock → K (a.put o.dst v') w') :
    if Region.wanted o (yielded ops a.tmps) = true then Oper.wp P o a w K Q else E := by
  have hw : Region.wanted o (yielded ops a.tmps) = true := by simp [Region.wanted, hg]
  rw [if_pos hw]
  obtain ⟨v', w', hr, h2, h3, _⟩ := Lib.run_append_own_string (P := P) w base t u o.type e i ht hu hi hz hsize hby v n xs hown y h63 hbytes hbase
  unfold Oper.wp
  simp [execOp, hop, resolve, invoke, builtin, hs, hx, hr, Result.andThen]
  exact h v' w' h2 h3
theorem five_below {w : World} {x : Tg} {ai ao : Option Addr} {ci co : Nat} {W : World} (h : Below (w.heap.size + 1) (w.alloc (.cells #[.string x.name, .string x.tool, .string x.arg, .slice ai x.N ci, .slice ao x.M co] 34)) W) :
    W.cell? ⟨w.heap.size, 0, none⟩ = some (.string x.name) ∧ W.cell? ⟨w.heap.size, 1, none⟩ = some (.string x.tool) ∧ W.cell? ⟨w.heap.size, 2, none⟩ = some (.string x.arg) ∧ W.cell? ⟨w.heap.size, 3, none⟩ = some (.slice ai x.N ci) ∧ W.cell? ⟨w.heap.size, 4, none⟩ = some (.slice ao x.M co) := by
  have k : ∀ i, W.cell? ⟨w.heap.size, i, none⟩ = (#[.string x.name, .string x.tool, .string x.arg, .slice ai x.N ci, .slice ao x.M co] : Array Value)[i]? := fun i => (h.cell (p := ⟨w.heap.size, i, none⟩) (by simp)).trans (cell_new_row w _ _ i)
  exact ⟨k 0, k 1, k 2, k 3, k 4⟩
theorem five_blk {W : World} {k : Nat} {x : Tg} {ai ao : Option Addr} {ci co : Nat} (h : W.heap[k]? = some (.cells #[.string x.name, .string x.tool, .string x.arg, .slice ai x.N ci, .slice ao x.M co] 34)) :
    W.cell? ⟨k, 0, none⟩ = some (.string x.name) ∧ W.cell? ⟨k, 1, none⟩ = some (.string x.tool) ∧ W.cell? ⟨k, 2, none⟩ = some (.string x.arg) ∧ W.cell? ⟨k, 3, none⟩ = some (.slice ai x.N ci) ∧ W.cell? ⟨k, 4, none⟩ = some (.slice ao x.M co) :=
  ⟨row_cell h 0, row_cell h 1, row_cell h 2, row_cell h 3, row_cell h 4⟩
theorem blk_grown {w W W' : World} {o : Obj} {v : Value} {B e n : Nat} {xs : List Value} (h : Below (w.heap.size + 1) (w.alloc o) W) (hg : W.grownBy W' v.ownBlock) (hown : w.ownsRow B e 1 v n xs) : W'.heap[w.heap.size]? = some o := by
  have hs := h.size
  simp only [World.size_alloc] at hs
  rw [hg.block _ (by omega) (fun e => by have := (hown.lt _ e.symm).2; omega), h.block _ (by omega)]
  exact heap_alloc_new w o
theorem head_size (y1 y2 y3 : ByteArray) : (y1 ++ ⟨#[58, 32]⟩ ++ y2 ++ ⟨#[32]⟩ ++ y3 ++ ⟨#[10]⟩ : ByteArray).size = y1.size + 2 + y2.size + 1 + y3.size + 1 := by
  simp only [ByteArray.size_append]
  rfl
theorem head_list (y1 y2 y3 : ByteArray) : (y1 ++ ⟨#[58, 32]⟩ ++ y2 ++ ⟨#[32]⟩ ++ y3 ++ ⟨#[10]⟩ : ByteArray).data.toList = y1.data.toList ++ [58, 32] ++ y2.data.toList ++ [32] ++ y3.data.toList ++ [10] := by
  simp
theorem line_size (m : UInt8) (y : ByteArray) : (⟨#[32, 32, m, 32]⟩ ++ y ++ ⟨#[10]⟩ : ByteArray).size = 4 + y.size + 1 := by
  simp only [ByteArray.size_append]
  rfl
theorem line_list (m : UInt8) (y : ByteArray) : (⟨#[32, 32, m, 32]⟩ ++ y ++ ⟨#[10]⟩ : ByteArray).data.toList = [32, 32, m, 32] ++ y.data.toList ++ [10] := by
  simp
theorem quote_q (s : ByteArray) (w : World) (hs : s.size ≤ 1048576) :
    Calls Try.prog 10 #[.string s] w fun e w' => ∃ y, e = .returned (.string y) ∧ Hid (y.data.toList = quoteL s.data.toList) ∧ y.size ≤ 3145730 ∧ Below w.heap.size w w' :=
  (l1Quote_any s w (by omega)).mono fun _ _ ⟨h1, h2⟩ => ⟨_, h1, hid (by simp), by
    have := quoteL_len s.data.toList
    rw [len_size] at this
    show (quoteL s.data.toList).toArray.size ≤ _
    rw [List.size_toArray]
    omega, h2⟩
set_option maxHeartbeats 4000000 in
theorem specForm_any (a : Addr) (N cap : Nat) (f : Nat → Tg) (w : World) (hW : wpl f N ≤ 1048576) (ha : a.block < w.heap.size) (hn : ∀ i, i < N → FiveT w (fun _ => True) (a.add (i * 5)) (f i)) :
    Calls Try.prog 5 #[.slice (some a) N cap] w fun e w' => e = .returned (.string ⟨(formL f N).toArray⟩) ∧ Below w.heap.size w w' := by
  have HN := hid hn
  have HRM : Hid (∀ j, j < N → (formL f j).length + 10 + 7 * wtg (f j) ≤ 10485760 ∧ wtg (f j) ≤ 1048576) := fun j hj => formL_room f hj hW
  have hNN : N ≤ 1048576 := Nat.le_trans (wpl_ge f N) hW
  obtain ⟨i0, hi, hz0, hz1, hz2⟩ := info_parts (P := Try.prog) (e := 5) (z := .int .u8 0) (size := 1) (bytes := 1) (by kernel_rfl)
  have HHI := hid (And.intro hi (And.intro hz0 (And.intro hz1 hz2)))
  clear hi hz0 hz1 hz2 hn hW
  go_enter Try.func5, Try.ntmps5
  go_wp2
  go_loopw [3, 4] (fun v c wr => ∃ j : Nat, j ≤ N ∧ c = .int .i64 j ∧ wr.ownsRow w.heap.size 5 1 v (formL f j).length (Lib.byteCells (formL f j)) ∧ Below w.heap.size w wr) (fun _ c _ => N - (intOf c).toNat)
  case atStart => exact ⟨0, Nat.zero_le _, rfl, ⟨rfl, .inr ⟨w.heap.size, 0, #[], rfl, Nat.le_refl _, heap_alloc_new w _, Nat.le_refl _, by unfold maxLen; omega, rfl, rfl⟩⟩, (Below.refl _ _).alloc (Nat.le_refl _) _⟩
  case round =>
    obtain ⟨j, hj, rfl, hown, hbw⟩ := hrel
    have OWN := hid hown
    have HBW := hid hbw
    clear hown hbw
    by_cases hlt : j < N
    · obtain ⟨ai, ci, ao, co, hf, t1, t2, _⟩ := HN.out j hlt
      have HTX := hid (And.intro t1 t2)
      obtain ⟨c0, c1, c2, c3, c4⟩ : FiveC wr (a.add (j * 5)) (f j) ai ci ao co := hf.of_cells fun p hp => HBW.out.cell (by rw [hp, add_block]; exact ha)
      have HRJ := hid (HRM.out j hlt)
      have HFS := hid (formL_succ f j)
      obtain ⟨L, hL⟩ : ∃ L, formL f j = L := ⟨_, rfl⟩
      rw [hL] at OWN HRJ HFS
      clear hL t1 t2 hf
      obtain ⟨X, hX⟩ : ∃ X, f j = X := ⟨_, rfl⟩
      rw [hX] at c0 c1 c2 c3 c4 HTX HRJ HFS
      clear hX
      obtain ⟨avv, capv, rfl⟩ := own_slice' OWN.out
      have HSZ : Hid (L.length + 10 + 3 * (X.name.size + X.tool.size + X.arg.size) + 7 * (wtx X.ins X.N + wtx X.outs X.M) ≤ 10485760 ∧ X.name.size + X.tool.size + X.arg.size + wtx X.ins X.N + wtx X.outs X.M ≤ 1048576) := by
        have := HRJ.out
        simp only [wtg] at this
        show _ ∧ _
        omega
      have hsw := HBW.out.size
      have HB0 := hid (Below.refl (wr.heap.size + 1) (wr.alloc (.cells #[.string X.name, .string X.tool, .string X.arg, .slice ai X.N ci, .slice ao X.M co] 34)))
      have HST : Hid (∀ W W', Below (wr.heap.size + 1) (wr.alloc (.cells #[.string X.name, .string X.tool, .string X.arg, .slice ai X.N ci, .slice ao X.M co] 34)) W → Below W.heap.size W W' → Below (wr.heap.size + 1) (wr.alloc (.cells #[.string X.name, .string X.tool, .string X.arg, .slice ai X.N ci, .slice ao X.M co] 34)) W') := fun W W' h h2 => h.trans (h2.mono (by have := h.size; simpa using this))
      go_wp2_with fail
      clear c0 c1 c2 c3 c4
      have hz1 : X.name.size ≤ 1048576 := by have := HSZ.out.2; omega
      have hz2 : X.tool.size ≤ 1048576 := by have := HSZ.out.2; omega
      have hz3 : X.arg.size ≤ 1048576 := by have := HSZ.out.2; omega
      go_region_held3 (fun W => W.cell? ⟨wr.heap.size, 0, none⟩ = some (.string X.name) ∧ W.cell? ⟨wr.heap.size, 1, none⟩ = some (.string X.tool) ∧ W.cell? ⟨wr.heap.size, 2, none⟩ = some (.string X.arg) ∧ W.cell? ⟨wr.heap.size, 3, none⟩ = some (.slice ai X.N ci) ∧ W.cell? ⟨wr.heap.size, 4, none⟩ = some (.slice ao X.M co)) (first | (exact FIN) | (exact five_below HC3.out) | (exact five_below HC2.out) | (exact five_below HC1.out) | go_keep) (first
        | (have hgate := HC2.out; clear hgate; go_at_call 10; refine (quote_q _ _ hz3).mono ?_; rintro e w3 ⟨y3, rfl, HY3, hy3, hb3⟩; have HC3 := hid (HST.out _ _ HC2.out hb3); have k4 : ¬ (9223372036854775807 < y1.size + 2 + y2.size + 1 + y3.size) := (by omega); have k5 : ¬ (9223372036854775807 < y1.size + 2 + y2.size + 1 + y3.size + 1) := (by omega); clear hb3)
        | (have hgate := HC1.out; clear hgate; go_at_call 10; refine (quote_q _ _ hz2).mono ?_; rintro e w2 ⟨y2, rfl, HY2, hy2, hb2⟩; have HC2 := hid (HST.out _ _ HC1.out hb2); have k2 : ¬ (9223372036854775807 < y1.size + 2 + y2.size) := (by omega); have k3 : ¬ (9223372036854775807 < y1.size + 2 + y2.size + 1) := (by omega); clear hb2)
        | (go_at_call 10; refine (quote_q _ _ hz1).mono ?_; rintro e w1 ⟨y1, rfl, HY1, hy1, hb1⟩; have HC1 := hid (HST.out _ _ HB0.out.drew hb1); have k1 : ¬ (9223372036854775807 < y1.size + 2) := (by omega); clear hb1)
        | (refine step_append_str rfl (.tmp 19) (.tmp 33) 33 9 rfl w.heap.size 5 i0 Try.underlying33 Try.underlying9 HHI.out.1 HHI.out.2.1 HHI.out.2.2.1 HHI.out.2.2.2 (.slice avv L.length capv) L.length (Lib.byteCells L) (by simp [Act.eval]) (own_below OWN.out (btree HC3.out)) (y1 ++ ⟨#[58, 32]⟩ ++ y2 ++ ⟨#[32]⟩ ++ y3 ++ ⟨#[10]⟩) (by simp [Act.eval]) (by rw [head_size]; have := HSZ.out.1; unfold maxLen; omega) (by rw [head_size]; have := HSZ.out.1; omega) (by have := HC3.out.size; simp at this; omega) ?_; intro v4 w4 o4 g4; have FIN := five_blk (blk_grown HC3.out g4 OWN.out)))
      have HO4 : Hid (w4.ownsRow w.heap.size 5 1 v4 (L ++ headL X).length (Lib.byteCells (L ++ headL X))) := by
        have e : (y1 ++ ⟨#[58, 32]⟩ ++ y2 ++ ⟨#[32]⟩ ++ y3 ++ ⟨#[10]⟩ : ByteArray).data.toList = headL X := by rw [head_list, HY1.out, HY2.out, HY3.out]; rfl
        rw [Lib.strCells_eq, e, ← Lib.byteCells_append, ← len_size, e, ← List.length_append] at o4
        exact o4
      have HX4 := hid (blk_grown HC3.out g4 OWN.out)
      have HB4 : Hid (Below w.heap.size w w4) := (HBW.out.trans ((btree HC3.out).mono hsw)).grown g4 (Nat.le_trans hsw (btree HC3.out).size) (fun k e => (OWN.out.lt k e).1)
      clear FIN o4 g4 HC1 HC2 HC3 HST HB0 OWN k1 k2 k3 k4 k5 hy1 hy2 hy3 HY1 HY2 HY3 hz1 hz2 hz3
      obtain ⟨L1, hL1⟩ : ∃ L1, L ++ headL X = L1 := ⟨_, rfl⟩
      have HL1 := hid hL1
      have HLL : Hid (L1.length + 7 * (wtx X.ins X.N + wtx X.outs X.M) ≤ 10485760) := by
        show _ ≤ _
        have h1 := headL_len X
        have h2 := HSZ.out.1
        rw [← hL1, List.length_append]
        omega
      rw [hL1] at HO4
      clear hL1
      obtain ⟨kb, hkb⟩ : ∃ kb, wr.heap.size = kb := ⟨_, rfl⟩
      rw [hkb] at HX4
      rw [hkb]
      obtain ⟨b0, b1, b2, b3, b4⟩ := five_blk HX4.out
      have hNN1 : X.N ≤ 1048576 := by have := wtx_ge X.ins X.N; have := HSZ.out.2; omega
      have hMM1 : X.M ≤ 1048576 := by have := wtx_ge X.outs X.M; have := HSZ.out.2; omega
      clear hkb hsw HBW
      go_wp2
      go_loopw [3, 6] (fun v c wi => ∃ q : Nat, q ≤ X.N ∧ c = .int .i64 q ∧ wi.ownsRow w.heap.size 5 1 v (L1 ++ linesL 60 X.ins q).length (Lib.byteCells (L1 ++ linesL 60 X.ins q)) ∧ wi.heap[kb]? = some (.cells #[.string X.name, .string X.tool, .string X.arg, .slice ai X.N ci, .slice ao X.M co] 34) ∧ Below w.heap.size w wi) (fun _ c _ => X.N - (intOf c).toNat)
      case atStart => exact ⟨0, Nat.zero_le _, rfl, by simpa [linesL] using HO4.out, HX4.out, HB4.out⟩
      case round =>
        obtain ⟨q, hq, rfl, hown, hbx, hbw⟩ := hrel
        have OW := hid hown
        have HX := hid hbx
        have HB := hid hbw
        obtain ⟨b0, b1, b2, b3, b4⟩ := five_blk hbx
        have hkl := lt_of_heap hbx
        clear hown hbx hbw
        by_cases hlt : q < X.N
        · have hkk : ∃ a', ai = some a' ∧ wr.cell? (a'.add q) = some (.string (X.ins q)) := by
            rcases HTX.out.1.below HB.out with h | ⟨a', e, _, h2⟩
            · omega
            · exact ⟨a', e, h2 q hlt⟩
          obtain ⟨a', rfl, c5⟩ := hkk
          have HT := hid (linesL_succ 60 X.ins q)
          have HZ : Hid ((L1 ++ linesL 60 X.ins q).length + 7 + 3 * (X.ins q).size ≤ 10485760) := by
            show _ ≤ _
            have h1 := linesL_len 60 X.ins q
            have h2 := wtx_at X.ins hlt
            have h3 := HLL.out
            skip
            simp only [List.length_append]
            omega
          have hzq : (X.ins q).size ≤ 1048576 := by
            have h2 := wtx_at X.ins hlt
            have h3 := HSZ.out.2
            omega
          obtain ⟨L2, hL2⟩ : ∃ L2, L1 ++ linesL 60 X.ins q = L2 := ⟨_, rfl⟩
          have HL2 := hid hL2
          rw [hL2] at OW HZ
          obtain ⟨av, cv, rfl⟩ := own_slice' OW.out
          clear hL2
          have hbl : w.heap.size ≤ wr.heap.size := HB.out.size
          go_wp2_with fail
          refine (quote_q _ _ hzq).mono ?_
          rintro e w5 ⟨y, rfl, HY, hy, hb5⟩
          have HO5 := hid (own_below OW.out hb5)
          have HX5 := hid ((hb5.block _ hkl).trans HX.out)
          have HB5 := hid (HB.out.trans (hb5.mono hbl))
          have HYS : Hid (y.size ≤ 3 * (X.ins q).size + 2) := by
            show _ ≤ _
            rw [← len_size y, HY.out]
            have := quoteL_len (X.ins q).data.toList
            rw [len_size] at this
            exact this
          clear hb5 c5 b0 b1 b2 b3 b4
          go_wp2_with (at_builtin; refine Lib.wpList_append_own_string _ rfl _ _ 33 9 rfl w.heap.size 5 i0 Try.underlying33 Try.underlying9 HHI.out.1 HHI.out.2.1 HHI.out.2.2.1 HHI.out.2.2.2 _ _ _ rfl HO5.out (⟨#[32, 32, 60, 32]⟩ ++ y ++ ⟨#[10]⟩) rfl (by rw [line_size]; have := HZ.out; unfold maxLen; omega) (by rw [line_size]; have := HZ.out; omega) HB5.out.size ?_; intro v6 w6 o6 g6 _)
          have HO6 : Hid (w6.ownsRow w.heap.size 5 1 v6 (L1 ++ linesL 60 X.ins (q + 1)).length (Lib.byteCells (L1 ++ linesL 60 X.ins (q + 1)))) := by
            have e : (⟨#[32, 32, 60, 32]⟩ ++ y ++ ⟨#[10]⟩ : ByteArray).data.toList = lineB 60 (X.ins q) := by rw [line_list, HY.out]; rfl
            rw [Lib.strCells_eq, e, ← Lib.byteCells_append, ← len_size, e, ← List.length_append] at o6
            rw [HT.out, ← List.append_assoc, HL2.out]
            exact o6
          have HX6 : Hid (w6.heap[kb]? = some (.cells #[.string X.name, .string X.tool, .string X.arg, .slice (some a') X.N ci, .slice ao X.M co] 34)) := (g6.block _ (lt_of_heap HX5.out) (fun e => Lib.ownBlock_ne HO5.out HX5.out (by decide) e.symm)).trans HX5.out
          have HB6 := hid (HB5.out.grown g6 HB5.out.size (fun k e => (HO5.out.lt k e).1))
          clear o6 g6
          go_wp2
          go_roundw
          case rel => exact ⟨q + 1, by omega, by go_num, HO6.out, HX6.out, HB6.out⟩
          case measure => simp [intOf]; omega
        · obtain rfl : q = X.N := by omega
          obtain ⟨L3, hL3⟩ : ∃ L3, L1 ++ linesL 60 X.ins X.N = L3 := ⟨_, rfl⟩
          have HL3 := hid hL3
          have HLL3 : Hid (L3.length + 7 * wtx X.outs X.M ≤ 10485760) := by
            show _ ≤ _
            have h1 := linesL_len 60 X.ins X.N
            have h2 := HLL.out
            rw [← hL3, List.length_append]
            omega
          rw [hL3] at OW
          obtain ⟨av, cv, rfl⟩ := own_slice' OW.out
          have HO5 := OW
          have HX5 := HX
          have HB5 := HB
          clear hL3
          go_wp2
          go_loopw [3, 7] (fun v c wi => ∃ q : Nat, q ≤ X.M ∧ c = .int .i64 q ∧ wi.ownsRow w.heap.size 5 1 v (L3 ++ linesL 62 X.outs q).length (Lib.byteCells (L3 ++ linesL 62 X.outs q)) ∧ wi.heap[kb]? = some (.cells #[.string X.name, .string X.tool, .string X.arg, .slice ai X.N ci, .slice ao X.M co] 34) ∧ Below w.heap.size w wi) (fun _ c _ => X.M - (intOf c).toNat)
          case atStart => exact ⟨0, Nat.zero_le _, rfl, by simpa [linesL] using HO5.out, HX5.out, HB5.out⟩
          case round =>
            obtain ⟨q, hq, rfl, hown, hbx, hbw⟩ := hrel
            have OW := hid hown
            have HX := hid hbx
            have HB := hid hbw
            obtain ⟨b0, b1, b2, b3, b4⟩ := five_blk hbx
            have hkl := lt_of_heap hbx
            clear hown hbx hbw
            by_cases hlt : q < X.M
            · have hkk : ∃ a', ao = some a' ∧ wr.cell? (a'.add q) = some (.string (X.outs q)) := by
                rcases HTX.out.2.below HB.out with h | ⟨a', e, _, h2⟩
                · omega
                · exact ⟨a', e, h2 q hlt⟩
              obtain ⟨a', rfl, c5⟩ := hkk
              have HT := hid (linesL_succ 62 X.outs q)
              have HZ : Hid ((L3 ++ linesL 62 X.outs q).length + 7 + 3 * (X.outs q).size ≤ 10485760) := by
                show _ ≤ _
                have h1 := linesL_len 62 X.outs q
                have h2 := wtx_at X.outs hlt
                have h3 := HLL.out
                have h4 := HLL3.out
                simp only [List.length_append]
                omega
              have hzq : (X.outs q).size ≤ 1048576 := by
                have h2 := wtx_at X.outs hlt
                have h3 := HSZ.out.2
                omega
              obtain ⟨L2, hL2⟩ : ∃ L2, L3 ++ linesL 62 X.outs q = L2 := ⟨_, rfl⟩
              have HL2 := hid hL2
              rw [hL2] at OW HZ
              obtain ⟨av, cv, rfl⟩ := own_slice' OW.out
              clear hL2
              have hbl : w.heap.size ≤ wr.heap.size := HB.out.size
              go_wp2_with fail
              refine (quote_q _ _ hzq).mono ?_
              rintro e w5 ⟨y, rfl, HY, hy, hb5⟩
              have HO5 := hid (own_below OW.out hb5)
              have HX5 := hid ((hb5.block _ hkl).trans HX.out)
              have HB5 := hid (HB.out.trans (hb5.mono hbl))
              have HYS : Hid (y.size ≤ 3 * (X.outs q).size + 2) := by
                show _ ≤ _
                rw [← len_size y, HY.out]
                have := quoteL_len (X.outs q).data.toList
                rw [len_size] at this
                exact this
              clear hb5 c5 b0 b1 b2 b3 b4
              go_wp2_with (at_builtin; refine Lib.wpList_append_own_string _ rfl _ _ 33 9 rfl w.heap.size 5 i0 Try.underlying33 Try.underlying9 HHI.out.1 HHI.out.2.1 HHI.out.2.2.1 HHI.out.2.2.2 _ _ _ rfl HO5.out (⟨#[32, 32, 62, 32]⟩ ++ y ++ ⟨#[10]⟩) rfl (by rw [line_size]; have := HZ.out; unfold maxLen; omega) (by rw [line_size]; have := HZ.out; omega) HB5.out.size ?_; intro v6 w6 o6 g6 _)
              have HO6 : Hid (w6.ownsRow w.heap.size 5 1 v6 (L3 ++ linesL 62 X.outs (q + 1)).length (Lib.byteCells (L3 ++ linesL 62 X.outs (q + 1)))) := by
                have e : (⟨#[32, 32, 62, 32]⟩ ++ y ++ ⟨#[10]⟩ : ByteArray).data.toList = lineB 62 (X.outs q) := by rw [line_list, HY.out]; rfl
                rw [Lib.strCells_eq, e, ← Lib.byteCells_append, ← len_size, e, ← List.length_append] at o6
                rw [HT.out, ← List.append_assoc, HL2.out]
                exact o6
              have HX6 : Hid (w6.heap[kb]? = some (.cells #[.string X.name, .string X.tool, .string X.arg, .slice ai X.N ci, .slice (some a') X.M co] 34)) := (g6.block _ (lt_of_heap HX5.out) (fun e => Lib.ownBlock_ne HO5.out HX5.out (by decide) e.symm)).trans HX5.out
              have HB6 := hid (HB5.out.grown g6 HB5.out.size (fun k e => (HO5.out.lt k e).1))
              clear o6 g6
              go_wp2
              go_roundw
              case rel => exact ⟨q + 1, by omega, by go_num, HO6.out, HX6.out, HB6.out⟩
              case measure => simp [intOf]; omega
            · obtain rfl : q = X.M := by omega
              have HB7 := HB
              obtain ⟨av, cv, rfl⟩ := own_slice' OW.out
              have HO7 : Hid (wr.ownsRow w.heap.size 5 1 (.slice av (L3 ++ linesL 62 X.outs X.M).length cv) (formL f (j + 1)).length (Lib.byteCells (formL f (j + 1)))) := by
                have e : formL f (j + 1) = L3 ++ linesL 62 X.outs X.M := by
                  rw [HFS.out, ← HL3.out, ← HL1.out]
                  simp [formT]
                rw [e]
                exact OW.out
              go_wp2
              go_roundw
              case rel => exact ⟨j + 1, by omega, by go_num, HO7.out, HB7.out⟩
              case measure => simp [intOf]; omega
    · obtain rfl : j = N := by omega
      have hcv := conv_row wr w.heap.size _ (formL f j) OWN.out
      go_wp2
      go_ret
      exact ⟨rfl, HBW.out⟩
set_option maxHeartbeats 1000000 in
theorem specForm_none (ad : Option Addr) (cap : Nat) (f : Nat → Tg) (w : World) :
    Calls Try.prog 5 #[.slice ad 0 cap] w fun e w' => e = .returned (.string ⟨(formL f 0).toArray⟩) ∧ Below w.heap.size w w' := by
  have OWN : Hid ((w.alloc (.cells #[] 5)).ownsRow w.heap.size 5 1 (.slice (some ⟨w.heap.size, 0, none⟩) 0 0) ([] : List UInt8).length (Lib.byteCells [])) := ⟨rfl, .inr ⟨w.heap.size, 0, #[], rfl, Nat.le_refl _, heap_alloc_new w _, Nat.le_refl _, by unfold maxLen; omega, rfl, rfl⟩⟩
  have HB := hid ((Below.refl w.heap.size w).alloc (Nat.le_refl _) (.cells #[] 5))
  go_enter Try.func5, Try.ntmps5
  go_wp2
  go_loopw [3, 4] (fun v c wr => c = .int .i64 0 ∧ wr.ownsRow w.heap.size 5 1 v ([] : List UInt8).length (Lib.byteCells []) ∧ Below w.heap.size w wr) (fun _ _ _ => 0)
  case atStart => exact ⟨rfl, OWN.out, HB.out⟩
  case round =>
    obtain ⟨rfl, hown, hb⟩ := hrel
    have HB1 := hid hb
    have hcv := conv_row wr w.heap.size _ [] hown
    clear hown hb
    go_wp2
    go_ret
    exact ⟨rfl, HB1.out⟩
theorem specForm_all (ad : Option Addr) (N cap : Nat) (f : Nat → Tg) (w : World) (hW : wpl f N ≤ 1048576) (hn : TgsA w ad N f) :
    Calls Try.prog 5 #[.slice ad N cap] w fun e w' => e = .returned (.string ⟨(formL f N).toArray⟩) ∧ Below w.heap.size w w' := by
  rcases hn with rfl | ⟨a, rfl, h1, h2⟩
  · exact specForm_none ad cap f w
  · exact specForm_any a N cap f w hW h1 h2
end Go.Proofs.Ytkdedehneopgbaa
