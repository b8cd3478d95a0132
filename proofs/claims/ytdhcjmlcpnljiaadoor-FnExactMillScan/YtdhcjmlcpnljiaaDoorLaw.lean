import Derived.Test.YtdhcjmlcpnljiaaDoorLEqS
namespace Go.Proofs.YtdhcjmlcpnljiaaDoor
open Go.RowKit
theorem scanR_len (l : List UInt8) : (scanR l).1.length ≤ 8001 := by
  unfold scanR
  by_cases h : 8000 < l.length
  · rw [if_pos h]; simp
  · rw [if_neg h]
    have hl := scanA_len (l.length + 1) l (gapN false l)
    rcases hr : scanA (l.length + 1) l (gapN false l) with ⟨ts, o⟩
    rw [hr] at hl
    cases o with
    | none => simp [itemsOf] at hl; simp; omega
    | some x => simp
theorem sScan_all (s : ByteArray) (w : World) (hs : s.size ≤ maxLen) :
    Calls Tryd.prog 11 #[.string s] w fun e w' => ∃ v, e = .returned (.tuple #[v, .agg #[.int .i64 (scanR s.data.toList).2.1, .int .i64 (scanR s.data.toList).2.2]]) ∧
      w'.ownsRow w.heap.size 49 4 v (scanR s.data.toList).1.length (tokRow (scanR s.data.toList).1) ∧ Below w.heap.size w w' := by
  by_cases h : 8000 < s.size
  · have e : scanR s.data.toList = ([], 1, 0) := by unfold scanR; rw [if_pos (by rw [len_size]; exact h)]
    rw [e]; exact sScan_long s w hs h
  · exact sScan_any s w (by omega)
theorem iScan_all (s : ByteArray) (w : World) (hs : s.size ≤ maxLen) (hE : Env w) :
    Calls Tryd.prog 12 #[.string s] w fun e w' => ∃ v, e = .returned (.tuple #[v, .agg #[.int .i64 (scanR s.data.toList).2.1, .int .i64 (scanR s.data.toList).2.2]]) ∧
      w'.ownsRow w.heap.size 49 4 v (scanR s.data.toList).1.length (tokRow (scanR s.data.toList).1) ∧ Below w.heap.size w w' := by
  by_cases h : 8000 < s.size
  · have e : scanR s.data.toList = ([], 1, 0) := by unfold scanR; rw [if_pos (by rw [len_size]; exact h)]
    rw [e]; exact iScan_long s w hs h
  · exact iScan_any s w (by omega) hE
theorem own_low {w w1 : World} {N B e size k : Nat} {v : Value} {xs : List Value} (h : w.ownsRow B e size v k xs) (hN : ∀ g, v.ownBlock = some g → g < N) (hb : Below N w w1) : w1.ownsRow B e size v k xs := by
  obtain ⟨h1, h2 | ⟨g, cap, cur, rfl, b, c, d⟩⟩ := h
  · exact ⟨h1, .inl h2⟩
  · exact ⟨h1, .inr ⟨g, cap, cur, rfl, b, (hb.block g (hN g rfl)).trans c, d⟩⟩
/-- A fault that lies in a box. -/
def FltAt (W : World) (b : Nat) (c p : Int) : Prop := W.heap[b]? = some (.cells #[.int .i64 c, .int .i64 p] 32 (0, 0))
theorem FltAt.low {W W' : World} {b N : Nat} {c p : Int} (h : FltAt W b c p) (hb : Below N W W') (hN : b < N) : FltAt W' b c p := (hb.block b hN).trans h
theorem FltAt.below {W W' : World} {b : Nat} {c p : Int} (h : FltAt W b c p) (hb : Below W.heap.size W W') : FltAt W' b c p := h.low hb (Array.getElem?_eq_some_iff.1 h).1
/-- What stays from the first scan on. -/
structure St (w : World) (v0 : Value) (ts : List Tok) (b1 : Nat) (c p : Int) (W : World) : Prop where
  own : W.ownsRow w.heap.size 49 4 v0 ts.length (tokRow ts)
  flt : FltAt W b1 c p
  env : Env W
  below : Below w.heap.size w W
theorem St.later {w W W' : World} {v0 : Value} {ts : List Tok} {b1 : Nat} {c p : Int} (h : St w v0 ts b1 c p W) (hb : Below W.heap.size W W') : St w v0 ts b1 c p W' :=
  ⟨own_below h.own hb, h.flt.below hb, h.env.below hb, h.below.trans (hb.mono h.below.size)⟩
theorem St.low {w W W' : World} {v0 : Value} {ts : List Tok} {b1 N : Nat} {c p : Int} (h : St w v0 ts b1 c p W) (hb : Below N W W') (hN : ∀ g, v0.ownBlock = some g → g < N) (hb1 : b1 < N) (h6 : 6 ≤ N) (hNW : N ≤ W.heap.size) (hw : w.heap.size ≤ N) : St w v0 ts b1 c p W' :=
  ⟨own_low h.own hN hb, h.flt.low hb hb1, h.env.low h6 hNW hb, h.below.trans (hb.mono hw)⟩
set_option maxRecDepth 20000 in
set_option maxHeartbeats 2000000 in
theorem law_any (s : ByteArray) (w : World) (hs : s.size ≤ maxLen) (hE : Env w) :
    Calls Tryd.prog 4 #[.string s] w fun e w' => e = .returned (.bool true) ∧ Below w.heap.size w w' := by
  have hs' := hs
  unfold maxLen at hs'
  by_cases hbig : 1048576 < s.size
  · go_enter Tryd.func4, Tryd.ntmps4
    go_wp2
    go_ret
    exact ⟨rfl, Below.refl _ _⟩
  · have hlen := scanR_len s.data.toList
    have HCS := hid (sScan_all s w hs)
    have HCI : Hid (∀ W, Env W → Calls Tryd.prog 12 #[.string s] W fun e w' => ∃ v, e = .returned (.tuple #[v, .agg #[.int .i64 (scanR s.data.toList).2.1, .int .i64 (scanR s.data.toList).2.2]]) ∧
      w'.ownsRow W.heap.size 49 4 v (scanR s.data.toList).1.length (tokRow (scanR s.data.toList).1) ∧ Below W.heap.size W w') := fun W h => iScan_all s W hs h
    generalize scanR s.data.toList = R at *
    obtain ⟨ts, c, p⟩ := R
    simp only at hlen HCS HCI
    clear hs
    have HE := hid hE
    clear hE
    go_enter Tryd.func4, Tryd.ntmps4
    go_wp2_with fail
    refine HCS.out.mono ?_
    rintro e w1 ⟨v0, rfl, own0, b1⟩
    have OWN0 := hid own0
    have B1 := hid b1
    have hN0 : Hid (∀ g, v0.ownBlock = some g → g < w1.heap.size + 1) := fun g hg => Nat.lt_succ_of_lt (own0.lt g hg).2
    clear own0 b1
    have F1 : Hid (FltAt (w1.alloc (.cells #[.int .i64 c, .int .i64 p] 32)) w1.heap.size c p) := heap_alloc_new w1 _
    have E1 : Hid (Env (w1.alloc (.cells #[.int .i64 c, .int .i64 p] 32))) := HE.out.below (B1.out.alloc B1.out.size _)
    have O1 : Hid ((w1.alloc (.cells #[.int .i64 c, .int .i64 p] 32)).ownsRow w.heap.size 49 4 v0 ts.length (tokRow ts)) := OWN0.out.alloc _
    have BA1 : Hid (Below w.heap.size w (w1.alloc (.cells #[.int .i64 c, .int .i64 p] 32))) := B1.out.alloc B1.out.size _
    have S1 : Hid ((w1.alloc (.cells #[.int .i64 c, .int .i64 p] 32)).heap.size = w1.heap.size + 1) := World.size_alloc _ _
    go_wp2_with fail
    refine (HCI.out _ E1.out).mono ?_
    rintro e w2 ⟨v1, rfl, own1, b2⟩
    generalize hW1 : w1.alloc (.cells #[.int .i64 c, .int .i64 p] 32) = W1 at *
    clear hW1
    have OWN1 := hid own1
    have B2 := hid b2
    clear own1 b2
    have ST1 : Hid (St w v0 ts w1.heap.size c p W1) := ⟨O1.out, F1.out, E1.out, BA1.out⟩
    clear O1 F1 E1 BA1 OWN0
    have BB2 := hid (B2.out.alloc B2.out.size (.cells #[.int .i64 c, .int .i64 p] 32))
    have ST2 := hid (ST1.out.later BB2.out)
    have F2 : Hid (FltAt (w2.alloc (.cells #[.int .i64 c, .int .i64 p] 32)) w2.heap.size c p) := heap_alloc_new w2 _
    have O2 : Hid ((w2.alloc (.cells #[.int .i64 c, .int .i64 p] 32)).ownsRow W1.heap.size 49 4 v1 ts.length (tokRow ts)) := OWN1.out.alloc _
    clear OWN1 B2
    go_wp2_with fail
    refine (eqS_any O2.out ST2.out.own hlen).mono ?_
    rintro e w3 ⟨rfl, b3⟩
    generalize hW2 : w2.alloc (.cells #[.int .i64 c, .int .i64 p] 32) = W2 at *
    clear hW2
    have ST3 := hid (ST2.out.later b3)
    have F3 := hid (F2.out.below b3)
    have O3 := hid (own_below O2.out b3)
    have Z3 : Hid (W1.heap.size ≤ w3.heap.size) := Nat.le_trans BB2.out.size b3.size
    clear b3 F2 O2
    have x0 : w3.cell? ⟨w1.heap.size, 0, none⟩ = some (.int .i64 c) := cell_heap ST3.out.flt 0
    have x1 : w3.cell? ⟨w1.heap.size, 1, none⟩ = some (.int .i64 p) := cell_heap ST3.out.flt 1
    have y0 : w3.cell? ⟨w2.heap.size, 0, none⟩ = some (.int .i64 c) := cell_heap F3.out 0
    have y1 : w3.cell? ⟨w2.heap.size, 1, none⟩ = some (.int .i64 p) := cell_heap F3.out 1
    go_wp2_with fail
    refine (eqFlt_any _ _ _).mono ?_
    rintro e w4 ⟨rfl, b4⟩
    have ST4 := hid (ST3.out.later b4)
    have O4 := hid (own_below O3.out b4)
    have Z4 : Hid (W1.heap.size ≤ w4.heap.size) := Nat.le_trans Z3.out b4.size
    clear b4 x0 x1 y0 y1 F3 O3
    go_wp2_with fail
    refine (mark_any O4.out hlen).mono ?_
    rintro e w5 ⟨rfl, b5, mk⟩
    have h6 : 6 ≤ W1.heap.size := ST1.out.env.size
    have ST5 := hid (ST4.out.low b5 (fun g hg => by rw [S1.out]; exact hN0.out g hg) (by rw [S1.out]; exact Nat.lt_succ_self _) h6 Z4.out ST1.out.below.size)
    have MK5 := hid mk
    clear b5 mk h6
    go_wp2_with fail
    refine (held_any MK5.out hlen).mono ?_
    rintro e w6 ⟨rfl, b6⟩
    have ST6 := hid (ST5.out.later b6)
    have MK6 := hid (MK5.out.below b6)
    clear b6
    go_wp2_with fail
    refine (HCI.out _ ST6.out.env).mono ?_
    rintro e w7 ⟨v2, rfl, own2, b7⟩
    have O7 : Hid ((w7.alloc (.cells #[.int .i64 c, .int .i64 p] 32)).ownsRow w6.heap.size 49 4 v2 ts.length (tokRow ts)) := own2.alloc _
    have BB7 := hid (b7.alloc b7.size (.cells #[.int .i64 c, .int .i64 p] 32))
    have F7 : Hid (FltAt (w7.alloc (.cells #[.int .i64 c, .int .i64 p] 32)) w7.heap.size c p) := heap_alloc_new w7 _
    have ST7 := hid (ST6.out.later BB7.out)
    have MK7 := hid (MK6.out.below BB7.out)
    clear own2 b7
    go_wp2_with fail
    refine (eqS_any O7.out ST7.out.own hlen).mono ?_
    rintro e w8 ⟨rfl, b8⟩
    have ST8 := hid (ST7.out.later b8)
    have MK8 := hid (MK7.out.below b8)
    have F8 := hid (F7.out.below b8)
    have x0 : w8.cell? ⟨w1.heap.size, 0, none⟩ = some (.int .i64 c) := cell_heap ST8.out.flt 0
    have x1 : w8.cell? ⟨w1.heap.size, 1, none⟩ = some (.int .i64 p) := cell_heap ST8.out.flt 1
    have y0 : w8.cell? ⟨w7.heap.size, 0, none⟩ = some (.int .i64 c) := cell_heap F8.out 0
    have y1 : w8.cell? ⟨w7.heap.size, 1, none⟩ = some (.int .i64 p) := cell_heap F8.out 1
    clear b8
    go_wp2_with fail
    refine (eqFlt_any _ _ _).mono ?_
    rintro e w9 ⟨rfl, b9⟩
    have ST9 := hid (ST8.out.later b9)
    have MK9 := hid (MK8.out.below b9)
    clear b9 x0 x1 y0 y1
    go_wp2_with fail
    refine (held_any MK9.out hlen).mono ?_
    rintro e w10 ⟨rfl, b10⟩
    have ST10 := hid (ST9.out.later b10)
    clear b10
    go_wp2
    go_ret
    exact ⟨rfl, ST10.out.below⟩
end Go.Proofs.YtdhcjmlcpnljiaaDoor
