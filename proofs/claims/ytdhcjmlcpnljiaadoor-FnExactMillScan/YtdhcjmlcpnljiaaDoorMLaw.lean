import Derived.Test.YtdhcjmlcpnljiaaDoorMLEqS
import Derived.Test.YtdhcjmlcpnljiaaDoorLaw
/-! Printed by gen_law.py. -/
namespace Go.Proofs.YtdhcjmlcpnljiaaDoor
open Go.RowKit
theorem mscanR_len (l : List UInt8) : (mscanR l).1.length ≤ 12001 := by
  unfold mscanR
  by_cases h : 12000 < l.length
  · rw [if_pos h]; simp
  · rw [if_neg h]
    have hl := mscanA_len (l.length + 1) l (gapN false l)
    rcases hr : mscanA (l.length + 1) l (gapN false l) with ⟨ts, o⟩
    rw [hr] at hl
    cases o with
    | none => simp [mitemsOf] at hl; simp; omega
    | some x => simp
theorem mScan_all (s : ByteArray) (w : World) (hs : s.size ≤ maxLen) :
    Calls Tryd.prog 5 #[.string s] w fun e w' => ∃ v, e = .returned (.tuple #[v, .agg #[.int .i64 (mscanR s.data.toList).2.1, .int .i64 (mscanR s.data.toList).2.2]]) ∧
      w'.ownsRow w.heap.size 39 5 v (mscanR s.data.toList).1.length (mtokRow (mscanR s.data.toList).1) ∧ Below w.heap.size w w' := by
  by_cases h : 12000 < s.size
  · have e : mscanR s.data.toList = ([], 1, 0) := by unfold mscanR; rw [if_pos (by rw [len_size]; exact h)]
    rw [e]; exact mScan_long s w hs h
  · exact mScan_any s w (by omega)
theorem miScan_all (s : ByteArray) (w : World) (hs : s.size ≤ maxLen) (hE : EnvM w) :
    Calls Tryd.prog 6 #[.string s] w fun e w' => ∃ v, e = .returned (.tuple #[v, .agg #[.int .i64 (mscanR s.data.toList).2.1, .int .i64 (mscanR s.data.toList).2.2]]) ∧
      w'.ownsRow w.heap.size 39 5 v (mscanR s.data.toList).1.length (mtokRow (mscanR s.data.toList).1) ∧ Below w.heap.size w w' := by
  by_cases h : 12000 < s.size
  · have e : mscanR s.data.toList = ([], 1, 0) := by unfold mscanR; rw [if_pos (by rw [len_size]; exact h)]
    rw [e]; exact miScan_long s w hs h
  · exact miScan_any s w (by omega) hE
/-- A fault that lies in a box. -/
def MFltAt (W : World) (b : Nat) (c p : Int) : Prop := W.heap[b]? = some (.cells #[.int .i64 c, .int .i64 p] 24 (0, 0))
theorem MFltAt.low {W W' : World} {b N : Nat} {c p : Int} (h : MFltAt W b c p) (hb : Below N W W') (hN : b < N) : MFltAt W' b c p := (hb.block b hN).trans h
theorem MFltAt.below {W W' : World} {b : Nat} {c p : Int} (h : MFltAt W b c p) (hb : Below W.heap.size W W') : MFltAt W' b c p := h.low hb (Array.getElem?_eq_some_iff.1 h).1
/-- What stays from the first scan on. -/
structure MSt (w : World) (v0 : Value) (ts : List MTok) (b1 : Nat) (c p : Int) (W : World) : Prop where
  own : W.ownsRow w.heap.size 39 5 v0 ts.length (mtokRow ts)
  flt : MFltAt W b1 c p
  env : EnvM W
  below : Below w.heap.size w W
theorem MSt.later {w W W' : World} {v0 : Value} {ts : List MTok} {b1 : Nat} {c p : Int} (h : MSt w v0 ts b1 c p W) (hb : Below W.heap.size W W') : MSt w v0 ts b1 c p W' :=
  ⟨own_below h.own hb, h.flt.below hb, h.env.below hb, h.below.trans (hb.mono h.below.size)⟩
theorem MSt.low {w W W' : World} {v0 : Value} {ts : List MTok} {b1 N : Nat} {c p : Int} (h : MSt w v0 ts b1 c p W) (hb : Below N W W') (hN : ∀ g, v0.ownBlock = some g → g < N) (hb1 : b1 < N) (h6 : 6 ≤ N) (hNW : N ≤ W.heap.size) (hw : w.heap.size ≤ N) : MSt w v0 ts b1 c p W' :=
  ⟨own_low h.own hN hb, h.flt.low hb hb1, h.env.low h6 hNW hb, h.below.trans (hb.mono hw)⟩
set_option maxRecDepth 20000 in
set_option maxHeartbeats 2000000 in
theorem mlaw_any (s : ByteArray) (w : World) (hs : s.size ≤ maxLen) (hE : EnvM w) :
    Calls Tryd.prog 3 #[.string s] w fun e w' => e = .returned (.bool true) ∧ Below w.heap.size w w' := by
  have hs' := hs
  unfold maxLen at hs'
  by_cases hbig : 1048576 < s.size
  · go_enter Tryd.func3, Tryd.ntmps3
    go_wp2
    go_ret
    exact ⟨rfl, Below.refl _ _⟩
  · have hlen := mscanR_len s.data.toList
    have HCS := hid (mScan_all s w hs)
    have HCI : Hid (∀ W, EnvM W → Calls Tryd.prog 6 #[.string s] W fun e w' => ∃ v, e = .returned (.tuple #[v, .agg #[.int .i64 (mscanR s.data.toList).2.1, .int .i64 (mscanR s.data.toList).2.2]]) ∧
      w'.ownsRow W.heap.size 39 5 v (mscanR s.data.toList).1.length (mtokRow (mscanR s.data.toList).1) ∧ Below W.heap.size W w') := fun W h => miScan_all s W hs h
    generalize mscanR s.data.toList = R at *
    obtain ⟨ts, c, p⟩ := R
    simp only at hlen HCS HCI
    clear hs
    have HE := hid hE
    clear hE
    go_enter Tryd.func3, Tryd.ntmps3
    go_wp2_with fail
    refine HCS.out.mono ?_
    rintro e w1 ⟨v0, rfl, own0, b1⟩
    have OWN0 := hid own0
    have B1 := hid b1
    have hN0 : Hid (∀ g, v0.ownBlock = some g → g < w1.heap.size + 1) := fun g hg => Nat.lt_succ_of_lt (own0.lt g hg).2
    clear own0 b1
    have F1 : Hid (MFltAt (w1.alloc (.cells #[.int .i64 c, .int .i64 p] 24)) w1.heap.size c p) := heap_alloc_new w1 _
    have E1 : Hid (EnvM (w1.alloc (.cells #[.int .i64 c, .int .i64 p] 24))) := HE.out.below (B1.out.alloc B1.out.size _)
    have O1 : Hid ((w1.alloc (.cells #[.int .i64 c, .int .i64 p] 24)).ownsRow w.heap.size 39 5 v0 ts.length (mtokRow ts)) := OWN0.out.alloc _
    have BA1 : Hid (Below w.heap.size w (w1.alloc (.cells #[.int .i64 c, .int .i64 p] 24))) := B1.out.alloc B1.out.size _
    have S1 : Hid ((w1.alloc (.cells #[.int .i64 c, .int .i64 p] 24)).heap.size = w1.heap.size + 1) := World.size_alloc _ _
    go_wp2_with fail
    refine (HCI.out _ E1.out).mono ?_
    rintro e w2 ⟨v1, rfl, own1, b2⟩
    generalize hW1 : w1.alloc (.cells #[.int .i64 c, .int .i64 p] 24) = W1 at *
    clear hW1
    have OWN1 := hid own1
    have B2 := hid b2
    clear own1 b2
    have ST1 : Hid (MSt w v0 ts w1.heap.size c p W1) := ⟨O1.out, F1.out, E1.out, BA1.out⟩
    clear O1 F1 E1 BA1 OWN0
    have BB2 := hid (B2.out.alloc B2.out.size (.cells #[.int .i64 c, .int .i64 p] 24))
    have ST2 := hid (ST1.out.later BB2.out)
    have F2 : Hid (MFltAt (w2.alloc (.cells #[.int .i64 c, .int .i64 p] 24)) w2.heap.size c p) := heap_alloc_new w2 _
    have O2 : Hid ((w2.alloc (.cells #[.int .i64 c, .int .i64 p] 24)).ownsRow W1.heap.size 39 5 v1 ts.length (mtokRow ts)) := OWN1.out.alloc _
    clear OWN1 B2
    go_wp2_with fail
    refine (meqS_any O2.out ST2.out.own hlen).mono ?_
    rintro e w3 ⟨rfl, b3⟩
    generalize hW2 : w2.alloc (.cells #[.int .i64 c, .int .i64 p] 24) = W2 at *
    clear hW2
    have ST3 := hid (ST2.out.later b3)
    have F3 := hid (F2.out.below b3)
    have O3 := hid (own_below O2.out b3)
    have Z3 : Hid (W1.heap.size ≤ w3.heap.size) := Nat.le_trans BB2.out.size b3.size
    clear b3 F2 O2
    have x0 : w3.cell? ⟨w1.heap.size, 0, none⟩ = some (.int .i64 c) := cell_heap ST3.out.flt 0
    have x1 : w3.cell? ⟨w1.heap.size, 1, none⟩ = some (.int .i64 p) := cell_heap ST3.out.flt 1
    have y0 : w3.cell? ⟨w2.heap.size, 0, none⟩ = some (.int .i64 c) := cell_heap F3.out 0
    have y1 : w3.cell? ⟨w2.heap.size, 1, none⟩ = some (.int .i64 p) := cell_heap F3.out 1
    go_wp2_with fail
    refine (eqMFlt_any _ _ _).mono ?_
    rintro e w4 ⟨rfl, b4⟩
    have ST4 := hid (ST3.out.later b4)
    have O4 := hid (own_below O3.out b4)
    have Z4 : Hid (W1.heap.size ≤ w4.heap.size) := Nat.le_trans Z3.out b4.size
    clear b4 x0 x1 y0 y1 F3 O3
    go_wp2_with fail
    refine (mmark_any O4.out hlen).mono ?_
    rintro e w5 ⟨rfl, b5, mk⟩
    have h6 : 6 ≤ W1.heap.size := ST1.out.env.size
    have ST5 := hid (ST4.out.low b5 (fun g hg => by rw [S1.out]; exact hN0.out g hg) (by rw [S1.out]; exact Nat.lt_succ_self _) h6 Z4.out ST1.out.below.size)
    have MK5 := hid mk
    clear b5 mk h6
    go_wp2_with fail
    refine (mheld_any MK5.out hlen).mono ?_
    rintro e w6 ⟨rfl, b6⟩
    have ST6 := hid (ST5.out.later b6)
    have MK6 := hid (MK5.out.below b6)
    clear b6
    go_wp2_with fail
    refine (HCI.out _ ST6.out.env).mono ?_
    rintro e w7 ⟨v2, rfl, own2, b7⟩
    have O7 : Hid ((w7.alloc (.cells #[.int .i64 c, .int .i64 p] 24)).ownsRow w6.heap.size 39 5 v2 ts.length (mtokRow ts)) := own2.alloc _
    have BB7 := hid (b7.alloc b7.size (.cells #[.int .i64 c, .int .i64 p] 24))
    have F7 : Hid (MFltAt (w7.alloc (.cells #[.int .i64 c, .int .i64 p] 24)) w7.heap.size c p) := heap_alloc_new w7 _
    have ST7 := hid (ST6.out.later BB7.out)
    have MK7 := hid (MK6.out.below BB7.out)
    clear own2 b7
    go_wp2_with fail
    refine (meqS_any O7.out ST7.out.own hlen).mono ?_
    rintro e w8 ⟨rfl, b8⟩
    have ST8 := hid (ST7.out.later b8)
    have MK8 := hid (MK7.out.below b8)
    have F8 := hid (F7.out.below b8)
    have x0 : w8.cell? ⟨w1.heap.size, 0, none⟩ = some (.int .i64 c) := cell_heap ST8.out.flt 0
    have x1 : w8.cell? ⟨w1.heap.size, 1, none⟩ = some (.int .i64 p) := cell_heap ST8.out.flt 1
    have y0 : w8.cell? ⟨w7.heap.size, 0, none⟩ = some (.int .i64 c) := cell_heap F8.out 0
    have y1 : w8.cell? ⟨w7.heap.size, 1, none⟩ = some (.int .i64 p) := cell_heap F8.out 1
    clear b8
    go_wp2_with fail
    refine (eqMFlt_any _ _ _).mono ?_
    rintro e w9 ⟨rfl, b9⟩
    have ST9 := hid (ST8.out.later b9)
    have MK9 := hid (MK8.out.below b9)
    clear b9 x0 x1 y0 y1
    go_wp2_with fail
    refine (mheld_any MK9.out hlen).mono ?_
    rintro e w10 ⟨rfl, b10⟩
    have ST10 := hid (ST9.out.later b10)
    clear b10
    go_wp2
    go_ret
    exact ⟨rfl, ST10.out.below⟩
end Go.Proofs.YtdhcjmlcpnljiaaDoor
