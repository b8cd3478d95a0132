import Derived.ProofKit
import Derived.Deep.Slices
import Derived.Lib.LazyBuf
import Derived.Lib.Strings
import Derived.Lib.BufferRead
import Derived.Test.YteeiblhjjeognaaGreatDoorJ10
import Derived.Test.YteeiblhjjeognaaGreatDoorJ14
/-! What came in. -/
namespace Go.Proofs.YteeiblhjjeognaaGreatDoor.R
open Go.RowKit
set_option maxRecDepth 20000
open Go.ChangeShapes Go.WideShapes Go.ChangeAt Go.Deep
theorem bounds {x : Int} (h : (Lit.int .i64 x).wf = true) : -9223372036854775808 ≤ x ∧ x ≤ 9223372036854775807 := by
  simpa [Lit.wf, IntKind.min, IntKind.max, IntKind.signed, IntKind.bits] using h
theorem cellsint : Tryz.prog.cellsOf 3 = 1 := by kernel_rfl
theorem cellsInt : Tryz.prog.cellsOf 3 = 1 := by kernel_rfl
theorem cellsStr : Tryz.prog.cellsOf 9 = 1 := by kernel_rfl
theorem cellsSInt : Tryz.prog.cellsOf 41 = 1 := by kernel_rfl
theorem SInt_open {H : Type} {enc : TypeId × Value → H} {W : World} {base : Nat} {spare : Nat → Bool} {held : Bool} {n : Nat} {v : Value} {z : DataW H × List MemPlace} (f0 : DataW.trod enc Tryz.prog W base spare held n 41 [v] = some z) :
    ∃ l : List Int, SIntA W v l ∧ l.length ≤ maxLen := by
  rcases open_slice Tryz.underlying41 f0 with ⟨e, _⟩ | ⟨a, len, cap, m, n2, D, Pl, e, hb, hlc, hcm, hm, _, hel⟩
  · exact ⟨[], ⟨none, 0, by simpa using e, .inl rfl⟩, Nat.zero_le _⟩
  · have hall : ∀ i, ∃ x : Int, i < len → (IntA W (a.add i) x) ∧ True ∧ a.block < W.heap.size := fun i => by
      by_cases hi : i < len
      · have hm2 : len ≤ m := by rw [hm]; split <;> omega
        obtain ⟨cs', hc, ht⟩ := hel i (by omega)
        rw [cellsint, Nat.mul_one] at hc
        obtain ⟨x, e0, _, _⟩ := DataW.trod_int Tryz.underlying3 ht
        subst e0
        refine ⟨x, fun _ => ?_⟩
        have hbl := World.cells?_block hc (by omega)
        rw [add_block] at hbl
        obtain ⟨_, _, hg⟩ := World.cells?_some hc
        exact ⟨(by have := hg 0 (by omega); simpa [Addr.add, IntA] using this), trivial, hbl⟩
      · exact ⟨0, fun h => absurd h hi⟩
    obtain ⟨f, hnd⟩ := Classical.skolem.1 hall
    have hget : ∀ i, i < len → ((List.range len).map f).getD i 0 = f i := fun i hi => by simp [List.getD_eq_getElem?_getD, hi]
    have hlen : ((List.range len).map f).length = len := by simp
    refine ⟨(List.range len).map f, ⟨some a, cap, by rw [hlen]; simpa using e, ?_⟩, ?_⟩
    · by_cases h0 : len = 0
      · subst h0; exact .inl rfl
      · refine .inr ⟨a, rfl, (hnd 0 (by omega)).2.2, fun i hi => ?_⟩
        rw [hlen] at hi
        rw [hget i hi]
        exact (hnd i hi).1
    · rw [hlen]; omega
theorem cellsIn : Tryz.prog.cellsOf 155 = 4 := by kernel_rfl
theorem In_open {H : Type} {enc : TypeId × Value → H} {W : World} {base : Nat} {spare : Nat → Bool} {held : Bool} {n : Nat} {cs : List Value} {z : DataW H × List MemPlace} (h : DataW.trod enc Tryz.prog W base spare held n 155 cs = some z) :
    ∃ (x : C.In), cs = [.int .i64 x.op, .int .i64 x.a, .int .i64 x.n, .string x.text] ∧ OkIn x := by
  obtain ⟨xs, m, _, _, hl, hlen, hf⟩ := DataW.trod_struct Tryz.underlying155 h
  rw [cellsIn] at hl
  match cs, hl with
  | [c0, c1, c2, c3], _ =>
    match xs, hlen with
    | [y0, y1, y2, y3], _ =>
      have f0 := hf 0 _ rfl
      simp [cellsInt] at f0
      obtain ⟨x0, e0, _, h0⟩ := DataW.trod_int Tryz.underlying3 f0
      cases e0
      have f1 := hf 1 _ rfl
      simp [cellsInt] at f1
      obtain ⟨x1, e1, _, h1⟩ := DataW.trod_int Tryz.underlying3 f1
      cases e1
      have f2 := hf 2 _ rfl
      simp at f2
      obtain ⟨x2, e2, _, h2⟩ := DataW.trod_int Tryz.underlying2 f2
      cases e2
      have f3 := hf 3 _ rfl
      simp [cellsStr] at f3
      obtain ⟨x3, e3, _, h3⟩ := DataW.trod_string Tryz.underlying9 f3
      cases e3
      exact ⟨⟨x0, x1, x2, x3⟩, rfl, ⟨(bounds h0), (bounds h1), (bounds h2), h3⟩⟩
theorem cellsSIn : Tryz.prog.cellsOf 70 = 1 := by kernel_rfl
theorem SIn_open {H : Type} {enc : TypeId × Value → H} {W : World} {base : Nat} {spare : Nat → Bool} {held : Bool} {n : Nat} {v : Value} {z : DataW H × List MemPlace} (f0 : DataW.trod enc Tryz.prog W base spare held n 70 [v] = some z) :
    ∃ l : List C.In, SInA W v l ∧ OkInS l := by
  rcases open_slice Tryz.underlying70 f0 with ⟨e, _⟩ | ⟨a, len, cap, m, n2, D, Pl, e, hb, hlc, hcm, hm, _, hel⟩
  · exact ⟨[], ⟨none, 0, by simpa using e, .inl rfl⟩, ⟨Nat.zero_le _, fun i h => absurd h (Nat.not_lt_zero _)⟩⟩
  · have hall : ∀ i, ∃ x : C.In, i < len → (InA W (a.add (i * 4)) x) ∧ OkIn x ∧ a.block < W.heap.size := fun i => by
      by_cases hi : i < len
      · have hm2 : len ≤ m := by rw [hm]; split <;> omega
        obtain ⟨cs', hc, ht⟩ := hel i (by omega)
        rw [cellsIn] at hc
        obtain ⟨x, rfl, hx⟩ := In_open ht
        refine ⟨x, fun _ => ?_⟩
        have hbl := World.cells?_block hc (by omega)
        rw [add_block] at hbl
        obtain ⟨_, _, hg⟩ := World.cells?_some hc
        exact ⟨⟨(by have := hg 0 (by omega); simpa [Addr.add] using this), (by have := hg 1 (by omega); rw [add_one _ 1 (by decide)] at this; simpa using this), (by have := hg 2 (by omega); rw [add_one _ 2 (by decide)] at this; simpa using this), (by have := hg 3 (by omega); rw [add_one _ 3 (by decide)] at this; simpa using this)⟩, hx, hbl⟩
      · exact ⟨C.in0, fun h => absurd h hi⟩
    obtain ⟨f, hnd⟩ := Classical.skolem.1 hall
    have hget : ∀ i, i < len → ((List.range len).map f).getD i C.in0 = f i := fun i hi => by simp [List.getD_eq_getElem?_getD, hi]
    have hlen : ((List.range len).map f).length = len := by simp
    refine ⟨(List.range len).map f, ⟨some a, cap, by rw [hlen]; simpa using e, ?_⟩, ?_⟩
    · by_cases h0 : len = 0
      · subst h0; exact .inl rfl
      · refine .inr ⟨a, rfl, (hnd 0 (by omega)).2.2, fun i hi => ?_⟩
        rw [hlen] at hi
        rw [hget i hi]
        exact (hnd i hi).1
    · refine ⟨by rw [hlen]; omega, fun i hi => ?_⟩
      rw [hlen] at hi
      rw [hget i hi]
      exact (hnd i hi).2.1
theorem cellsFn : Tryz.prog.cellsOf 72 = 5 := by kernel_rfl
theorem Fn_open {H : Type} {enc : TypeId × Value → H} {W : World} {base : Nat} {spare : Nat → Bool} {held : Bool} {n : Nat} {cs : List Value} {z : DataW H × List MemPlace} (h : DataW.trod enc Tryz.prog W base spare held n 72 cs = some z) :
    ∃ (x : C.Fn) (v0 : Value) (v1 : Value), cs = [.string x.name, v0, .int .i64 x.result, .int .i64 x.slots, v1] ∧ SIntA W v0 x.params ∧ SInA W v1 x.ins ∧ OkFn x := by
  obtain ⟨xs, m, _, _, hl, hlen, hf⟩ := DataW.trod_struct Tryz.underlying72 h
  rw [cellsFn] at hl
  match cs, hl with
  | [c0, c1, c2, c3, c4], _ =>
    match xs, hlen with
    | [y0, y1, y2, y3, y4], _ =>
      have f0 := hf 0 _ rfl
      simp [cellsStr] at f0
      obtain ⟨x0, e0, _, h0⟩ := DataW.trod_string Tryz.underlying9 f0
      cases e0
      have f1 := hf 1 _ rfl
      simp [cellsSInt] at f1
      obtain ⟨x1, r1, h1⟩ := SInt_open f1
      have f2 := hf 2 _ rfl
      simp [cellsInt] at f2
      obtain ⟨x2, e2, _, h2⟩ := DataW.trod_int Tryz.underlying3 f2
      cases e2
      have f3 := hf 3 _ rfl
      simp [cellsInt] at f3
      obtain ⟨x3, e3, _, h3⟩ := DataW.trod_int Tryz.underlying3 f3
      cases e3
      have f4 := hf 4 _ rfl
      simp [cellsSIn] at f4
      obtain ⟨x4, r4, h4⟩ := SIn_open f4
      exact ⟨⟨x0, x1, x2, x3, x4⟩, c1, c4, rfl, r1, r4, ⟨h0, h1, (bounds h2), (bounds h3), h4⟩⟩
theorem cellsSFn : Tryz.prog.cellsOf 22 = 1 := by kernel_rfl
theorem SFn_open {H : Type} {enc : TypeId × Value → H} {W : World} {base : Nat} {spare : Nat → Bool} {held : Bool} {n : Nat} {v : Value} {z : DataW H × List MemPlace} (f0 : DataW.trod enc Tryz.prog W base spare held n 22 [v] = some z) :
    ∃ l : List C.Fn, SFnA W v l ∧ OkFnS l := by
  rcases open_slice Tryz.underlying22 f0 with ⟨e, _⟩ | ⟨a, len, cap, m, n2, D, Pl, e, hb, hlc, hcm, hm, _, hel⟩
  · exact ⟨[], ⟨none, 0, by simpa using e, .inl rfl⟩, ⟨Nat.zero_le _, fun i h => absurd h (Nat.not_lt_zero _)⟩⟩
  · have hall : ∀ i, ∃ x : C.Fn, i < len → (∃ v0 v1, FnA W (a.add (i * 5)) x v0 v1 ∧ SIntA W v0 x.params ∧ SInA W v1 x.ins) ∧ OkFn x ∧ a.block < W.heap.size := fun i => by
      by_cases hi : i < len
      · have hm2 : len ≤ m := by rw [hm]; split <;> omega
        obtain ⟨cs', hc, ht⟩ := hel i (by omega)
        rw [cellsFn] at hc
        obtain ⟨x, v0, v1, rfl, t0, t1, hx⟩ := Fn_open ht
        refine ⟨x, fun _ => ?_⟩
        have hbl := World.cells?_block hc (by omega)
        rw [add_block] at hbl
        obtain ⟨_, _, hg⟩ := World.cells?_some hc
        exact ⟨⟨v0, v1, ⟨(by have := hg 0 (by omega); simpa [Addr.add] using this), (by have := hg 1 (by omega); rw [add_one _ 1 (by decide)] at this; simpa using this), (by have := hg 2 (by omega); rw [add_one _ 2 (by decide)] at this; simpa using this), (by have := hg 3 (by omega); rw [add_one _ 3 (by decide)] at this; simpa using this), (by have := hg 4 (by omega); rw [add_one _ 4 (by decide)] at this; simpa using this)⟩, t0, t1⟩, hx, hbl⟩
      · exact ⟨C.fn0, fun h => absurd h hi⟩
    obtain ⟨f, hnd⟩ := Classical.skolem.1 hall
    have hget : ∀ i, i < len → ((List.range len).map f).getD i C.fn0 = f i := fun i hi => by simp [List.getD_eq_getElem?_getD, hi]
    have hlen : ((List.range len).map f).length = len := by simp
    refine ⟨(List.range len).map f, ⟨some a, cap, by rw [hlen]; simpa using e, ?_⟩, ?_⟩
    · by_cases h0 : len = 0
      · subst h0; exact .inl rfl
      · refine .inr ⟨a, rfl, (hnd 0 (by omega)).2.2, fun i hi => ?_⟩
        rw [hlen] at hi
        rw [hget i hi]
        exact (hnd i hi).1
    · refine ⟨by rw [hlen]; omega, fun i hi => ?_⟩
      rw [hlen] at hi
      rw [hget i hi]
      exact (hnd i hi).2.1
theorem cellsCd : Tryz.prog.cellsOf 24 = 1 := by kernel_rfl
theorem Cd_open {H : Type} {enc : TypeId × Value → H} {W : World} {base : Nat} {spare : Nat → Bool} {held : Bool} {n : Nat} {cs : List Value} {z : DataW H × List MemPlace} (h : DataW.trod enc Tryz.prog W base spare held n 24 cs = some z) :
    ∃ (x : Cd) (v0 : Value), cs = [v0] ∧ SFnA W v0 x.fns ∧ OkCd x := by
  obtain ⟨xs, m, _, _, hl, hlen, hf⟩ := DataW.trod_struct Tryz.underlying24 h
  rw [cellsCd] at hl
  match cs, hl with
  | [c0], _ =>
    match xs, hlen with
    | [y0], _ =>
      have f0 := hf 0 _ rfl
      simp [cellsSFn] at f0
      obtain ⟨x0, r0, h0⟩ := SFn_open f0
      exact ⟨⟨x0⟩, c0, rfl, r0, h0⟩
end Go.Proofs.YteeiblhjjeognaaGreatDoor.R
/-! Where two shapes come together, in the model: both known. -/
namespace Go.Proofs.YteeiblhjjeognaaGreatDoor.C
open Go.RowKit
set_option maxRecDepth 20000
theorem join_apart {a b : Sh} (h1 : a.st = 1) (h : ¬ a.sk = b.sk) : join a b = top := by simp [join, h1, h]
theorem join_both {a b : Sh} (h1 : a.st = 1) (h2 : b.st = 1) (h : a.sk = b.sk) : join a b = ⟨1, slJoin a.sl b.sl, a.sk⟩ := by simp [join, h1, h2, h]
/-- What holds in the loop. -/
structure JI (a b : Sh) (w : World) (b6 : Nat) (x y x' y' ov : Value) (j : Nat) (ch : Bool) (W : World) : Prop where
  lo : Below w.heap.size w W
  e0 : W.heap[w.heap.size]? = some (sbox 1 x y)
  e1 : W.heap[w.heap.size + 1]? = some (sbox 1 x' y')
  e2 : W.heap[w.heap.size + 1 + 1]? = some (sbox 0 (.slice none 0 0) (.slice none 0 0))
  e6 : W.heap[b6]? = some (sbox 1 ov y)
  gt : w.heap.size + 1 + 1 < b6
  own : W.ownsRow (b6 + 1) 3 1 ov j (((slJoin a.sl b.sl).take j).map fun x => Value.int .i64 x)
  chg : ch = true ↔ ¬ (slJoin a.sl b.sl).take j = a.sl.take j
theorem JI.next {a b : Sh} {w : World} {b6 : Nat} {x y x' y' ov : Value} {j : Nat} {ch : Bool} {W V : World} (h : JI a b w b6 x y x' y' ov j ch W) (hb : Below W.heap.size W V) : JI a b w b6 x y x' y' ov j ch V :=
  ⟨h.lo.trans (hb.mono h.lo.size), hp_next h.e0 hb, hp_next h.e1 hb, hp_next h.e2 hb, hp_next h.e6 hb, h.gt, own_next h.own hb, h.chg⟩
theorem take_more (l : List Int) {j : Nat} (hj : j < l.length) : l.take (j + 1) = l.take j ++ [l.getD j 0] := by
  rw [List.take_add_one, List.getElem?_eq_getElem hj, List.getD_eq_getElem?_getD, List.getElem?_eq_getElem hj]
  rfl
/-- One slot further. -/
theorem JI.more {a b : Sh} {w : World} {b6 : Nat} {x y x' y' ov : Value} {j : Nat} {ch : Bool} {W V : World} (h : JI a b w b6 x y x' y' ov j ch W) (hl : a.sl.length = b.sl.length) (hj : j < a.sl.length) {v' : Value} {ch' : Bool} {t : Int} (ht : (slJoin a.sl b.sl).getD j 0 = t) (hg : W.grownBy V ov.ownBlock) (ho : V.ownsRow (b6 + 1) 3 1 v' (j + 1) (((slJoin a.sl b.sl).take j).map (fun x => Value.int .i64 x) ++ [.int .i64 t])) (hc : ch' = true ↔ ch = true ∨ ¬ t = a.sl.getD j 0) : JI a b w b6 x y x' y' v' (j + 1) ch' (V.setCell ⟨b6, 1, none⟩ v') := by
  have hk : ∀ i, i < b6 + 1 → i < W.heap.size → V.heap[i]? = W.heap[i]? := fun i hi hz => hg.block i hz (own_ne h.own hi)
  have z6 := lt_hp h.e6
  have hgt := h.gt
  have hlj : (slJoin a.sl b.sl).length = a.sl.length := slJoin_length _ _ hl
  refine ⟨set_lo ⟨hg.os.trans h.lo.os, hg.tape.trans h.lo.tape, hg.output.trans h.lo.output, Nat.le_trans h.lo.size hg.size, fun i hi => (hk i (by omega) (by have := h.lo.size; omega)).trans (h.lo.block i hi)⟩ _ _ (by omega) _, ?_, ?_, ?_, set1_box ((hk b6 (by omega) z6).trans h.e6) _, hgt, ?_, ?_⟩
  · rw [set_other _ _ _ _ _ (by omega), hk _ (by omega) (lt_hp h.e0)]; exact h.e0
  · rw [set_other _ _ _ _ _ (by omega), hk _ (by omega) (lt_hp h.e1)]; exact h.e1
  · rw [set_other _ _ _ _ _ (by omega), hk _ (by omega) (lt_hp h.e2)]; exact h.e2
  · apply own_set _ (by omega)
    rw [take_more _ (by omega), List.map_append, ht]
    exact ho
  · rw [hc, h.chg, take_more _ (by omega), take_more _ hj, ht]
    constructor
    · rintro (h1 | h1) h2
      · exact h1 (List.append_inj_left h2 (by simp; omega))
      · have := List.append_inj_right h2 (by simp; omega)
        exact h1 (by simpa using this)
    · intro h1
      by_cases e : t = a.sl.getD j 0
      · refine .inl fun h2 => h1 ?_
        rw [h2, e]
      · exact .inr e
theorem JI.start {a b : Sh} {w w4 : World} {x y x' y' : Value} (lo : Below w.heap.size w w4) (e0 : w4.heap[w.heap.size]? = some (sbox 1 x y)) (e1 : w4.heap[w.heap.size + 1]? = some (sbox 1 x' y')) (e2 : w4.heap[w.heap.size + 1 + 1]? = some (sbox 0 (.slice none 0 0) (.slice none 0 0))) : JI a b w w4.heap.size x y x' y' (.slice none 0 0) 0 false (w4.alloc (sbox 1 (.slice none 0 0) y)) := by
  have hb : Below w4.heap.size w4 (w4.alloc (sbox 1 (.slice none 0 0) y)) := (Below.refl _ _).alloc (Nat.le_refl _) _
  exact ⟨lo.trans (hb.mono lo.size), hp_next e0 hb, hp_next e1 hb, hp_next e2 hb, heap_alloc_new _ _, lt_hp e2, ⟨by simp, .inl ⟨rfl, rfl⟩⟩, by simp⟩
set_option maxHeartbeats 8000000 in
theorem join_known {a b : Sh} (h1 : a.st = 1) (h2 : b.st = 1) (hl : a.sl.length = b.sl.length) (hS : a.sl.length ≤ 200) (hK : a.sk.length ≤ 1000) (w : World) (x y x' y' : Value) (h4 : IntRow w x a.sl) (h5 : IntRow w y a.sk) (h6 : IntRow w x' b.sl) (h7 : IntRow w y' b.sk) :
    Calls Tryz.prog 37 #[shV a.st x y, shV b.st x' y'] w (JoinEnd a b w) := by
  have H1 := hid (And.intro h1 h2)
  have H4 := hid h4
  have H5 := hid h5
  have H6 := hid h6
  have H7 := hid h7
  have hl1 : a.sl.length ≤ b.sl.length := by omega
  have hl2 : b.sl.length ≤ a.sl.length := by omega
  have HL := hid hl
  obtain ⟨a1, c1, rfl⟩ := h4.sl
  obtain ⟨a2, c2, rfl⟩ := h5.sl
  obtain ⟨a3, c3, rfl⟩ := h6.sl
  obtain ⟨a4, c4, rfl⟩ := h7.sl
  obtain ⟨i0, hi, hz0, hz1, hz2⟩ := int_parts
  have HHI := hid (And.intro hi (And.intro hz0 (And.intro hz1 hz2)))
  clear hi hz0 hz1 hz2
  unfold shV
  rw [h1, h2]
  clear h1 h2 h4 h5 h6 h7 hl
  go_enter Tryz.func37, Tryz.ntmps37
  go_wp2_with fail
  refine (same_any (H5.out.next (al3 w _ _ _)) (H7.out.next (al3 w _ _ _)) hK).mono ?_
  rintro e w4 ⟨rfl, hb4⟩
  have HB4 := hid hb4
  obtain ⟨t0, t1, t2⟩ := three w (sbox 1 (.slice a1 a.sl.length c1) (.slice a2 a.sk.length c2)) (sbox 1 (.slice a3 b.sl.length c3) (.slice a4 b.sk.length c4)) (sbox 0 (.slice none 0 0) (.slice none 0 0))
  have e0 := hp_next t0 hb4
  have e1 := hp_next t1 hb4
  have e2 := hp_next t2 hb4
  have HLO := hid ((al3 w _ _ _).trans (hb4.mono (al3 w _ _ _).size))
  clear hb4 HB4 t0 t1 t2
  have E0 := hid e0
  have E1 := hid e1
  have E2 := hid e2
  obtain ⟨r0, r1, r2, q0, q1, q2⟩ := six_s e2
  obtain ⟨u0, u1, u2, _, _, _⟩ := six_s e0
  clear e0 e1 e2
  by_cases hs : a.sk = b.sk
  · have HS := hid hs
    have hd : decide (a.sk = b.sk) = true := by simp [hs]
    rw [hd]
    clear hd hs
    go_wp2_with fail
    have HJ0 := hid (JI.start (a := a) (b := b) HLO.out E0.out E1.out E2.out)
    have hb6 := lt_hp E2.out
    obtain ⟨W5, hW5⟩ : ∃ W, w4.alloc (sbox 1 (.slice none 0 0) (.slice a2 a.sk.length c2)) = W := ⟨_, rfl⟩
    rw [hW5] at HJ0
    unfold sbox at hW5
    rw [hW5]
    obtain ⟨b6, hb6e⟩ : ∃ b, w4.heap.size = b := ⟨_, rfl⟩
    rw [hb6e] at HJ0 hb6 ⊢
    clear hW5 hb6e E0 E1 E2 r0 r1 r2 q0 q1 q2 u0 u1 u2 HLO
    go_loopw [7, 8] (fun c i wr => ∃ (j : Nat) (ch : Bool) (ov : Value), j ≤ a.sl.length ∧ c = .bool ch ∧ i = .int .i64 j ∧ JI a b w b6 (.slice a1 a.sl.length c1) (.slice a2 a.sk.length c2) (.slice a3 b.sl.length c3) (.slice a4 b.sk.length c4) ov j ch wr) (fun _ i _ => a.sl.length - (intOf i).toNat)
    case atStart => exact ⟨0, false, _, Nat.zero_le _, rfl, rfl, HJ0.out⟩
    case round =>
      obtain ⟨j, ch, ov, hj, rfl, rfl, hji⟩ := hrel
      have HJ := hid hji
      obtain ⟨adO, cO, rfl⟩ := own_form hji.own
      obtain ⟨k0, k1, k2, _, _, _⟩ := six_s hji.e0
      obtain ⟨m0, m1, m2, _, _, _⟩ := six_s hji.e1
      obtain ⟨n0, n1, n2, f0, f1, f2⟩ := six_s hji.e2
      obtain ⟨p0, p1, p2, _, _, _⟩ := six_s hji.e6
      have hz6 := lt_hp hji.e6
      clear hji
      by_cases hlt : j < a.sl.length
      · have hlti : (j : Int) < (a.sl.length : Int) := by omega
        have hltb : j < b.sl.length := by omega
        have hltbi : (j : Int) < (b.sl.length : Int) := by omega
        obtain ⟨gA, cA2, e9, _, _, _, hcA⟩ := (H4.out.next HJ.out.lo).at hlt
        injection e9 with ea _ ec
        subst ea ec
        obtain ⟨gB, cB2, e9, _, _, _, hcB⟩ := (H6.out.next HJ.out.lo).at hltb
        injection e9 with ea _ ec
        subst ea ec
        have kA := hcA j hlt
        have kB := hcB j hltb
        have HT0 := hid (slJoin_get a.sl b.sl HL.out j hlt)
        obtain ⟨x, hx⟩ : ∃ x, a.sl.getD j 0 = x := ⟨_, rfl⟩
        obtain ⟨y, hy⟩ : ∃ y, b.sl.getD j 0 = y := ⟨_, rfl⟩
        rw [hx] at kA HT0
        rw [hy] at kB HT0
        have HXX := hid hx
        clear hx hy hcA hcB
        by_cases hxy : x = y
        · subst hxy
          have hxf : (x != x) = false := by simp
          have HT : Hid ((slJoin a.sl b.sl).getD j 0 = x) := hid (by rw [HT0.out, if_pos rfl])
          go_wp2_with (at_builtin; refine wpList_append_own_at _ rfl (.tmp 62) (.tmp 64) 41 rfl (b6 + 1) 3 i0 (.int .i64 0) 1 8 Tryz.underlying41 HHI.out.1 HHI.out.2.1 HHI.out.2.2.1 HHI.out.2.2.2 rfl (by decide) (.slice adO j cO) j (((slJoin a.sl b.sl).take j).map fun x => Value.int .i64 x) rfl (HJ.out.own.alloc _) ⟨wr.heap.size, 0, none⟩ 1 1 [.int .i64 x] rfl rfl (cell_one_new wr _ _) (by simp [Value.oneCell']) (by unfold maxLen; omega) (by omega) (by simp; omega) ?_; intro v5 w5 o5 g5 nn5 bb5; have HM := hid (JI.more (HJ.out.next ((Below.refl wr.heap.size wr).alloc (Nat.le_refl _) _)) HL.out hlt (ch' := ch) HT.out g5 o5 (by rw [HXX.out]; simp)); have e65 := (g5.block b6 (by simp; omega) (own_ne HJ.out.own (by omega))).trans (hp_next HJ.out.e6 ((Below.refl wr.heap.size wr).alloc (Nat.le_refl _) _)); obtain ⟨p0, p1, p2, l0, l1, l2⟩ := six_s e65; obtain ⟨ad5, c5, rfl⟩ := own_form o5; clear e65 o5 g5 nn5 bb5)
          go_roundw
          case rel => exact ⟨j + 1, _, _, by omega, rfl, by go_num, HM.out⟩
          case measure => simp [intOf]; omega
        · have hxf : (x != y) = true := by simpa using hxy
          have HT : Hid ((slJoin a.sl b.sl).getD j 0 = 0) := hid (by rw [HT0.out, if_neg hxy])
          by_cases hx0 : x = 0
          · subst hx0
            have hzz : ((0 : Int) != 0) = false := rfl
            go_wp2_with (at_builtin; refine wpList_append_own_at _ rfl (.tmp 62) (.tmp 64) 41 rfl (b6 + 1) 3 i0 (.int .i64 0) 1 8 Tryz.underlying41 HHI.out.1 HHI.out.2.1 HHI.out.2.2.1 HHI.out.2.2.2 rfl (by decide) (.slice adO j cO) j (((slJoin a.sl b.sl).take j).map fun x => Value.int .i64 x) rfl (HJ.out.own.alloc _) ⟨wr.heap.size, 0, none⟩ 1 1 [.int .i64 0] rfl rfl (cell_one_new wr _ _) (by simp [Value.oneCell']) (by unfold maxLen; omega) (by omega) (by simp; omega) ?_; intro v5 w5 o5 g5 nn5 bb5; have HM := hid (JI.more (HJ.out.next ((Below.refl wr.heap.size wr).alloc (Nat.le_refl _) _)) HL.out hlt (ch' := ch) HT.out g5 o5 (by rw [HXX.out]; simp)); have e65 := (g5.block b6 (by simp; omega) (own_ne HJ.out.own (by omega))).trans (hp_next HJ.out.e6 ((Below.refl wr.heap.size wr).alloc (Nat.le_refl _) _)); obtain ⟨p0, p1, p2, l0, l1, l2⟩ := six_s e65; obtain ⟨ad5, c5, rfl⟩ := own_form o5; clear e65 o5 g5 nn5 bb5)
            go_roundw
            case rel => exact ⟨j + 1, _, _, by omega, rfl, by go_num, HM.out⟩
            case measure => simp [intOf]; omega
          · have hx0f : (x != 0) = true := by simpa using hx0
            have HX0 := hid hx0
            clear hx0 hxy
            go_wp2_with (at_builtin; refine wpList_append_own_at _ rfl (.tmp 62) (.tmp 64) 41 rfl (b6 + 1) 3 i0 (.int .i64 0) 1 8 Tryz.underlying41 HHI.out.1 HHI.out.2.1 HHI.out.2.2.1 HHI.out.2.2.2 rfl (by decide) (.slice adO j cO) j (((slJoin a.sl b.sl).take j).map fun x => Value.int .i64 x) rfl (HJ.out.own.alloc _) ⟨wr.heap.size, 0, none⟩ 1 1 [.int .i64 0] rfl rfl (cell_one_new wr _ _) (by simp [Value.oneCell']) (by unfold maxLen; omega) (by omega) (by simp; omega) ?_; intro v5 w5 o5 g5 nn5 bb5; have HM := hid (JI.more (HJ.out.next ((Below.refl wr.heap.size wr).alloc (Nat.le_refl _) _)) HL.out hlt (ch' := true) HT.out g5 o5 (by rw [HXX.out]; simp; exact .inr fun e => HX0.out e.symm)); have e65 := (g5.block b6 (by simp; omega) (own_ne HJ.out.own (by omega))).trans (hp_next HJ.out.e6 ((Below.refl wr.heap.size wr).alloc (Nat.le_refl _) _)); obtain ⟨p0, p1, p2, l0, l1, l2⟩ := six_s e65; obtain ⟨ad5, c5, rfl⟩ := own_form o5; clear e65 o5 g5 nn5 bb5)
            go_roundw
            case rel => exact ⟨j + 1, _, _, by omega, rfl, by go_num, HM.out⟩
            case measure => simp [intOf]; omega
      · obtain rfl : j = a.sl.length := by omega
        have hge : ¬ ((a.sl.length : Int) < (a.sl.length : Int)) := by omega
        have HEND : Hid (join a b = ⟨1, slJoin a.sl b.sl, a.sk⟩) := hid (join_both H1.out.1 H1.out.2 HS.out)
        go_wp2
        refine bodyPost_ret (v := .tuple #[.agg #[.int .i64 1, .slice adO a.sl.length cO, (.slice a2 a.sk.length c2)], .bool ch]) (by simp [results, Tryz.results37, go_sem, n0, n1, n2]) rfl ⟨_, _, rfl, ?_, ?_, set_lo (set_lo (set_lo HJ.out.lo _ _ (by omega) _) _ _ (by omega) _) _ _ (by omega) _⟩
        · rw [HEND.out]
          have ho := HJ.out.own
          have hlj := slJoin_length a.sl b.sl HL.out
          rw [List.take_of_length_le (by omega)] at ho
          refine ⟨_, _, rfl, ?_, (H5.out.next HJ.out.lo).set3 HJ.out.e2 _ _ _⟩
          refine IntRow.set3 (IntRow.own (B := b6 + 1) ?_) HJ.out.e2 _ _ _
          rw [hlj]
          exact ho
        · rw [HEND.out, HJ.out.chg]
          have hlj := slJoin_length a.sl b.sl HL.out
          rw [List.take_of_length_le (by omega), List.take_length]
          have := H1.out.1
          cases a
          simp at this
          subst this
          simp
  · have HS := hid hs
    have hd : decide (a.sk = b.sk) = false := by simp [hs]
    rw [hd]
    clear hd hs
    go_wp2
    refine bodyPost_ret (v := .tuple #[.agg #[.int .i64 2, .slice none 0 0, .slice none 0 0], .bool true]) (by simp [results, Tryz.results37, go_sem, r0, r1, r2]) rfl ⟨_, _, rfl, ?_, ?_, set_lo (set_lo (set_lo HLO.out _ _ (by omega) _) _ _ (by omega) _) _ _ (by omega) _⟩
    · rw [join_apart H1.out.1 HS.out]
      exact ⟨_, _, rfl, IntRow.nil _, IntRow.nil _⟩
    · rw [join_apart H1.out.1 HS.out]
      simp only [true_iff]
      intro e
      have := H1.out.1
      rw [← e] at this
      simp [top] at this
end Go.Proofs.YteeiblhjjeognaaGreatDoor.C
/-! millSameKinds. -/
namespace Go.Proofs.YteeiblhjjeognaaGreatDoor.C
open Go.RowKit
set_option maxRecDepth 20000
theorem z200 : Tryz.zeroCells185 = Array.replicate 200 (Value.int .u8 0) := by kernel_rfl
theorem size_u8 (w : World) : (Go.sizeOf 5).run Tryz.prog w = .ok 1 w := by kernel_rfl
/-- What lies in the room while the places below i are done. -/
def sk8 (a b : List Int) (i j : Nat) : Value := .int .u8 (if j < a.length then (if j < i then (slJoin a b).getD j 0 else a.getD j 0) else 0)
theorem room_start {a : List Int} (ha : Ok10 a) (_h200 : a.length ≤ 200) {W : World} {g : Nat} {t : TypeId} (h : W.rowIs g t 200 (fun _ => .int .u8 0)) (b : List Int) : (W.setCells g 0 ((kt a).data.toList.map fun x => Value.int .u8 (x.toNat : Int))).rowIs g t 200 (sk8 a b 0) := by
  refine (rowIs_setCells _ 0 W _ h).congr fun j hj => ?_
  unfold sk8
  rw [kt_data]
  simp only [Nat.zero_le, true_and, Nat.zero_add, List.length_map, Nat.sub_zero, Nat.not_lt_zero, if_false]
  by_cases hj2 : j < a.length
  · rw [if_pos hj2, if_pos hj2]
    rw [List.getElem?_map, List.getElem?_map, List.getElem?_eq_getElem hj2, List.getD_eq_getElem?_getD, List.getElem?_eq_getElem hj2]
    simp [kb_nat (ha _ (List.getElem_mem hj2))]
  · rw [if_neg hj2, if_neg hj2]
theorem room_same {a b : List Int} {j : Nat} {W : World} {g : Nat} {t : TypeId} (h : W.rowIs g t 200 (sk8 a b j)) (he : (slJoin a b).getD j 0 = a.getD j 0) {n : Nat} : (W.drewN n).rowIs g t 200 (sk8 a b (j + 1)) := by
  refine World.rowIs.of_block (h.congr fun q hq => ?_) rfl
  unfold sk8
  split
  · by_cases e : q = j
    · subst e; rw [if_neg (Nat.lt_irrefl q), if_pos (by omega), he]
    · by_cases hl : q < j
      · rw [if_pos hl, if_pos (by omega)]
      · rw [if_neg hl, if_neg (by omega)]
  · rfl
theorem room_put {a b : List Int} {j : Nat} {W : World} {g : Nat} {t : TypeId} (h : W.rowIs g t 200 (sk8 a b j)) (hj : j < a.length) (he : (slJoin a b).getD j 0 = 0) {n : Nat} : ((W.drewN n).setCell ⟨g, j, none⟩ (.int .u8 0)).rowIs g t 200 (sk8 a b (j + 1)) := by
  have h' : (W.drewN n).rowIs g t 200 (sk8 a b j) := h.of_block rfl
  refine (h'.set j (.int .u8 0)).congr fun q hq => ?_
  unfold sk8
  by_cases e : q = j
  · subst e; rw [if_pos rfl, if_pos hj, if_pos (by omega), he]
  · rw [if_neg e]
    split
    · by_cases hl : q < j
      · rw [if_pos hl, if_pos (by omega)]
      · rw [if_neg hl, if_neg (by omega)]
    · rfl
theorem slJoin_ok {a b : List Int} (ha : Ok10 a) (hl : a.length = b.length) : Ok10 (slJoin a b) := by
  intro x hx
  obtain ⟨i, hi, rfl⟩ := List.getElem_of_mem hx
  have hi2 : i < a.length := by rw [← slJoin_length a b hl]; exact hi
  have e := slJoin_get a b hl i hi2
  rw [List.getD_eq_getElem?_getD, List.getElem?_eq_getElem hi, Option.getD_some] at e
  rw [e]
  split
  · rw [List.getD_eq_getElem?_getD, List.getElem?_eq_getElem hi2]
    exact ha _ (List.getElem_mem hi2)
  · omega
theorem str_eq2 {a b : ByteArray} : (a.toList == b.toList) = true ↔ a = b := by
  rw [Lib.toList_data, Lib.toList_data, beq_iff_eq]
  exact ⟨ba_ext, fun h => by rw [h]⟩
set_option maxHeartbeats 2000000 in
theorem sameKinds_any {a b : List Int} (ha : Ok10 a) (hb : Ok10 b) (hl : a.length = b.length) (h200 : a.length ≤ 200) (w : World) :
    Calls Tryz.prog 103 #[.string (kt a), .string (kt b)] w fun e w' => e = .returned (.string (kt (slJoin a b))) ∧ Below w.heap.size w w' := by
  have HA := hid ha
  have HB := hid hb
  have HL := hid hl
  have hsa := kt_size a
  have hsb : (kt b).size = a.length := by rw [kt_size]; omega
  have HSA := hid hsa
  have HSB := hid hsb
  clear ha hb hl
  go_enter Tryz.func103, Tryz.ntmps103
  go_upto_region 2 with fail
  have hrow : (w.alloc (.cells Tryz.zeroCells185 185)).rowIs w.heap.size 185 200 (fun _ => .int .u8 0) := ⟨_, heap_alloc_new _ _, by rw [z200]; simp, fun i hi => by rw [z200]; simp [hi]⟩
  have HLO := hid ((Below.refl w.heap.size w).alloc (Nat.le_refl _) (.cells Tryz.zeroCells185 185))
  obtain ⟨W1, hW1⟩ : ∃ W, w.alloc (.cells Tryz.zeroCells185 185) = W := ⟨_, rfl⟩
  rw [hW1] at hrow HLO ⊢
  clear hW1
  have HROW := hid hrow
  clear hrow
  have hcp : (Builtin.copy_ #[107, 9] 3 #[.slice (some ⟨w.heap.size, 0, none⟩) 200 200, .string (kt a)]).run Tryz.prog W1 = .ok (.int .i64 (a.length : Nat)) (W1.setCells w.heap.size 0 ((kt a).data.toList.map fun x => Value.int .u8 (x.toNat : Int))) := by
    have := run_copy_string (P := Tryz.prog) W1 107 9 3 5 w.heap.size 0 200 200 (kt a) Tryz.underlying107 size_u8 (by omega) (fun j hj => by rw [Nat.zero_add, HROW.out.cell (by omega)]; rfl) (fun j hj => HROW.out.frozen _)
    rw [HSA.out] at this
    exact this
  have HR2 := hid (room_start HA.out h200 HROW.out b)
  have HLO2 := hid (below_setCells (Nat.le_refl _) ((kt a).data.toList.map fun x => Value.int .u8 (x.toNat : Int)) 0 W1 HLO.out)
  obtain ⟨W2, hW2⟩ : ∃ W, W1.setCells w.heap.size 0 ((kt a).data.toList.map fun x => Value.int .u8 (x.toNat : Int)) = W := ⟨_, rfl⟩
  rw [hW2] at hcp HR2 HLO2
  clear hW2
  have hai : (a.length : Int) ≤ 200 := by omega
  go_wp2_with fail
  clear hcp
  go_loopw [14] (fun i wr => ∃ j : Nat, j ≤ a.length ∧ i = .int .i64 j ∧ Below w.heap.size w wr ∧ wr.rowIs w.heap.size 185 200 (sk8 a b j)) (fun i _ => a.length - (intOf i).toNat)
  case atStart => exact ⟨0, Nat.zero_le _, rfl, HLO2.out, HR2.out⟩
  case round =>
    obtain ⟨j, hj, rfl, hlo, hrow⟩ := hrel
    have HLO3 := hid hlo
    have HR3 := hid hrow
    clear hlo hrow HR2 HLO2
    by_cases hlt : j < a.length
    · have hlti : (j : Int) < (a.length : Int) := by omega
      have hlt2 : j < (kt b).size := by omega
      have hlt3 : (j : Int) < ((kt b).size : Int) := by omega
      have kA := HR3.out.cell (show j < 200 by omega)
      have kF := HR3.out.frozen j
      have hyv := kt_get HB.out hlt2
      have HT0 := hid (slJoin_get a b HL.out j hlt)
      unfold sk8 at kA
      rw [if_pos hlt, if_neg (Nat.lt_irrefl j)] at kA
      obtain ⟨x, hx⟩ : ∃ x, a.getD j 0 = x := ⟨_, rfl⟩
      obtain ⟨y, hy⟩ : ∃ y, b.getD j 0 = y := ⟨_, rfl⟩
      rw [hx] at kA HT0
      rw [hy] at hyv HT0
      have HX := hid hx
      clear hx hy
      by_cases hxy : x = y
      · have hxf : (x != y) = false := by simpa using hxy
        have HN := hid (fun n : Nat => room_same (n := n) (b := b) (j := j) HR3.out (by rw [HT0.out, if_pos hxy, HX.out]))
        clear hxy
        go_wp2_with fail
        go_quiet (fail)
        go_wp2
        go_roundw
        case rel => exact ⟨j + 1, by omega, by go_num, below_drewN HLO3.out _, HN.out _⟩
        case measure => simp [intOf]; omega
      · have hxf : (x != y) = true := by simpa using hxy
        have HN := hid (fun n : Nat => room_put (n := n) (b := b) (j := j) HR3.out hlt (by rw [HT0.out, if_neg hxy]))
        clear hxy
        go_wp2_with fail
        go_quiet (fail)
        go_wp2
        go_roundw
        case rel => exact ⟨j + 1, by omega, by go_num, set_lo (below_drewN HLO3.out _) _ _ (Nat.le_refl _) _, HN.out _⟩
        case measure => simp [intOf]; omega
    · obtain rfl : j = a.length := by omega
      have hge : ¬ ((a.length : Int) < (a.length : Int)) := by omega
      have hcv : (convert 107 9 (.slice (some ⟨w.heap.size, 0, none⟩) a.length 200)).run Tryz.prog wr = .ok (.string (kt (slJoin a b))) wr := by
        have hll : ((slJoin a b).map kb).length = a.length := by rw [List.length_map, slJoin_length _ _ HL.out]
        have := run_convert_bytes_back (P := Tryz.prog) wr 107 9 5 ⟨w.heap.size, 0, none⟩ 200 ((slJoin a b).map kb) Tryz.underlying107 Tryz.underlying5 Tryz.underlying9 (fun k hk => by
          rw [hll] at hk
          have ea : (⟨w.heap.size, 0, none⟩ : Addr).add k = ⟨w.heap.size, k, none⟩ := by
            by_cases hk0 : k = 0
            · subst hk0; simp [Addr.add]
            · simp [Addr.add, hk0]
          rw [ea, HR3.out.cell (show k < 200 by omega)]
          unfold sk8
          rw [if_pos hk, if_pos hk]
          have hk2 : k < (slJoin a b).length := by rw [slJoin_length _ _ HL.out]; exact hk
          rw [List.getD_eq_getElem?_getD, List.getElem?_eq_getElem hk2]
          simp [kb_nat (slJoin_ok HA.out HL.out _ (List.getElem_mem hk2))])
        rw [hll] at this
        exact this
      by_cases he : kt (slJoin a b) = kt b
      · have hef : ((kt (slJoin a b)).toList == (kt b).toList) = true := str_eq2.2 he
        have HE := hid he
        clear he
        go_wp2_with fail
        go_ret
        exact ⟨by rw [HE.out]; rfl, HLO3.out⟩
      · have hef : ((kt (slJoin a b)).toList == (kt b).toList) = false := Bool.eq_false_iff.2 fun h => he (str_eq2.1 h)
        clear he
        go_wp2_with fail
        go_ret
        exact ⟨rfl, HLO3.out⟩
end Go.Proofs.YteeiblhjjeognaaGreatDoor.C
/-! Where two shapes come together, in the model. -/
namespace Go.Proofs.YteeiblhjjeognaaGreatDoor.C
open Go.RowKit
theorem ok_known {S : Nat} {a : Sh} (h : OkSh S a) (h1 : a.st = 1) : a.sl.length = S ∧ (∀ x ∈ a.sl, 0 ≤ x ∧ x ≤ 10) ∧ (∀ x ∈ a.sk, 1 ≤ x ∧ x ≤ 10) ∧ a.sk.length ≤ 600 := by
  rcases h with rfl | rfl | ⟨_, h⟩
  · simp [bot] at h1
  · simp [top] at h1
  · exact h
theorem ok_st {S : Nat} {a : Sh} (h : OkSh S a) : a.st = 0 ∨ a.st = 1 ∨ a.st = 2 := by
  rcases h with rfl | rfl | ⟨h, _⟩
  · exact .inl rfl
  · exact .inr (.inr rfl)
  · exact .inr (.inl h)
theorem join_any {S : Nat} {a b : Sh} (ha : OkSh S a) (hb : OkSh S b) (h0 : ¬ b.st = 0) (hS : S ≤ 200) {w : World} {av bv : Value} (h4 : ShV w av a) (h5 : ShV w bv b) : Calls Tryz.prog 37 #[av, bv] w (JoinEnd a b w) := by
  obtain ⟨x, y, rfl, r1, r2⟩ := h4
  obtain ⟨x', y', rfl, r3, r4⟩ := h5
  rcases ok_st ha with h | h | h
  · exact join_second0 h0 h w x y x' y' r1 r2 r3 r4
  · rcases ok_st hb with k | k | k
    · exact absurd k h0
    · have p := ok_known ha h
      have q := ok_known hb k
      exact join_known h k (p.1.trans q.1.symm) (by omega) (by omega) w x y x' y' r1 r2 r3 r4
    · exact join_second1 hb k h w x y x' y' r1 r2 r3 r4
  · exact join_first ha h0 h w x y x' y' r1 r2 r3 r4
end Go.Proofs.YteeiblhjjeognaaGreatDoor.C
