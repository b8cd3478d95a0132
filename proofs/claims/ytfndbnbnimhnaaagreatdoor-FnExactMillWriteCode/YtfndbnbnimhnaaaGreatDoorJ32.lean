import Derived.Lib.Builder
import Derived.Lib.AppendStr
import Derived.Lib.UnsafeStr
import Derived.Lib.MakeNoZero
import Derived.Shelf.RegionOpenPlain
import Derived.Laws.Externs
import Derived.Test.YtfndbnbnimhnaaaGreatDoorJ31
import Derived.Test.YtfndbnbnimhnaaaGreatDoorJ16
import Derived.Test.YtfndbnbnimhnaaaGreatDoorJ29
/-! The writer of forms: a strings.Builder alone in a block of its own kind. Printed by gen_wcwr.py. -/
namespace Go.Proofs.YtfndbnbnimhnaaaGreatDoor.C
open Go.RowKit
set_option maxRecDepth 20000
/-- What writing leaves: all but the writer and rows of bytes from B on. -/
structure Wk (B b : Nat) (w w' : World) : Prop where
  os : w'.os = w.os
  tape : w'.tape = w.tape
  output : w'.output = w.output
  size : w.heap.size ≤ w'.heap.size
  block : ∀ k, k < w.heap.size → k ≠ b → (k < B ∨ NotB w k) → w'.heap[k]? = w.heap[k]?
theorem Wk.refl (B b : Nat) (w : World) : Wk B b w w := ⟨rfl, rfl, rfl, Nat.le_refl _, fun _ _ _ _ => rfl⟩
theorem Wk.trans {B b : Nat} {u v w : World} (h : Wk B b u v) (k : Wk B b v w) : Wk B b u w :=
  ⟨k.os.trans h.os, k.tape.trans h.tape, k.output.trans h.output, Nat.le_trans h.size k.size, fun i hi hb hn => by
    have e := h.block i hi hb hn
    exact (k.block i (Nat.lt_of_lt_of_le hi h.size) hb (hn.imp_right fun hn cs fr => by rw [e]; exact hn cs fr)).trans e⟩
theorem Wk.of_below {B b : Nat} {w w' : World} (h : Below w.heap.size w w') : Wk B b w w' := ⟨h.os, h.tape, h.output, h.size, fun k hk _ _ => h.block k hk⟩
theorem Wk.below {B b : Nat} {w w' : World} (h : Wk B b w w') (hb : B ≤ b) (hB : B ≤ w.heap.size) : Below B w w' := ⟨h.os, h.tape, h.output, h.size, fun k hk => h.block k (by omega) (by omega) (.inl hk)⟩
theorem Wk.cell {B b : Nat} {w w' : World} (h : Wk B b w w') {p : Addr} (hp : p.block < w.heap.size) (hb : p.block ≠ b) (hn : p.block < B ∨ NotB w p.block) : w'.cell? p = w.cell? p := World.cell?_of_block (w := w) (h.block p.block hp hb hn)
theorem Wk.notB {B b : Nat} {w w' : World} (h : Wk B b w w') {k : Nat} (hk : k < w.heap.size) (hb : k ≠ b) (hn : NotB w k) : NotB w' k := fun cs fr => by rw [h.block k hk hb (.inr hn)]; exact hn cs fr
theorem lt_of_heap {w : World} {b : Nat} {o : Obj} (h : w.heap[b]? = some o) : b < w.heap.size := (Array.getElem?_eq_some_iff.1 h).1
theorem NotB.of {w : World} {k : Nat} {cs : Array Value} {t : TypeId} {fr : Nat × Nat} (h : w.heap[k]? = some (.cells cs t fr)) (ht : t ≠ 5) : NotB w k := fun cs' fr' e => by rw [h] at e; injection e with e; injection e with _ e; exact ht e
/-- The writer at block b, its parts p, v and, holding the bytes l. -/
structure WrC (B b : Nat) (p v : Value) (l : List UInt8) (w : World) : Prop where
  le : B ≤ b
  blk : w.heap[b]? = some (.cells #[p, v] 50 (0, 0))
  own : w.ownsRow B 5 1 v l.length (Lib.byteCells l)
theorem WrC.ne {B b : Nat} {p v : Value} {l : List UInt8} {w : World} (h : WrC B b p v l w) : v.ownBlock ≠ some b := Lib.ownBlock_ne h.own h.blk (by decide)
theorem WrC.next {B b : Nat} {p v : Value} {l : List UInt8} {w w' : World} (h : WrC B b p v l w) (hb : Below w.heap.size w w') : WrC B b p v l w' :=
  ⟨h.le, (hb.block b (lt_of_heap h.blk)).trans h.blk, own_next h.own hb⟩
/-- The writer holds the bytes l. -/
def WrAt (B b : Nat) (l : List UInt8) (w : World) : Prop := ∃ p v, (p = .pointer none ∨ p = .pointer (some ⟨b, 0, none⟩)) ∧ WrC B b p v l w
theorem WrAt.next {B b : Nat} {l : List UInt8} {w w' : World} (h : WrAt B b l w) (hb : Below w.heap.size w w') : WrAt B b l w' := by
  obtain ⟨p, v, hp, h⟩ := h
  exact ⟨p, v, hp, h.next hb⟩
theorem WrAt.le {B b : Nat} {l : List UInt8} {w : World} (h : WrAt B b l w) : B ≤ b := by obtain ⟨p, v, hp, h⟩ := h; exact h.le
theorem WrAt.lt {B b : Nat} {l : List UInt8} {w : World} (h : WrAt B b l w) : b < w.heap.size := by obtain ⟨p, v, hp, h⟩ := h; exact lt_of_heap h.blk
theorem set_heap0 {w : World} {b : Nat} {p v q : Value} {T : TypeId} (h : w.heap[b]? = some (.cells #[p, v] T (0, 0))) : (w.setCell ⟨b, 0, none⟩ q).heap[b]? = some (.cells #[q, v] T (0, 0)) := by
  simp [World.setCell, Array.getElem?_modify, h]
theorem set_heap1 {w : World} {b : Nat} {p v q : Value} {T : TypeId} (h : w.heap[b]? = some (.cells #[p, v] T (0, 0))) : (w.setCell ⟨b, 1, none⟩ q).heap[b]? = some (.cells #[p, q] T (0, 0)) := by
  simp [World.setCell, Array.getElem?_modify, h]
theorem own_setB {w : World} {B b i : Nat} {v q : Value} {n : Nat} {xs : List Value} (h : w.ownsRow B 5 1 v n xs) (hne : v.ownBlock ≠ some b) : (w.setCell ⟨b, i, none⟩ q).ownsRow B 5 1 v n xs :=
  h.kept (row := some b) ⟨rfl, rfl, rfl, by simp [World.setCell], fun k _ hk => Below.heap_setCell _ _ _ _ (fun e => hk (by simp [e]))⟩ (Or.inr hne)
theorem Wk.set {B b i : Nat} {w w' : World} (h : Wk B b w w') (q : Value) : Wk B b w (w'.setCell ⟨b, i, none⟩ q) :=
  h.trans ⟨rfl, rfl, rfl, by simp [World.setCell], fun k _ hb _ => Below.heap_setCell _ _ _ _ hb⟩
theorem Wk.grown {B b : Nat} {w w1 w2 : World} {v : Value} {n : Nat} {xs : List Value} (h : Wk B b w w1) (hown : w1.ownsRow B 5 1 v n xs) (hg : w1.grownBy w2 v.ownBlock) : Wk B b w w2 :=
  h.trans ⟨hg.os, hg.tape, hg.output, hg.size, fun k hk _ hn => hg.block k hk fun e => by
    rcases hown.2 with ⟨rfl, _⟩ | ⟨g, cap, cur, rfl, h1, h2, _⟩
    · simp [Value.ownBlock] at e
    · simp only [Value.ownBlock, Option.some.injEq] at e
      subst e
      rcases hn with hn | hn
      · omega
      · exact hn _ _ h2⟩
theorem builderInfo : ∃ j, Tryz.prog.info? 48 = some j ∧ j.size = 2 := Option.map_eq_some_iff.1 (show (Tryz.prog.info? 48).map (·.size) = some 2 by kernel_rfl)
set_option maxHeartbeats 1000000 in
theorem copyCheck_any (B b : Nat) (l : List UInt8) (w : World) (h : WrAt B b l w) :
    Calls Tryz.prog 39 #[.pointer (some ⟨b, 0, none⟩)] w fun e w' => e = .returned (.tuple #[]) ∧ (∃ v, WrC B b (.pointer (some ⟨b, 0, none⟩)) v l w') ∧ Wk B b w w' := by
  obtain ⟨p, v, hp, hw⟩ := h
  obtain ⟨j, hj, hjs⟩ := builderInfo
  have HW := hid hw
  have hsh : w.shape? b = some (50, 2) := by simp [World.shape?, hw.blk]
  have hfz : w.frozen? ⟨b, 0, none⟩ = false := Lib.frozen_of_heap hw.blk 0
  have h0 : w.cell? ⟨b, 0, none⟩ = some p := by rw [Lib.cell_of_heap hw.blk]; rfl
  have hli : liesAt Tryz.prog Tryz.prog.depth 50 (2 / Tryz.prog.cellsOf 50) 0 48 1 = true := by kernel_rfl
  clear hw
  rcases hp with rfl | rfl
  · go_enter Tryz.func39, Tryz.ntmps39
    go_wp2
    rw [Lib.run_to_unsafe w ⟨b, 0, none⟩ Tryz.underlying46 Tryz.underlying106 hj (by rw [hjs]; decide) hsh (Nat.zero_lt_succ 1)]
    simp only [Result.andThen]
    rw [Oper.upon_value]
    go_wp2
    rw [run_callFunc_extern Tryz.func72 (by kernel_rfl) (by kernel_rfl) (by kernel_rfl) (e := Extern.AbiNoEscape.same) (by kernel_rfl)]
    rw [Lib.run_noEscape]
    simp only [Result.andThen]
    rw [Oper.upon_value]
    go_wp2
    rw [Lib.run_from_unsafe w ⟨b, 0, none⟩ Tryz.underlying106 Tryz.underlying46 hj hsh hli]
    simp only [Result.andThen]
    rw [Oper.upon_value]
    go_wp2
    go_end0
    have hw := HW.out
    exact ⟨rfl, ⟨v, hw.le, set_heap0 hw.blk, own_setB hw.own hw.ne⟩, (Wk.refl B b w).set _⟩
  · go_enter Tryz.func39, Tryz.ntmps39
    go_wp2
    rw [Lib.run_neq_ptr_same w _ Tryz.underlying46 hj]
    go_wp2
    go_end0
    exact ⟨rfl, ⟨v, HW.out⟩, Wk.refl _ _ _⟩
set_option maxHeartbeats 2000000 in
theorem writeString_any (B b : Nat) (l : List UInt8) (s : ByteArray) (w : World) (h : WrAt B b l w) (hlen : l.length + s.size ≤ 1000000000000) :
    Calls Tryz.prog 19 #[.pointer (some ⟨b, 0, none⟩), .string s] w fun e w' => e = .returned (.tuple #[.int .i64 s.size, .nilIface]) ∧ WrAt B b (l ++ s.data.toList) w' ∧ Wk B b w w' := by
  obtain ⟨i0, hi, hz0, hz1, hz2⟩ := info_parts (P := Tryz.prog) (e := 5) (z := .int .u8 0) (size := 1) (bytes := 1) (by kernel_rfl)
  have HHI := hid (And.intro hi (And.intro hz0 (And.intro hz1 hz2)))
  have HW := hid h
  clear hi hz0 hz1 hz2 h
  go_enter Tryz.func19, Tryz.ntmps19
  go_wp2_with fail
  refine (copyCheck_any B b l _ HW.out).mono ?_
  rintro e w1 ⟨rfl, ⟨v, hw1⟩, hk1⟩
  have HW1 := hid hw1
  have HK1 := hid hk1
  have c0 : w1.cell? ⟨b, 0, none⟩ = some (.pointer (some ⟨b, 0, none⟩)) := by rw [Lib.cell_of_heap hw1.blk]; rfl
  have c1 : w1.cell? ⟨b, 1, none⟩ = some v := by rw [Lib.cell_of_heap hw1.blk]; rfl
  have hB1 : B ≤ w1.heap.size := by have := hw1.le; have := lt_of_heap hw1.blk; omega
  clear hw1 hk1
  go_wp2_with (at_builtin; refine Lib.wpList_append_own_string _ rfl _ _ 39 9 rfl B 5 i0 Tryz.underlying39 Tryz.underlying9 HHI.out.1 HHI.out.2.1 HHI.out.2.2.1 HHI.out.2.2.2 _ _ _ rfl HW1.out.own s rfl ?c3 ?c4 hB1 ?_)
  case c3 => unfold maxLen; omega
  case c4 => omega
  intro v' w2 hown' hgrow _
  have hb2 : w2.heap[b]? = some (.cells #[.pointer (some ⟨b, 0, none⟩), v] 50 (0, 0)) := by
    rw [hgrow.block b (lt_of_heap HW1.out.blk) (fun e => HW1.out.ne e.symm)]
    exact HW1.out.blk
  have d0 : w2.cell? ⟨b, 0, none⟩ = some (.pointer (some ⟨b, 0, none⟩)) := by rw [Lib.cell_of_heap hb2]; rfl
  have d1 : w2.cell? ⟨b, 1, none⟩ = some v := by rw [Lib.cell_of_heap hb2]; rfl
  have f1 : w2.frozen? ⟨b, 1, none⟩ = false := Lib.frozen_of_heap hb2 1
  have HG := hid hgrow
  have HO := hid hown'
  have HB2 := hid hb2
  obtain ⟨ao, n', cap, rfl⟩ : ∃ ao n' cap, v' = .slice ao n' cap := by
    rcases hown'.2 with ⟨hv, _⟩ | ⟨g, cap, cur, hv, _⟩
    · exact ⟨_, _, _, hv⟩
    · exact ⟨_, _, _, hv⟩
  clear hgrow hown' hb2
  go_wp2
  go_ret2
  have hne := Lib.ownBlock_ne HO.out HB2.out (by decide)
  refine ⟨rfl, ⟨_, _, .inr rfl, HW1.out.le, set_heap1 HB2.out, ?_⟩, (HK1.out.grown HW1.out.own HG.out).set _⟩
  rw [Lib.byteCells_append, ← Lib.strCells_eq, List.length_append, len_sizeF]
  exact own_setB HO.out hne
set_option maxHeartbeats 2000000 in
theorem writeByte_any (B b : Nat) (l : List UInt8) (c : UInt8) (w : World) (h : WrAt B b l w) (hlen : l.length + 1 ≤ 1000000000000) :
    Calls Tryz.prog 73 #[.pointer (some ⟨b, 0, none⟩), .int .u8 c.toNat] w fun e w' => e = .returned .nilIface ∧ WrAt B b (l ++ [c]) w' ∧ Wk B b w w' := by
  obtain ⟨i0, hi, hz0, hz1, hz2⟩ := info_parts (P := Tryz.prog) (e := 5) (z := .int .u8 0) (size := 1) (bytes := 1) (by kernel_rfl)
  have HHI := hid (And.intro hi (And.intro hz0 (And.intro hz1 hz2)))
  have HW := hid h
  clear hi hz0 hz1 hz2 h
  go_enter Tryz.func73, Tryz.ntmps73
  go_wp2_with fail
  refine (copyCheck_any B b l _ HW.out).mono ?_
  rintro e w1 ⟨rfl, ⟨v, hw1⟩, hk1⟩
  have HW1 := hid hw1
  have HK1 := hid hk1
  have c0 : w1.cell? ⟨b, 0, none⟩ = some (.pointer (some ⟨b, 0, none⟩)) := by rw [Lib.cell_of_heap hw1.blk]; rfl
  have c1 : w1.cell? ⟨b, 1, none⟩ = some v := by rw [Lib.cell_of_heap hw1.blk]; rfl
  have hB1 : B ≤ w1.heap.size := by have := hw1.le; have := lt_of_heap hw1.blk; omega
  clear hw1 hk1
  go_wp2_with (at_builtin; refine wpList_append_own _ rfl _ _ 39 rfl B 5 i0 (.int .u8 0) 1 1 Tryz.underlying39 HHI.out.1 HHI.out.2.1 HHI.out.2.2.1 HHI.out.2.2.2 rfl (by decide) _ _ _ rfl (HW1.out.own.alloc _) ⟨w1.heap.size, 0, none⟩ 1 1 [.int .u8 c.toNat] rfl rfl ?c1 ?c2 ?c3 ?c4 ?c5 ?_)
  case c1 =>
    intro j u hj
    match j, hj with
    | 0, hj => simp at hj; subst hj; simp [Addr.add]
  case c2 => intro u hu; simp at hu; subst hu; rfl
  case c3 => unfold maxLen; omega
  case c4 => omega
  case c5 => simp; omega
  intro v' w2 hown' hgrow _
  have hlt := lt_of_heap HW1.out.blk
  have hb2 : w2.heap[b]? = some (.cells #[.pointer (some ⟨b, 0, none⟩), v] 50 (0, 0)) := by
    rw [hgrow.block b (by simp; omega) (fun e => HW1.out.ne e.symm), Lib.alloc_old w1 _ b hlt]
    exact HW1.out.blk
  have d0 : w2.cell? ⟨b, 0, none⟩ = some (.pointer (some ⟨b, 0, none⟩)) := by rw [Lib.cell_of_heap hb2]; rfl
  have d1 : w2.cell? ⟨b, 1, none⟩ = some v := by rw [Lib.cell_of_heap hb2]; rfl
  have f1 : w2.frozen? ⟨b, 1, none⟩ = false := Lib.frozen_of_heap hb2 1
  have HG := hid hgrow
  have HO := hid hown'
  have HB2 := hid hb2
  obtain ⟨g, cap, rfl⟩ : ∃ g cap, v' = .slice (some ⟨g, 0, none⟩) (l.length + 1) cap := by
    rcases hown'.2 with ⟨_, h0⟩ | ⟨g, cap, cur, hv, _⟩
    · omega
    · exact ⟨g, cap, hv⟩
  clear hgrow hown' hb2 hlt
  go_wp2
  go_ret
  have hne := Lib.ownBlock_ne HO.out HB2.out (by decide)
  refine ⟨rfl, ⟨_, _, .inr rfl, HW1.out.le, set_heap1 HB2.out, ?_⟩, ((HK1.out.trans (Wk.of_below ((Below.refl _ _).alloc (Nat.le_refl _) _))).grown (HW1.out.own.alloc _) HG.out).set _⟩
  rw [Lib.byteCells_append, List.length_append]
  exact own_setB HO.out hne
set_option maxHeartbeats 2000000 in
theorem string_any (B b : Nat) (l : List UInt8) (w : World) (h : WrAt B b l w) (h0 : l ≠ []) :
    Calls Tryz.prog 23 #[.pointer (some ⟨b, 0, none⟩)] w fun e w' => e = .returned (.string ⟨l.toArray⟩) ∧ Below B w w' := by
  obtain ⟨p, v, _, h⟩ := h
  have hl0 : l.length ≠ 0 := by simpa using h0
  have hown := h.own
  have hbk := h.blk
  obtain ⟨g, cap, cur, rfl, hbg, hg, hnc, hcm, hcs, htake⟩ : ∃ g cap cur, v = .slice (some ⟨g, 0, none⟩) l.length cap ∧ B ≤ g ∧ w.heap[g]? = some (.cells cur 5 (0, 0)) ∧ l.length ≤ cap ∧ cap ≤ maxLen ∧ cur.size = cap * 1 ∧ cur.toList.take (l.length * 1) = Lib.byteCells l := by
    rcases hown.2 with ⟨_, hz⟩ | ⟨g, cap, cur, hv, r⟩
    · exact absurd hz hl0
    · exact ⟨g, cap, cur, hv, r⟩
  have c1 : w.drew.cell? ⟨b, 1, none⟩ = some (.slice (some ⟨g, 0, none⟩) l.length cap) := by
    have : w.drew.heap[b]? = some (.cells #[p, .slice (some ⟨g, 0, none⟩) l.length cap] 50 (0, 0)) := hbk
    rw [Lib.cell_of_heap this]; rfl
  have hSD : (Builtin.unsafeSliceData_ #[39] 94 #[.slice (some ⟨g, 0, none⟩) l.length cap]).run Tryz.prog w.drew = .ok (.pointer (some ⟨g, 0, none⟩)) w.drew :=
    Lib.run_unsafeSliceData_row _ _ _ _ _ _ (by omega)
  have hUS : (Builtin.unsafeString_ #[94, 3] 9 #[.pointer (some ⟨g, 0, none⟩), .int .i64 l.length]).run Tryz.prog w.drew = .ok (.string ⟨l.toArray⟩) (w.drew.freeze ⟨g, 0, none⟩ l.length) := by
    refine Lib.run_unsafeString_row w.drew 94 3 9 5 Tryz.underlying94 (by kernel_rfl) g cur.size (by have hg' : w.drew.heap[g]? = some (.cells cur 5 (0, 0)) := hg; simp [World.shape?, hg']) l h0 (by omega) (by unfold maxLen at hcm; omega) ?_
    intro j x hx
    have := hown.cells (g := g) rfl j (.int .u8 x.toNat) (by simp [Lib.byteCells, hx])
    exact this
  have mixed : Tryz.prog.follows .mixedOrders = true := by kernel_rfl
  have HBG := hid hbg
  clear hown hbk h htake hcs hcm hnc hg hbg
  go_enter Tryz.func23, Tryz.ntmps23
  go_wp2
  go_region_o
  all_goals (go_wp2; go_ret; exact ⟨rfl, Lib.below_freeze (Below.drew (Below.refl B w)) (p := ⟨g, 0, none⟩) HBG.out _⟩)
end Go.Proofs.YtfndbnbnimhnaaaGreatDoor.C
/-! What a place leaves, as the program reckons it: plain mathematics. -/
namespace Go.Proofs.YtfndbnbnimhnaaaGreatDoor.C
open Go.RowKit
theorem fitL_all : ∀ (a t : List Int), fitL a t = true ↔ a.length = t.length ∧ ∀ z, z < a.length → fitK (a.getD z 0) (t.getD z 0) = true
  | [], [] => by simp [fitL]
  | [], _ :: _ => by simp [fitL]
  | _ :: _, [] => by simp [fitL]
  | x :: a, y :: t => by
    have ih := fitL_all a t
    simp only [fitL, Bool.and_eq_true, ih, List.length_cons]
    constructor
    · rintro ⟨h1, h2, h3⟩
      refine ⟨by omega, fun z hz => ?_⟩
      cases z with
      | zero => simpa using h1
      | succ z => simpa using h3 z (by omega)
    · rintro ⟨h1, h2⟩
      exact ⟨by simpa using h2 0 (by omega), by omega, fun z hz => by simpa using h2 (z + 1) (by omega)⟩
theorem eq_iff_get {a t : List Int} (hl : a.length = t.length) : t = a ↔ ∀ z, z < a.length → a.getD z 0 = t.getD z 0 := by
  constructor
  · intro h z _; rw [h]
  · intro h
    apply List.ext_getElem (by omega)
    intro z h1 h2
    have := h z h2
    simpa [List.getD_eq_getElem?_getD, h1, h2] using this.symm
/-- All that is taken fits. -/
def AllT (fns : List Fn) (f : Fn) (i : In) (tk : List Int) : Prop := ∀ z, z < takesN fns i → tkB fns f i z (tk.getD z 0) = true
theorem fit_neg {k : Int} (hk : 1 ≤ k) : fitK (-1) k = isI k := by
  unfold fitK
  have : ¬ (-1 : Int) = k := by omega
  simp [this]
theorem fit_pos {q k : Int} (hq : ¬ q = -1) : fitK q k = decide (q = k) := by unfold fitK; simp [hq]
theorem whn_pos {p : Prop} [Decidable p] {l : List Int} (h : p) : whn p l = some l := by unfold whn; rw [if_pos h]
theorem whn_neg {p : Prop} [Decidable p] {l : List Int} (h : ¬ p) : whn p l = none := by unfold whn; rw [if_neg h]
theorem getD1 {l : List Int} (h : ∀ x ∈ l, 1 ≤ x ∧ x ≤ 10) {z : Nat} (hz : z < l.length) : 1 ≤ l.getD z 0 ∧ l.getD z 0 ≤ 10 := by
  rw [List.getD_eq_getElem?_getD, List.getElem?_eq_getElem hz]
  exact h _ (List.getElem_mem hz)
/-- What the program puts is what the instruction leaves, where all that is taken fits; else nothing fits. -/
theorem eff_put {fns : List Fn} {f : Fn} {i : In} (hi : InsR fns f i) (_hF : ∀ g ∈ fns, FnR fns g) {sl tk : List Int} (hr : ∀ x ∈ tk, 1 ≤ x ∧ x ≤ 10) (hl : tk.length = takesN fns i) :
    (AllT fns f i tk → (putR fns i sl tk).2 = true → eff fns f i sl tk = some (putR fns i sl tk).1) ∧ (¬ (AllT fns f i tk ∧ (putR fns i sl tk).2 = true) → eff fns f i sl tk = none) := by
  obtain ⟨op, a, n, tx⟩ := i
  have hop := hi.op
  dsimp only at hop
  obtain rfl | rfl | rfl | rfl | rfl | rfl | rfl | rfl | rfl | rfl | rfl | rfl | rfl | rfl | rfl | rfl : op = 1 ∨ op = 2 ∨ op = 3 ∨ op = 4 ∨ op = 5 ∨ op = 6 ∨ op = 7 ∨ op = 8 ∨ op = 9 ∨ op = 10 ∨ op = 11 ∨ op = 12 ∨ op = 13 ∨ op = 14 ∨ op = 15 ∨ op = 16 := by omega
  · have hp := hi.push rfl
    dsimp only at hp
    have ha : ¬ a = 0 := by omega
    have hT : AllT fns f ⟨1, a, n, tx⟩ tk := fun z hz => by simp [takesN] at hz
    have hP : putR fns ⟨1, a, n, tx⟩ sl tk = ([a], true) := by simp [putR, putsT, putK, ha]
    rw [hP]
    exact ⟨fun _ _ => by simp [eff], fun h => absurd ⟨hT, rfl⟩ h⟩
  · have hT : AllT fns f ⟨2, a, n, tx⟩ tk := fun z hz => by simp [takesN] at hz
    have hP : putR fns ⟨2, a, n, tx⟩ sl tk = ([sl.getD a.toNat 0], decide (¬ sl.getD a.toNat 0 = 0)) := by simp [putR, putsT, putK]
    have hE : eff fns f ⟨2, a, n, tx⟩ sl tk = opt (sl.getD a.toNat 0) := by simp [eff]
    rw [hP, hE]
    unfold opt
    refine ⟨fun _ h => ?_, fun h => ?_⟩
    · rw [if_neg (by simpa using h)]
    · rw [if_pos (Decidable.byContradiction fun h9 => h ⟨hT, by simpa using h9⟩)]
  · have hT : AllT fns f ⟨3, a, n, tx⟩ tk := fun z hz => by
      obtain rfl : z = 0 := by simp [takesN] at hz; omega
      simp [tkB, takesT]
    have hP : putR fns ⟨3, a, n, tx⟩ sl tk = ([], true) := by simp [putR, putsT]
    rw [hP]
    exact ⟨fun _ _ => by simp [eff], fun h => absurd ⟨hT, rfl⟩ h⟩
  · have hT : AllT fns f ⟨4, a, n, tx⟩ tk := fun z hz => by
      obtain rfl : z = 0 := by simp [takesN] at hz; omega
      simp [tkB, takesT]
    have hP : putR fns ⟨4, a, n, tx⟩ sl tk = ([], true) := by simp [putR, putsT]
    rw [hP]
    exact ⟨fun _ _ => by simp [eff], fun h => absurd ⟨hT, rfl⟩ h⟩
  · have hT : AllT fns f ⟨5, a, n, tx⟩ tk := fun z hz => by
      obtain rfl : z = 0 := by simp [takesN] at hz; omega
      simp [tkB, takesT]
    have hP : putR fns ⟨5, a, n, tx⟩ sl tk = ([unG a (tk.getD 0 0)], decide (¬ unG a (tk.getD 0 0) = 0)) := by simp [putR, putsT, putK]
    have hE : eff fns f ⟨5, a, n, tx⟩ sl tk = opt (unG a (tk.getD 0 0)) := by simp [eff]
    rw [hP, hE]
    unfold opt
    refine ⟨fun _ h => ?_, fun h => ?_⟩
    · rw [if_neg (by simpa using h)]
    · rw [if_pos (Decidable.byContradiction fun h9 => h ⟨hT, by simpa using h9⟩)]
  · have hT : AllT fns f ⟨6, a, n, tx⟩ tk := fun z hz => by
      obtain rfl | rfl : z = 0 ∨ z = 1 := by simp [takesN] at hz; omega
      · simp [tkB, takesT]
      · simp [tkB, takesT]
    have hP : putR fns ⟨6, a, n, tx⟩ sl tk = ([binG a (tk.getD 0 0) (tk.getD 1 0)], decide (¬ binG a (tk.getD 0 0) (tk.getD 1 0) = 0)) := by simp [putR, putsT, putK]
    have hE : eff fns f ⟨6, a, n, tx⟩ sl tk = opt (binG a (tk.getD 0 0) (tk.getD 1 0)) := by simp [eff]
    rw [hP, hE]
    unfold opt
    refine ⟨fun _ h => ?_, fun h => ?_⟩
    · rw [if_neg (by simpa using h)]
    · rw [if_pos (Decidable.byContradiction fun h9 => h ⟨hT, by simpa using h9⟩)]
  · have hp := hi.conv rfl
    dsimp only at hp
    have ha : ¬ a = 0 := by omega
    have h0 : 0 < tk.length := by rw [hl]; simp [takesN]
    have hT : AllT fns f ⟨7, a, n, tx⟩ tk ↔ isI (tk.getD 0 0) = true := by
      have e : tkB fns f ⟨7, a, n, tx⟩ 0 (tk.getD 0 0) = isI (tk.getD 0 0) := by
        have : tkB fns f ⟨7, a, n, tx⟩ 0 (tk.getD 0 0) = fitK (-1) (tk.getD 0 0) := by simp [tkB, takesT]
        rw [this, fit_neg (getD1 hr h0).1]
      constructor
      · intro h; rw [← e]; exact h 0 (by simp [takesN])
      · intro h z hz
        obtain rfl : z = 0 := by simp [takesN] at hz; omega
        rw [e]; exact h
    have hP : putR fns ⟨7, a, n, tx⟩ sl tk = ([a], true) := by simp [putR, putsT, putK, ha]
    have hE : eff fns f ⟨7, a, n, tx⟩ sl tk = whn (isI (tk.getD 0 0) = true) [a] := by simp [eff]
    rw [hP, hE]
    exact ⟨fun h _ => whn_pos (hT.1 h), fun h => whn_neg fun h9 => h ⟨hT.2 h9, rfl⟩⟩
  · have hs := sig_range a
    have ha : ¬ (sig a).2 = 0 := by omega
    have hn : takesN fns ⟨8, a, n, tx⟩ = (sig a).1.length := by simp [takesN]
    have hT : AllT fns f ⟨8, a, n, tx⟩ tk ↔ fitL (sig a).1 tk = true := by
      rw [fitL_all]
      have e : ∀ z, tkB fns f ⟨8, a, n, tx⟩ z (tk.getD z 0) = fitK ((sig a).1.getD z 0) (tk.getD z 0) := fun z => by simp [tkB]
      constructor
      · intro h; exact ⟨by rw [hl, hn], fun z hz => by rw [← e]; exact h z (by rw [hn]; exact hz)⟩
      · intro h z hz; rw [e]; exact h.2 z (by rw [← hn]; exact hz)
    have hP : putR fns ⟨8, a, n, tx⟩ sl tk = ([(sig a).2], true) := by simp [putR, putsT, putK, ha]
    have hE : eff fns f ⟨8, a, n, tx⟩ sl tk = whn (fitL (sig a).1 tk = true) [(sig a).2] := by simp [eff]
    rw [hP, hE]
    exact ⟨fun h _ => whn_pos (hT.1 h), fun h => whn_neg fun h9 => h ⟨hT.2 h9, rfl⟩⟩
  · have hn : takesN fns ⟨9, a, n, tx⟩ = (fns.getD a.toNat fn0).params.length := by simp [takesN]
    have hT : AllT fns f ⟨9, a, n, tx⟩ tk ↔ tk = (fns.getD a.toNat fn0).params := by
      rw [eq_iff_get (by rw [hl, hn])]
      have e : ∀ z, tkB fns f ⟨9, a, n, tx⟩ z (tk.getD z 0) = decide ((fns.getD a.toNat fn0).params.getD z 0 = tk.getD z 0) := fun z => by simp [tkB]
      constructor
      · intro h z hz
        have := h z (by rw [hn]; exact hz)
        rw [e] at this
        simpa using this
      · intro h z hz
        rw [e]
        simpa using h z (by rw [← hn]; exact hz)
    have hE : eff fns f ⟨9, a, n, tx⟩ sl tk = whn (tk = (fns.getD a.toNat fn0).params) (if (fns.getD a.toNat fn0).result = 0 then [] else [(fns.getD a.toNat fn0).result]) := by simp [eff]
    by_cases hz : (fns.getD a.toNat fn0).result = 0
    · have hP : putR fns ⟨9, a, n, tx⟩ sl tk = ([], true) := (if_neg (show ¬ putsT 9 = 0 by decide)).trans (if_pos ⟨rfl, hz⟩)
      rw [hP, hE, if_pos hz]
      exact ⟨fun h _ => whn_pos (hT.1 h), fun h => whn_neg fun h9 => h ⟨hT.2 h9, rfl⟩⟩
    · have hP : putR fns ⟨9, a, n, tx⟩ sl tk = ([(fns.getD a.toNat fn0).result], true) := (if_neg (show ¬ putsT 9 = 0 by decide)).trans ((if_neg fun h => hz h.2).trans (by
        have e : putK fns ⟨9, a, n, tx⟩ sl tk = (fns.getD a.toNat fn0).result := rfl
        rw [e]
        have : decide (¬ (fns.getD a.toNat fn0).result = 0) = true := by rw [decide_eq_true_iff]; exact hz
        rw [this]))
      rw [hP, hE, if_neg hz]
      exact ⟨fun h _ => whn_pos (hT.1 h), fun h => whn_neg fun h9 => h ⟨hT.2 h9, rfl⟩⟩
  · have hT : AllT fns f ⟨10, a, n, tx⟩ tk := fun z hz => by simp [takesN] at hz
    have hP : putR fns ⟨10, a, n, tx⟩ sl tk = ([], true) := by simp [putR, putsT]
    rw [hP]
    exact ⟨fun _ _ => by simp [eff], fun h => absurd ⟨hT, rfl⟩ h⟩
  · have hT : AllT fns f ⟨11, a, n, tx⟩ tk ↔ tk.getD 0 0 = 1 := by
      have e : tkB fns f ⟨11, a, n, tx⟩ 0 (tk.getD 0 0) = decide ((1 : Int) = tk.getD 0 0) := by
        have : tkB fns f ⟨11, a, n, tx⟩ 0 (tk.getD 0 0) = fitK 1 (tk.getD 0 0) := by simp [tkB, takesT]
        rw [this, fit_pos (by decide)]
      constructor
      · intro h
        have := h 0 (by simp [takesN])
        rw [e] at this
        exact (by simpa using this : (1 : Int) = tk.getD 0 0).symm
      · intro h z hz
        obtain rfl : z = 0 := by simp [takesN] at hz; omega
        rw [e, h]; rfl
    have hP : putR fns ⟨11, a, n, tx⟩ sl tk = ([], true) := by simp [putR, putsT]
    have hE : eff fns f ⟨11, a, n, tx⟩ sl tk = whn (tk.getD 0 0 = 1) [] := by simp [eff]
    rw [hP, hE]
    exact ⟨fun h _ => whn_pos (hT.1 h), fun h => whn_neg fun h9 => h ⟨hT.2 h9, rfl⟩⟩
  · have hT : AllT fns f ⟨12, a, n, tx⟩ tk ↔ (a = 0 ∨ tk.getD 0 0 = f.result) := by
      have e : ∀ z, tkB fns f ⟨12, a, n, tx⟩ z (tk.getD z 0) = decide (f.result = tk.getD z 0) := fun z => by simp [tkB]
      have hret := hi.ret rfl
      dsimp only at hret
      rcases hret with ⟨ha, _⟩ | ⟨ha, _⟩
      · subst ha
        constructor
        · intro h
          have := h 0 (by simp [takesN])
          rw [e] at this
          exact .inr (by simpa using this : f.result = tk.getD 0 0).symm
        · intro h z hz
          obtain rfl : z = 0 := by simp [takesN] at hz; omega
          rw [e]
          rcases h with h | h
          · cases h
          · rw [h]; simp
      · subst ha
        constructor
        · intro _; exact .inl rfl
        · intro _ z hz; simp [takesN] at hz
    have hP : putR fns ⟨12, a, n, tx⟩ sl tk = ([], true) := by simp [putR, putsT]
    have hE : eff fns f ⟨12, a, n, tx⟩ sl tk = whn (a = 0 ∨ tk.getD 0 0 = f.result) [] := by simp [eff]
    rw [hP, hE]
    exact ⟨fun h _ => whn_pos (hT.1 h), fun h => whn_neg fun h9 => h ⟨hT.2 h9, rfl⟩⟩
  · have hT : AllT fns f ⟨13, a, n, tx⟩ tk ↔ tk.getD 0 0 = 2 := by
      have e : tkB fns f ⟨13, a, n, tx⟩ 0 (tk.getD 0 0) = decide ((2 : Int) = tk.getD 0 0) := by
        have : tkB fns f ⟨13, a, n, tx⟩ 0 (tk.getD 0 0) = fitK 2 (tk.getD 0 0) := by simp [tkB, takesT]
        rw [this, fit_pos (by decide)]
      constructor
      · intro h
        have := h 0 (by simp [takesN])
        rw [e] at this
        exact (by simpa using this : (2 : Int) = tk.getD 0 0).symm
      · intro h z hz
        obtain rfl : z = 0 := by simp [takesN] at hz; omega
        rw [e, h]; rfl
    have hP : putR fns ⟨13, a, n, tx⟩ sl tk = ([], true) := by simp [putR, putsT]
    have hE : eff fns f ⟨13, a, n, tx⟩ sl tk = whn (tk.getD 0 0 = 2) [] := by simp [eff]
    rw [hP, hE]
    exact ⟨fun h _ => whn_pos (hT.1 h), fun h => whn_neg fun h9 => h ⟨hT.2 h9, rfl⟩⟩
  · have hT : AllT fns f ⟨14, a, n, tx⟩ tk ↔ (tk.getD 0 0 = 2 ∧ tk.getD 1 0 = 2) := by
      have e0 : tkB fns f ⟨14, a, n, tx⟩ 0 (tk.getD 0 0) = decide ((2 : Int) = tk.getD 0 0) := by
        have : tkB fns f ⟨14, a, n, tx⟩ 0 (tk.getD 0 0) = fitK 2 (tk.getD 0 0) := by simp [tkB, takesT]
        rw [this, fit_pos (by decide)]
      have e1 : tkB fns f ⟨14, a, n, tx⟩ 1 (tk.getD 1 0) = decide ((2 : Int) = tk.getD 1 0) := by
        have : tkB fns f ⟨14, a, n, tx⟩ 1 (tk.getD 1 0) = fitK 2 (tk.getD 1 0) := by simp [tkB, takesT]
        rw [this, fit_pos (by decide)]
      constructor
      · intro h
        have h0 := h 0 (by simp [takesN])
        have h1 := h 1 (by simp [takesN])
        rw [e0] at h0
        rw [e1] at h1
        exact ⟨(by simpa using h0 : (2 : Int) = tk.getD 0 0).symm, (by simpa using h1 : (2 : Int) = tk.getD 1 0).symm⟩
      · rintro ⟨h0, h1⟩ z hz
        obtain rfl | rfl : z = 0 ∨ z = 1 := by simp [takesN] at hz; omega
        · rw [e0, h0]; rfl
        · rw [e1, h1]; rfl
    have hP : putR fns ⟨14, a, n, tx⟩ sl tk = ([], true) := by simp [putR, putsT]
    have hE : eff fns f ⟨14, a, n, tx⟩ sl tk = whn (tk.getD 0 0 = 2 ∧ tk.getD 1 0 = 2) [] := by simp [eff]
    rw [hP, hE]
    exact ⟨fun h _ => whn_pos (hT.1 h), fun h => whn_neg fun h9 => h ⟨hT.2 h9, rfl⟩⟩
  · have hT : AllT fns f ⟨15, a, n, tx⟩ tk ↔ tk.getD 0 0 = 2 := by
      have e : tkB fns f ⟨15, a, n, tx⟩ 0 (tk.getD 0 0) = decide ((2 : Int) = tk.getD 0 0) := by
        have : tkB fns f ⟨15, a, n, tx⟩ 0 (tk.getD 0 0) = fitK 2 (tk.getD 0 0) := by simp [tkB, takesT]
        rw [this, fit_pos (by decide)]
      constructor
      · intro h
        have := h 0 (by simp [takesN])
        rw [e] at this
        exact (by simpa using this : (2 : Int) = tk.getD 0 0).symm
      · intro h z hz
        obtain rfl : z = 0 := by simp [takesN] at hz; omega
        rw [e, h]; rfl
    have hP : putR fns ⟨15, a, n, tx⟩ sl tk = ([], true) := by simp [putR, putsT]
    have hE : eff fns f ⟨15, a, n, tx⟩ sl tk = whn (tk.getD 0 0 = 2) [] := by simp [eff]
    rw [hP, hE]
    exact ⟨fun h _ => whn_pos (hT.1 h), fun h => whn_neg fun h9 => h ⟨hT.2 h9, rfl⟩⟩
  · have hT : AllT fns f ⟨16, a, n, tx⟩ tk := fun z hz => by simp [takesN] at hz
    have hP : putR fns ⟨16, a, n, tx⟩ sl tk = ([], true) := by simp [putR, putsT]
    rw [hP]
    exact ⟨fun _ _ => by simp [eff], fun h => absurd ⟨hT, rfl⟩ h⟩
/-- The number of instructions, which is no place, is among those where it goes on just where one of these is no place. -/
theorem goes_in {fns : List Fn} {f : Fn} {p : Nat} (hp : p < f.ins.length) (hi : InsR fns f (f.ins.getD p in0)) : (∀ g ∈ goes (f.ins.getD p in0) p, g < f.ins.length) ↔ ¬ (f.ins.length : Int) ∈ nums (goes (f.ins.getD p in0) p) := by
  have hle : ∀ g ∈ goes (f.ins.getD p in0) p, g ≤ f.ins.length := by
    intro g hg
    have hpl := hi.place
    generalize f.ins.getD p in0 = i at hg hpl
    unfold goes at hg
    split at hg
    · simp at hg
    · split at hg
      · rename_i h
        simp at hg
        have := hpl (.inl h)
        omega
      · split at hg
        · rename_i h
          simp at hg
          have := hpl (.inr h)
          omega
        · simp at hg
          omega
  unfold nums
  rw [List.mem_map]
  constructor
  · rintro h ⟨g, hg, e⟩
    have := h g hg
    omega
  · intro h g hg
    have h1 := hle g hg
    rcases Nat.lt_or_ge g f.ins.length with h2 | h2
    · exact h2
    · exact absurd ⟨g, hg, by omega⟩ h
end Go.Proofs.YtfndbnbnimhnaaaGreatDoor.C
/-! Which instructions and functions are right: what both sides come to. -/
namespace Go.Proofs.YtfndbnbnimhnaaaGreatDoor.C
open Go.RowKit
set_option maxRecDepth 20000
/-- What an instruction's A may be. -/
def aB (fns : List Fn) (f : Fn) (op a : Int) : Bool :=
  if op = 1 then inB a 1 10 else if op = 2 ∨ op = 3 then inB a 0 (f.slots - 1) else if op = 5 then inB a 1 3 else if op = 6 then inB a 3 18 else if op = 7 then inB a 3 10 else if op = 8 then inB a 1 12 else if op = 9 then inB a 0 ((fns.length : Int) - 1) else if op = 10 ∨ op = 11 then inB a 0 f.ins.length else if op = 12 then (if f.result = 0 then inB a 0 0 else inB a 1 1) else inB a 0 0
def insB (fns : List Fn) (f : Fn) (i : In) : Bool := inB i.op 1 16 && aB fns f i.op i.a && (if i.op = 1 then V.validB i.a i.n i.text else decide (i.n = 0) && decide (i.text.size = 0))
theorem inB_iff {n lo hi : Int} : inB n lo hi = true ↔ lo ≤ n ∧ n ≤ hi := by simp [inB]
theorem valid_type {t n : Int} {s : ByteArray} (h : V.validB t n s = true) : 1 ≤ t ∧ t ≤ 10 := by
  unfold V.validB at h
  split at h
  · omega
  · split at h
    · omega
    · simp at h
      omega
theorem insB_R {fns : List Fn} {f : Fn} {i : In} (h : insB fns f i = true) : InsR fns f i := by
  obtain ⟨op, a, n, tx⟩ := i
  simp only [insB, Bool.and_eq_true, inB_iff] at h
  obtain ⟨⟨h1, h2⟩, _⟩ := h
  refine ⟨h1, ?_, ?_, ?_, ?_, ?_, ?_, ?_, ?_, ?_⟩
  · rintro rfl
    simpa [aB, inB_iff] using h2
  · rintro (rfl | rfl)
    all_goals
      have : 0 ≤ a ∧ a ≤ f.slots - 1 := by simpa [aB, inB_iff] using h2
      exact ⟨this.1, by show a < f.slots; omega⟩
  · rintro rfl
    simpa [aB, inB_iff] using h2
  · rintro rfl
    simpa [aB, inB_iff] using h2
  · rintro rfl
    simpa [aB, inB_iff] using h2
  · rintro rfl
    simpa [aB, inB_iff] using h2
  · rintro rfl
    have : 0 ≤ a ∧ a ≤ (fns.length : Int) - 1 := by simpa [aB, inB_iff] using h2
    exact ⟨this.1, by show a < (fns.length : Int); omega⟩
  · rintro (rfl | rfl)
    all_goals
      have : 0 ≤ a ∧ a ≤ (f.ins.length : Int) := by simpa [aB, inB_iff] using h2
      exact this
  · rintro rfl
    by_cases hr : f.result = 0
    · have : a = 0 := by
        have : 0 ≤ a ∧ a ≤ 0 := by simpa [aB, inB_iff, hr] using h2
        omega
      exact .inr ⟨this, hr⟩
    · have : a = 1 := by
        have : 1 ≤ a ∧ a ≤ 1 := by simpa [aB, inB_iff, hr] using h2
        omega
      exact .inl ⟨this, hr⟩
/-- A function is right but for its instructions. -/
structure FnOk (fns : List Fn) (k : Nat) : Prop where
  name : Q.NameOk (fns.getD k fn0).name
  few : (fns.getD k fn0).params.length ≤ 8
  result : 0 ≤ (fns.getD k fn0).result ∧ (fns.getD k fn0).result ≤ 10
  slots : ((fns.getD k fn0).params.length : Int) ≤ (fns.getD k fn0).slots ∧ (fns.getD k fn0).slots ≤ 200
  some_ : 1 ≤ (fns.getD k fn0).ins.length ∧ (fns.getD k fn0).ins.length ≤ 50000
  params : ∀ i, i < (fns.getD k fn0).params.length → 1 ≤ (fns.getD k fn0).params.getD i 0 ∧ (fns.getD k fn0).params.getD i 0 ≤ 10
  once : ∀ i, i < k → ¬ (fns.getD i fn0).name = (fns.getD k fn0).name
def isMain (f : Fn) : Prop := f.name = ⟨#[109, 97, 105, 110]⟩ ∧ f.params.length = 0 ∧ f.result = 2
/-- What is wrong with a code, whatever lies where. -/
inductive Plain (fns : List Fn) : Nat → Nat → Nat → Prop
  | many (h : ¬ (1 ≤ fns.length ∧ fns.length ≤ 60)) : Plain fns 1 0 0
  | fn (h : 1 ≤ fns.length ∧ fns.length ≤ 60) (k : Nat) (hk : k < fns.length) (h1 : ∀ j, j < k → FnOk fns j) (h2 : ¬ FnOk fns k) : Plain fns 2 k 0
  | ins (h : 1 ≤ fns.length ∧ fns.length ≤ 60) (h0 : ∀ j, j < fns.length → FnOk fns j) (k i : Nat) (hk : k < fns.length) (hi : i < (fns.getD k fn0).ins.length) (h1 : ∀ j, j < k → ∀ p, p < (fns.getD j fn0).ins.length → insB fns (fns.getD j fn0) ((fns.getD j fn0).ins.getD p in0) = true) (h2 : ∀ p, p < i → insB fns (fns.getD k fn0) ((fns.getD k fn0).ins.getD p in0) = true) (h3 : insB fns (fns.getD k fn0) ((fns.getD k fn0).ins.getD i in0) = false) : Plain fns 3 k i
  | main (h : 1 ≤ fns.length ∧ fns.length ≤ 60) (h0 : ∀ j, j < fns.length → FnOk fns j) (h1 : ∀ j, j < fns.length → ∀ p, p < (fns.getD j fn0).ins.length → insB fns (fns.getD j fn0) ((fns.getD j fn0).ins.getD p in0) = true) (h2 : ∀ j, j < fns.length → ¬ isMain (fns.getD j fn0)) : Plain fns 4 0 0
  | ok (h : 1 ≤ fns.length ∧ fns.length ≤ 60) (h0 : ∀ j, j < fns.length → FnOk fns j) (h1 : ∀ j, j < fns.length → ∀ p, p < (fns.getD j fn0).ins.length → insB fns (fns.getD j fn0) ((fns.getD j fn0).ins.getD p in0) = true) (j : Nat) (hj : j < fns.length) (h2 : isMain (fns.getD j fn0)) : Plain fns 0 0 0
theorem Plain.uniq {fns : List Fn} {c k i c' k' i' : Nat} (h : Plain fns c k i) (h' : Plain fns c' k' i') : c = c' ∧ k = k' ∧ i = i' := by
  cases h with
  | many h =>
    cases h' with
    | many _ => exact ⟨rfl, rfl, rfl⟩
    | fn g => exact absurd g h
    | ins g => exact absurd g h
    | main g => exact absurd g h
    | ok g => exact absurd g h
  | fn h k hk h1 h2 =>
    cases h' with
    | many g => exact absurd h g
    | fn _ k' hk' g1 g2 =>
      rcases Nat.lt_trichotomy k k' with x | x | x
      · exact absurd (g1 k x) h2
      · exact ⟨rfl, x, rfl⟩
      · exact absurd (h1 k' x) g2
    | ins _ g0 => exact absurd (g0 k hk) h2
    | main _ g0 => exact absurd (g0 k hk) h2
    | ok _ g0 => exact absurd (g0 k hk) h2
  | ins h h0 k i hk hi h1 h2 h3 =>
    cases h' with
    | many g => exact absurd h g
    | fn _ k' hk' g1 g2 => exact absurd (h0 k' hk') g2
    | ins _ g0 k' i' hk' hi' g1 g2 g3 =>
      rcases Nat.lt_trichotomy k k' with x | x | x
      · have := g1 k x i hi; rw [h3] at this; cases this
      · subst x
        rcases Nat.lt_trichotomy i i' with x | x | x
        · have := g2 i x; rw [h3] at this; cases this
        · exact ⟨rfl, rfl, x⟩
        · have := h2 i' x; rw [g3] at this; cases this
      · have := h1 k' x i' hi'; rw [g3] at this; cases this
    | main _ _ g1 => have := g1 k hk i hi; rw [h3] at this; cases this
    | ok _ _ g1 => have := g1 k hk i hi; rw [h3] at this; cases this
  | main h h0 h1 h2 =>
    cases h' with
    | many g => exact absurd h g
    | fn _ k' hk' g1 g2 => exact absurd (h0 k' hk') g2
    | ins _ g0 k' i' hk' hi' g1 g2 g3 => have := h1 k' hk' i' hi'; rw [g3] at this; cases this
    | main _ _ _ _ => exact ⟨rfl, rfl, rfl⟩
    | ok _ _ _ j hj g2 => exact absurd g2 (h2 j hj)
  | ok h h0 h1 j hj h2 =>
    cases h' with
    | many g => exact absurd h g
    | fn _ k' hk' g1 g2 => exact absurd (h0 k' hk') g2
    | ins _ g0 k' i' hk' hi' g1 g2 g3 => have := h1 k' hk' i' hi'; rw [g3] at this; cases this
    | main _ _ _ g2 => exact absurd h2 (g2 j hj)
    | ok _ _ _ _ _ _ => exact ⟨rfl, rfl, rfl⟩
theorem mem_getD {α : Type} {l : List α} {d x : α} (h : x ∈ l) : ∃ i, i < l.length ∧ l.getD i d = x := by
  obtain ⟨i, hi, e⟩ := List.getElem_of_mem h
  exact ⟨i, hi, by rw [List.getD_eq_getElem?_getD, List.getElem?_eq_getElem hi]; exact e⟩
/-- Where nothing is wrong each function is right. -/
theorem plain_R {fns : List Fn} (h0 : ∀ j, j < fns.length → FnOk fns j) (h1 : ∀ j, j < fns.length → ∀ p, p < (fns.getD j fn0).ins.length → insB fns (fns.getD j fn0) ((fns.getD j fn0).ins.getD p in0) = true) : ∀ g ∈ fns, FnR fns g := by
  intro g hg
  obtain ⟨k, hk, rfl⟩ := mem_getD (d := fn0) hg
  have h := h0 k hk
  refine ⟨fun x hx => ?_, h.few, h.result, h.slots, h.some_, fun i hi => ?_⟩
  · obtain ⟨j, hj, rfl⟩ := mem_getD (d := 0) hx
    exact h.params j hj
  · obtain ⟨j, hj, rfl⟩ := mem_getD (d := in0) hi
    exact insB_R (h1 k hk j hj)
end Go.Proofs.YtfndbnbnimhnaaaGreatDoor.C
