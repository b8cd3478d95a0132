import Derived.Lib.Builder
import Derived.Lib.AppendStr
import Derived.Lib.UnsafeStr
import Derived.Lib.MakeNoZero
import Derived.Shelf.RegionOpenPlain
import Derived.Laws.Externs
import Derived.Test.YtkngjbpbjjoneaaGreatDoorJ21
import Derived.Test.YtkngjbpbjjoneaaGreatDoorJ22
import Derived.Test.YtkngjbpbjjoneaaGreatDoorJ23
import Derived.Test.YtkngjbpbjjoneaaGreatDoorJ24
/-! The writer: a strings.Builder that is embedded in a block of its own kind. -/
namespace Go.Proofs.YtkngjbpbjjoneaaGreatDoor.Q
open Go.RowKit Go.Shelf
set_option maxRecDepth 20000
/-- No row of bytes lies at block k. -/
def NotB (W : World) (k : Nat) : Prop := ∀ cs fr, W.heap[k]? ≠ some (.cells cs 5 fr)
/-- What writing leaves: all but the writer and rows of bytes from B on. -/
structure Wk (B b : Nat) (w w' : World) : Prop where
  os : w'.os = w.os
  tape : w'.tape = w.tape
  output : w'.output = w.output
  size : w.heap.size ≤ w'.heap.size
  block : ∀ k, k < w.heap.size → k ≠ b → (k < B ∨ NotB w k) → w'.heap[k]? = w.heap[k]?
theorem Wk.refl (B b : Nat) (w : World) : Wk B b w w := ⟨rfl, rfl, rfl, Nat.le_refl _, fun _ _ _ _ => rfl⟩
theorem Wk.trans {B b : Nat} {u v w : World} (h : Wk B b u v) (k : Wk B b v w) : Wk B b u w :=
  ⟨k.os.trans h.os, k.tape.trans h.tape, k.output.trans h.output, Nat.le_trans h.size k.size, fun i hi hb hn => by
    have e := h.block i hi hb hn
    exact (k.block i (Nat.lt_of_lt_of_le hi h.size) hb (hn.imp_right fun hn cs fr => by rw [e]; exact hn cs fr)).trans e⟩
theorem Wk.of_below {B b : Nat} {w w' : World} (h : Below w.heap.size w w') : Wk B b w w' := ⟨h.os, h.tape, h.output, h.size, fun k hk _ _ => h.block k hk⟩
theorem Wk.below {B b : Nat} {w w' : World} (h : Wk B b w w') (hb : B ≤ b) (hB : B ≤ w.heap.size) : Below B w w' := ⟨h.os, h.tape, h.output, h.size, fun k hk => h.block k (by omega) (by omega) (.inl hk)⟩
theorem Wk.cell {B b : Nat} {w w' : World} (h : Wk B b w w') {p : Addr} (hp : p.block < w.heap.size) (hb : p.block ≠ b) (hn : p.block < B ∨ NotB w p.block) : w'.cell? p = w.cell? p := World.cell?_of_block (w := w) (h.block p.block hp hb hn)
theorem Wk.notB {B b : Nat} {w w' : World} (h : Wk B b w w') {k : Nat} (hk : k < w.heap.size) (hb : k ≠ b) (hn : NotB w k) : NotB w' k := fun cs fr => by rw [h.block k hk hb (.inr hn)]; exact hn cs fr
theorem lt_of_heap {w : World} {b : Nat} {o : Obj} (h : w.heap[b]? = some o) : b < w.heap.size := (Array.getElem?_eq_some_iff.1 h).1
theorem NotB.of {w : World} {k : Nat} {cs : Array Value} {t : TypeId} {fr : Nat × Nat} (h : w.heap[k]? = some (.cells cs t fr)) (ht : t ≠ 5) : NotB w k := fun cs' fr' e => by rw [h] at e; injection e with e; injection e with _ e; exact ht e
theorem NotB.of_map {w : World} {k : Nat} {es : Array MapEntry} {n : Nat} (h : w.heap[k]? = some (.map es n)) : NotB w k := fun cs' fr' e => by rw [h] at e; injection e with e; cases e
/-- The writer at block b, its parts p, v and xw, holding the bytes l. -/
structure WrC (B b : Nat) (xw : Value) (p v : Value) (l : List UInt8) (w : World) : Prop where
  le : B ≤ b
  blk : w.heap[b]? = some (.cells #[p, v, xw] 52 (0, 0))
  own : w.ownsRow B 5 1 v l.length (Lib.byteCells l)
theorem WrC.ne {B b : Nat} {xw : Value} {p v : Value} {l : List UInt8} {w : World} (h : WrC B b xw p v l w) : v.ownBlock ≠ some b := Lib.ownBlock_ne h.own h.blk (by decide)
theorem WrC.next {B b : Nat} {xw : Value} {p v : Value} {l : List UInt8} {w w' : World} (h : WrC B b xw p v l w) (hb : Below w.heap.size w w') : WrC B b xw p v l w' :=
  ⟨h.le, (hb.block b (lt_of_heap h.blk)).trans h.blk, own_below h.own hb⟩
/-- The writer holds the bytes l. -/
def WrAt (B b : Nat) (xw : Value) (l : List UInt8) (w : World) : Prop := ∃ p v, (p = .pointer none ∨ p = .pointer (some ⟨b, 0, none⟩)) ∧ WrC B b xw p v l w
theorem WrAt.next {B b : Nat} {xw : Value} {l : List UInt8} {w w' : World} (h : WrAt B b xw l w) (hb : Below w.heap.size w w') : WrAt B b xw l w' := by
  obtain ⟨p, v, hp, h⟩ := h
  exact ⟨p, v, hp, h.next hb⟩
theorem WrAt.le {B b : Nat} {xw : Value} {l : List UInt8} {w : World} (h : WrAt B b xw l w) : B ≤ b := by obtain ⟨p, v, hp, h⟩ := h; exact h.le
theorem WrAt.lt {B b : Nat} {xw : Value} {l : List UInt8} {w : World} (h : WrAt B b xw l w) : b < w.heap.size := by obtain ⟨p, v, hp, h⟩ := h; exact lt_of_heap h.blk
theorem set_heap0 {w : World} {b : Nat} {p v x q : Value} {T : TypeId} (h : w.heap[b]? = some (.cells #[p, v, x] T (0, 0))) : (w.setCell ⟨b, 0, none⟩ q).heap[b]? = some (.cells #[q, v, x] T (0, 0)) := by
  simp [World.setCell, Array.getElem?_modify, h]
theorem set_heap1 {w : World} {b : Nat} {p v x q : Value} {T : TypeId} (h : w.heap[b]? = some (.cells #[p, v, x] T (0, 0))) : (w.setCell ⟨b, 1, none⟩ q).heap[b]? = some (.cells #[p, q, x] T (0, 0)) := by
  simp [World.setCell, Array.getElem?_modify, h]
theorem own_set {w : World} {B b i : Nat} {v q : Value} {n : Nat} {xs : List Value} (h : w.ownsRow B 5 1 v n xs) (hne : v.ownBlock ≠ some b) : (w.setCell ⟨b, i, none⟩ q).ownsRow B 5 1 v n xs :=
  h.kept (row := some b) ⟨rfl, rfl, rfl, by simp [World.setCell], fun k _ hk => Below.heap_setCell _ _ _ _ (fun e => hk (by simp [e]))⟩ (Or.inr hne)
theorem Wk.set {B b i : Nat} {w w' : World} (h : Wk B b w w') (q : Value) : Wk B b w (w'.setCell ⟨b, i, none⟩ q) :=
  h.trans ⟨rfl, rfl, rfl, by simp [World.setCell], fun k _ hb _ => Below.heap_setCell _ _ _ _ hb⟩
theorem Wk.grown {B b : Nat} {w w1 w2 : World} {v : Value} {n : Nat} {xs : List Value} (h : Wk B b w w1) (hown : w1.ownsRow B 5 1 v n xs) (hg : w1.grownBy w2 v.ownBlock) : Wk B b w w2 :=
  h.trans ⟨hg.os, hg.tape, hg.output, hg.size, fun k hk _ hn => hg.block k hk fun e => by
    rcases hown.2 with ⟨rfl, _⟩ | ⟨g, cap, cur, rfl, h1, h2, _⟩
    · simp [Value.ownBlock] at e
    · simp only [Value.ownBlock, Option.some.injEq] at e
      subst e
      rcases hn with hn | hn
      · omega
      · exact hn _ _ h2⟩
theorem builderInfo : ∃ j, Tryz.prog.info? 48 = some j ∧ j.size = 2 := Option.map_eq_some_iff.1 (show (Tryz.prog.info? 48).map (·.size) = some 2 by kernel_rfl)
set_option maxHeartbeats 1000000 in
theorem copyCheck_any (B b : Nat) (xw : Value) (l : List UInt8) (w : World) (h : WrAt B b xw l w) :
    Calls Tryz.prog 72 #[.pointer (some ⟨b, 0, none⟩)] w fun e w' => e = .returned (.tuple #[]) ∧ (∃ v, WrC B b xw (.pointer (some ⟨b, 0, none⟩)) v l w') ∧ Wk B b w w' := by
  obtain ⟨p, v, hp, hw⟩ := h
  obtain ⟨j, hj, hjs⟩ := builderInfo
  have HW := hid hw
  have hsh : w.shape? b = some (52, 3) := by simp [World.shape?, hw.blk]
  have hfz : w.frozen? ⟨b, 0, none⟩ = false := Lib.frozen_of_heap hw.blk 0
  have h0 : w.cell? ⟨b, 0, none⟩ = some p := by rw [Lib.cell_of_heap hw.blk]; rfl
  have hli : liesAt Tryz.prog Tryz.prog.depth 52 (3 / Tryz.prog.cellsOf 52) 0 48 1 = true := by kernel_rfl
  clear hw
  rcases hp with rfl | rfl
  · go_enter Tryz.func72, Tryz.ntmps72
    go_wp2
    rw [Lib.run_to_unsafe w ⟨b, 0, none⟩ Tryz.underlying46 Tryz.underlying182 hj (by rw [hjs]; decide) hsh (Nat.zero_lt_succ 2)]
    simp only [Result.andThen]
    rw [Oper.upon_value]
    go_wp2
    rw [run_callFunc_extern Tryz.func92 (by kernel_rfl) (by kernel_rfl) (by kernel_rfl) (e := Extern.AbiNoEscape.same) (by kernel_rfl)]
    rw [Lib.run_noEscape]
    simp only [Result.andThen]
    rw [Oper.upon_value]
    go_wp2
    rw [Lib.run_from_unsafe w ⟨b, 0, none⟩ Tryz.underlying182 Tryz.underlying46 hj hsh hli]
    simp only [Result.andThen]
    rw [Oper.upon_value]
    go_wp2
    go_end0
    have hw := HW.out
    exact ⟨rfl, ⟨v, hw.le, set_heap0 hw.blk, own_set hw.own hw.ne⟩, (Wk.refl B b w).set _⟩
  · go_enter Tryz.func72, Tryz.ntmps72
    go_wp2
    rw [Lib.run_neq_ptr_same w _ Tryz.underlying46 hj]
    go_wp2
    go_end0
    exact ⟨rfl, ⟨v, HW.out⟩, Wk.refl _ _ _⟩
set_option maxHeartbeats 2000000 in
theorem writeString_any (B b : Nat) (xw : Value) (l : List UInt8) (s : ByteArray) (w : World) (h : WrAt B b xw l w) (hlen : l.length + s.size ≤ 1000000000000) :
    Calls Tryz.prog 54 #[.pointer (some ⟨b, 0, none⟩), .string s] w fun e w' => e = .returned (.tuple #[.int .i64 s.size, .nilIface]) ∧ WrAt B b xw (l ++ s.data.toList) w' ∧ Wk B b w w' := by
  obtain ⟨i0, hi, hz0, hz1, hz2⟩ := info_parts (P := Tryz.prog) (e := 5) (z := .int .u8 0) (size := 1) (bytes := 1) (by kernel_rfl)
  have HHI := hid (And.intro hi (And.intro hz0 (And.intro hz1 hz2)))
  have HW := hid h
  clear hi hz0 hz1 hz2 h
  go_enter Tryz.func54, Tryz.ntmps54
  go_wp2_with fail
  refine (copyCheck_any B b xw l _ HW.out).mono ?_
  rintro e w1 ⟨rfl, ⟨v, hw1⟩, hk1⟩
  have HW1 := hid hw1
  have HK1 := hid hk1
  have c0 : w1.cell? ⟨b, 0, none⟩ = some (.pointer (some ⟨b, 0, none⟩)) := by rw [Lib.cell_of_heap hw1.blk]; rfl
  have c1 : w1.cell? ⟨b, 1, none⟩ = some v := by rw [Lib.cell_of_heap hw1.blk]; rfl
  have hB1 : B ≤ w1.heap.size := by have := hw1.le; have := lt_of_heap hw1.blk; omega
  clear hw1 hk1
  go_wp2_with (at_builtin; refine Lib.wpList_append_own_string _ rfl _ _ 41 9 rfl B 5 i0 Tryz.underlying41 Tryz.underlying9 HHI.out.1 HHI.out.2.1 HHI.out.2.2.1 HHI.out.2.2.2 _ _ _ rfl HW1.out.own s rfl ?c3 ?c4 hB1 ?_)
  case c3 => unfold maxLen; omega
  case c4 => omega
  intro v' w2 hown' hgrow _
  have hb2 : w2.heap[b]? = some (.cells #[.pointer (some ⟨b, 0, none⟩), v, xw] 52 (0, 0)) := by
    rw [hgrow.block b (lt_of_heap HW1.out.blk) (fun e => HW1.out.ne e.symm)]
    exact HW1.out.blk
  have d0 : w2.cell? ⟨b, 0, none⟩ = some (.pointer (some ⟨b, 0, none⟩)) := by rw [Lib.cell_of_heap hb2]; rfl
  have d1 : w2.cell? ⟨b, 1, none⟩ = some v := by rw [Lib.cell_of_heap hb2]; rfl
  have f1 : w2.frozen? ⟨b, 1, none⟩ = false := Lib.frozen_of_heap hb2 1
  have HG := hid hgrow
  have HO := hid hown'
  have HB2 := hid hb2
  obtain ⟨ao, n', cap, rfl⟩ : ∃ ao n' cap, v' = .slice ao n' cap := by
    rcases hown'.2 with ⟨hv, _⟩ | ⟨g, cap, cur, hv, _⟩
    · exact ⟨_, _, _, hv⟩
    · exact ⟨_, _, _, hv⟩
  clear hgrow hown' hb2
  go_wp2
  go_ret2
  have hne := Lib.ownBlock_ne HO.out HB2.out (by decide)
  refine ⟨rfl, ⟨_, _, .inr rfl, HW1.out.le, set_heap1 HB2.out, ?_⟩, (HK1.out.grown HW1.out.own HG.out).set _⟩
  rw [Lib.byteCells_append, ← Lib.strCells_eq, List.length_append, len_size]
  exact own_set HO.out hne
set_option maxHeartbeats 2000000 in
theorem writeByte_any (B b : Nat) (xw : Value) (l : List UInt8) (c : UInt8) (w : World) (h : WrAt B b xw l w) (hlen : l.length + 1 ≤ 1000000000000) :
    Calls Tryz.prog 98 #[.pointer (some ⟨b, 0, none⟩), .int .u8 c.toNat] w fun e w' => e = .returned .nilIface ∧ WrAt B b xw (l ++ [c]) w' ∧ Wk B b w w' := by
  obtain ⟨i0, hi, hz0, hz1, hz2⟩ := info_parts (P := Tryz.prog) (e := 5) (z := .int .u8 0) (size := 1) (bytes := 1) (by kernel_rfl)
  have HHI := hid (And.intro hi (And.intro hz0 (And.intro hz1 hz2)))
  have HW := hid h
  clear hi hz0 hz1 hz2 h
  go_enter Tryz.func98, Tryz.ntmps98
  go_wp2_with fail
  refine (copyCheck_any B b xw l _ HW.out).mono ?_
  rintro e w1 ⟨rfl, ⟨v, hw1⟩, hk1⟩
  have HW1 := hid hw1
  have HK1 := hid hk1
  have c0 : w1.cell? ⟨b, 0, none⟩ = some (.pointer (some ⟨b, 0, none⟩)) := by rw [Lib.cell_of_heap hw1.blk]; rfl
  have c1 : w1.cell? ⟨b, 1, none⟩ = some v := by rw [Lib.cell_of_heap hw1.blk]; rfl
  have hB1 : B ≤ w1.heap.size := by have := hw1.le; have := lt_of_heap hw1.blk; omega
  clear hw1 hk1
  go_wp2_with (at_builtin; refine wpList_append_own _ rfl _ _ 41 rfl B 5 i0 (.int .u8 0) 1 1 Tryz.underlying41 HHI.out.1 HHI.out.2.1 HHI.out.2.2.1 HHI.out.2.2.2 rfl (by decide) _ _ _ rfl (HW1.out.own.alloc _) ⟨w1.heap.size, 0, none⟩ 1 1 [.int .u8 c.toNat] rfl rfl ?c1 ?c2 ?c3 ?c4 ?c5 ?_)
  case c1 =>
    intro j u hj
    match j, hj with
    | 0, hj => simp at hj; subst hj; simp [Addr.add]
  case c2 => intro u hu; simp at hu; subst hu; rfl
  case c3 => unfold maxLen; omega
  case c4 => omega
  case c5 => simp; omega
  intro v' w2 hown' hgrow _
  have hlt := lt_of_heap HW1.out.blk
  have hb2 : w2.heap[b]? = some (.cells #[.pointer (some ⟨b, 0, none⟩), v, xw] 52 (0, 0)) := by
    rw [hgrow.block b (by simp; omega) (fun e => HW1.out.ne e.symm), Lib.alloc_old w1 _ b hlt]
    exact HW1.out.blk
  have d0 : w2.cell? ⟨b, 0, none⟩ = some (.pointer (some ⟨b, 0, none⟩)) := by rw [Lib.cell_of_heap hb2]; rfl
  have d1 : w2.cell? ⟨b, 1, none⟩ = some v := by rw [Lib.cell_of_heap hb2]; rfl
  have f1 : w2.frozen? ⟨b, 1, none⟩ = false := Lib.frozen_of_heap hb2 1
  have HG := hid hgrow
  have HO := hid hown'
  have HB2 := hid hb2
  obtain ⟨g, cap, rfl⟩ : ∃ g cap, v' = .slice (some ⟨g, 0, none⟩) (l.length + 1) cap := by
    rcases hown'.2 with ⟨_, h0⟩ | ⟨g, cap, cur, hv, _⟩
    · omega
    · exact ⟨g, cap, hv⟩
  clear hgrow hown' hb2 hlt
  go_wp2
  go_ret
  have hne := Lib.ownBlock_ne HO.out HB2.out (by decide)
  refine ⟨rfl, ⟨_, _, .inr rfl, HW1.out.le, set_heap1 HB2.out, ?_⟩, ((HK1.out.trans (Wk.of_below ((Below.refl _ _).alloc (Nat.le_refl _) _))).grown (HW1.out.own.alloc _) HG.out).set _⟩
  rw [Lib.byteCells_append, List.length_append]
  exact own_set HO.out hne
set_option maxHeartbeats 2000000 in
theorem string_any (B b : Nat) (xw : Value) (l : List UInt8) (w : World) (h : WrAt B b xw l w) (h0 : l ≠ []) :
    Calls Tryz.prog 18 #[.pointer (some ⟨b, 0, none⟩)] w fun e w' => e = .returned (.string ⟨l.toArray⟩) ∧ Below B w w' := by
  obtain ⟨p, v, _, h⟩ := h
  have hl0 : l.length ≠ 0 := by simpa using h0
  have hown := h.own
  have hbk := h.blk
  obtain ⟨g, cap, cur, rfl, hbg, hg, hnc, hcm, hcs, htake⟩ : ∃ g cap cur, v = .slice (some ⟨g, 0, none⟩) l.length cap ∧ B ≤ g ∧ w.heap[g]? = some (.cells cur 5 (0, 0)) ∧ l.length ≤ cap ∧ cap ≤ maxLen ∧ cur.size = cap * 1 ∧ cur.toList.take (l.length * 1) = Lib.byteCells l := by
    rcases hown.2 with ⟨_, hz⟩ | ⟨g, cap, cur, hv, r⟩
    · exact absurd hz hl0
    · exact ⟨g, cap, cur, hv, r⟩
  have c1 : w.drew.cell? ⟨b, 1, none⟩ = some (.slice (some ⟨g, 0, none⟩) l.length cap) := by
    have : w.drew.heap[b]? = some (.cells #[p, .slice (some ⟨g, 0, none⟩) l.length cap, xw] 52 (0, 0)) := hbk
    rw [Lib.cell_of_heap this]; rfl
  have hSD : (Builtin.unsafeSliceData_ #[41] 92 #[.slice (some ⟨g, 0, none⟩) l.length cap]).run Tryz.prog w.drew = .ok (.pointer (some ⟨g, 0, none⟩)) w.drew :=
    Lib.run_unsafeSliceData_row _ _ _ _ _ _ (by omega)
  have hUS : (Builtin.unsafeString_ #[92, 3] 9 #[.pointer (some ⟨g, 0, none⟩), .int .i64 l.length]).run Tryz.prog w.drew = .ok (.string ⟨l.toArray⟩) (w.drew.freeze ⟨g, 0, none⟩ l.length) := by
    refine Lib.run_unsafeString_row w.drew 92 3 9 5 Tryz.underlying92 (by kernel_rfl) g cur.size (by have hg' : w.drew.heap[g]? = some (.cells cur 5 (0, 0)) := hg; simp [World.shape?, hg']) l h0 (by omega) (by unfold maxLen at hcm; omega) ?_
    intro j x hx
    have := hown.cells (g := g) rfl j (.int .u8 x.toNat) (by simp [Lib.byteCells, hx])
    exact this
  have mixed : Tryz.prog.follows .mixedOrders = true := by kernel_rfl
  have HBG := hid hbg
  clear hown hbk h htake hcs hcm hnc hg hbg
  go_enter Tryz.func18, Tryz.ntmps18
  go_wp2
  go_region_o
  all_goals (go_wp2; go_ret; exact ⟨rfl, Lib.below_freeze (Below.drew (Below.refl B w)) (p := ⟨g, 0, none⟩) HBG.out _⟩)
end Go.Proofs.YtkngjbpbjjoneaaGreatDoor.Q
/-! Printed by gen_fit.py. -/
namespace Go.Proofs.YtkngjbpbjjoneaaGreatDoor.Q
open Go.RowKit Go.Shelf
set_option maxRecDepth 20000
theorem kidsFit_any (x : Nd) (ad : Option Addr) (m c : Nat) (st : Nat → Int) (sh : Nat → Nat) (w : World) (hm : m ≤ 12001) (h8 : x.kind = 8 → 1 ≤ x.op ∧ x.op ≤ 12) (hcm : m ≤ c) (hc : c ≤ maxLen) (hs : StA w ad m st sh) (he : EnvB w) :
    Calls Tryz.prog 28 #[ndV x, .slice ad m c] w fun e w' => Says e (KidsOk x m st) ∧ Below w.heap.size w w' := by
  obtain ⟨k, op, ty, n, t, kids⟩ := x
  have h : KF k := by
    by_cases hk : k < 1 ∨ 24 < k
    · exact kf_E k hk
    · obtain rfl | rfl | rfl | rfl | rfl | rfl | rfl | rfl | rfl | rfl | rfl | rfl | rfl | rfl | rfl | rfl | rfl | rfl | rfl | rfl | rfl | rfl | rfl | rfl : k = 1 ∨ k = 2 ∨ k = 3 ∨ k = 4 ∨ k = 5 ∨ k = 6 ∨ k = 7 ∨ k = 8 ∨ k = 9 ∨ k = 10 ∨ k = 11 ∨ k = 12 ∨ k = 13 ∨ k = 14 ∨ k = 15 ∨ k = 16 ∨ k = 17 ∨ k = 18 ∨ k = 19 ∨ k = 20 ∨ k = 21 ∨ k = 22 ∨ k = 23 ∨ k = 24 := by omega
      · exact kf_1
      · exact kf_2
      · exact kf_3
      · exact kf_4
      · exact kf_5
      · exact kf_6
      · exact kf_7
      · exact kf_8
      · exact kf_9
      · exact kf_10
      · exact kf_11
      · exact kf_12
      · exact kf_13
      · exact kf_14
      · exact kf_15
      · exact kf_16
      · exact kf_17
      · exact kf_18
      · exact kf_19
      · exact kf_20
      · exact kf_21
      · exact kf_22
      · exact kf_23
      · exact kf_24
  exact h op ty n kids t ad m c st sh w hm h8 hcm hc hs he
end Go.Proofs.YtkngjbpbjjoneaaGreatDoor.Q
