import Derived.Test.YteeiblhjjeognaaGreatDoorJ24
import Derived.Test.YteeiblhjjeognaaGreatDoorJ19
/-! Copies. -/
namespace Go.Proofs.YteeiblhjjeognaaGreatDoor.R
open Go.RowKit
set_option maxRecDepth 20000
set_option maxHeartbeats 4000000 in
theorem toFn_any (x : C.Fn) {v0 v1 : Value} (w : World) (hx : LoFn x) (k0 : SIntA w v0 x.params) (k1 : SInA w v1 x.ins) :
    Calls Tryz.prog 39 #[.agg #[.string x.name, v0, .int .i64 x.result, .int .i64 x.slots, v1]] w fun e w' => ∃ u0 u1, e = .returned (.agg #[.string x.name, u0, .int .i64 x.result, .int .i64 x.slots, u1]) ∧ SIntR w.heap.size w' u0 x.params ∧ SInR w.heap.size w' u1 x.ins ∧ Below w.heap.size w w' := by
  have K0 := hid k0
  have K1 := hid k1
  obtain ⟨ad0, cp0, rfl⟩ := k0.sl
  obtain ⟨ad1, cp1, rfl⟩ := k1.sl
  clear k0 k1
  have HLO := hid hx
  clear hx
  have HX0 := hid (B3.start w (.cells #[.string x.name, .slice ad0 x.params.length cp0, .int .i64 x.result, .int .i64 x.slots, .slice ad1 x.ins.length cp1] 72) #[.string ⟨#[]⟩, .slice none 0 0, .int .i64 0, .int .i64 0, .slice none 0 0] #[.string ⟨#[]⟩, .slice none 0 0, .int .i64 0, .int .i64 0, .slice none 0 0] 47)
  obtain ⟨W0, hW0⟩ : ∃ W, ((w.alloc (.cells #[.string x.name, .slice ad0 x.params.length cp0, .int .i64 x.result, .int .i64 x.slots, .slice ad1 x.ins.length cp1] 72)).alloc (.cells #[.string ⟨#[]⟩, .slice none 0 0, .int .i64 0, .int .i64 0, .slice none 0 0] 47)).alloc (.cells #[.string ⟨#[]⟩, .slice none 0 0, .int .i64 0, .int .i64 0, .slice none 0 0] 47) = W := ⟨_, rfl⟩
  rw [hW0] at HX0
  have a0_0 : W0.cell? ⟨w.heap.size, 0, none⟩ = some (.string x.name) := row_cell HX0.out.e 0
  have a0_1 : W0.cell? ⟨w.heap.size, 1, none⟩ = some (.slice ad0 x.params.length cp0) := row_cell HX0.out.e 1
  have o0_0 : W0.cell? ⟨w.heap.size + 1 + 1, 0, none⟩ = some (.string ⟨#[]⟩) := row_cell HX0.out.o 0
  have z0_0 : W0.frozen? ⟨w.heap.size + 1 + 1, 0, none⟩ = false := (row_room HX0.out.o (i := 0) (by simp)).2
  go_enter Tryz.func39, Tryz.ntmps39
  go_wp2_with fail
  clear hW0
  have HY0 := hid (HX0.out.set 0 (.string x.name))
  obtain ⟨V0, hV0⟩ : ∃ V, (W0.setCell ⟨w.heap.size + 1 + 1, 0, none⟩ (.string x.name)) = V := ⟨_, rfl⟩
  rw [hV0] at HY0 ⊢
  clear hV0
  clear a0_0 a0_1 o0_0 z0_0 HX0
  refine (toSInt_any x.params V0 HLO.out.1 (K0.out.next HY0.out.lo)).mono ?_
  rintro e w1 ⟨u0, rfl, r0, hb0⟩
  have HRu0 := hid (r0.mono (B' := w.heap.size + 3) HY0.out.sz)
  obtain ⟨gu0, rfl⟩ := r0.sl
  clear r0
  have HX1 := hid (HY0.out.next hb0)
  clear hb0 HY0
  have a1_1 : w1.cell? ⟨w.heap.size, 1, none⟩ = some (.slice ad0 x.params.length cp0) := row_cell HX1.out.e 1
  have a1_2 : w1.cell? ⟨w.heap.size, 2, none⟩ = some (.int .i64 x.result) := row_cell HX1.out.e 2
  have a1_3 : w1.cell? ⟨w.heap.size, 3, none⟩ = some (.int .i64 x.slots) := row_cell HX1.out.e 3
  have a1_4 : w1.cell? ⟨w.heap.size, 4, none⟩ = some (.slice ad1 x.ins.length cp1) := row_cell HX1.out.e 4
  have o1_1 : w1.cell? ⟨w.heap.size + 1 + 1, 1, none⟩ = some (.slice none 0 0) := row_cell HX1.out.o 1
  have z1_1 : w1.frozen? ⟨w.heap.size + 1 + 1, 1, none⟩ = false := (row_room HX1.out.o (i := 1) (by simp)).2
  have o1_2 : w1.cell? ⟨w.heap.size + 1 + 1, 2, none⟩ = some (.int .i64 0) := row_cell HX1.out.o 2
  have z1_2 : w1.frozen? ⟨w.heap.size + 1 + 1, 2, none⟩ = false := (row_room HX1.out.o (i := 2) (by simp)).2
  have o1_3 : w1.cell? ⟨w.heap.size + 1 + 1, 3, none⟩ = some (.int .i64 0) := row_cell HX1.out.o 3
  have z1_3 : w1.frozen? ⟨w.heap.size + 1 + 1, 3, none⟩ = false := (row_room HX1.out.o (i := 3) (by simp)).2
  go_wp2_with fail
  have HY1 := hid (((HX1.out.set 1 (.slice (some ⟨gu0, 0, none⟩) x.params.length x.params.length)).set 2 (.int .i64 x.result)).set 3 (.int .i64 x.slots))
  have HRu0_1 := hid (((HRu0.out.set (b := w.heap.size + 1 + 1) (by omega) 1 (.slice (some ⟨gu0, 0, none⟩) x.params.length x.params.length)).set (b := w.heap.size + 1 + 1) (by omega) 2 (.int .i64 x.result)).set (b := w.heap.size + 1 + 1) (by omega) 3 (.int .i64 x.slots))
  obtain ⟨V1, hV1⟩ : ∃ V, (((w1.setCell ⟨w.heap.size + 1 + 1, 1, none⟩ (.slice (some ⟨gu0, 0, none⟩) x.params.length x.params.length)).setCell ⟨w.heap.size + 1 + 1, 2, none⟩ (.int .i64 x.result)).setCell ⟨w.heap.size + 1 + 1, 3, none⟩ (.int .i64 x.slots)) = V := ⟨_, rfl⟩
  rw [hV1] at HY1 HRu0_1 ⊢
  clear hV1
  clear a1_1 a1_2 a1_3 a1_4 o1_1 z1_1 o1_2 z1_2 o1_3 z1_3 HX1 HRu0
  refine (toSIn_any x.ins V1 HLO.out.2 (K1.out.next HY1.out.lo)).mono ?_
  rintro e w2 ⟨u1, rfl, r1, hb1⟩
  have HRu1 := hid (r1.mono (B' := w.heap.size + 3) HY1.out.sz)
  obtain ⟨gu1, rfl⟩ := r1.sl
  clear r1
  have HX2 := hid (HY1.out.next hb1)
  have HRu0 := hid (HRu0_1.out.next hb1)
  clear HRu0_1
  clear hb1 HY1
  have o2_0 : w2.cell? ⟨w.heap.size + 1 + 1, 0, none⟩ = some (.string x.name) := row_cell HX2.out.o 0
  have y2_0 : w2.cell? ⟨w.heap.size + 1, 0, none⟩ = some (.string ⟨#[]⟩) := row_cell HX2.out.r 0
  have f2_0 : w2.frozen? ⟨w.heap.size + 1, 0, none⟩ = false := (row_room HX2.out.r (i := 0) (by simp)).2
  have o2_1 : w2.cell? ⟨w.heap.size + 1 + 1, 1, none⟩ = some (.slice (some ⟨gu0, 0, none⟩) x.params.length x.params.length) := row_cell HX2.out.o 1
  have y2_1 : w2.cell? ⟨w.heap.size + 1, 1, none⟩ = some (.slice none 0 0) := row_cell HX2.out.r 1
  have f2_1 : w2.frozen? ⟨w.heap.size + 1, 1, none⟩ = false := (row_room HX2.out.r (i := 1) (by simp)).2
  have o2_2 : w2.cell? ⟨w.heap.size + 1 + 1, 2, none⟩ = some (.int .i64 x.result) := row_cell HX2.out.o 2
  have y2_2 : w2.cell? ⟨w.heap.size + 1, 2, none⟩ = some (.int .i64 0) := row_cell HX2.out.r 2
  have f2_2 : w2.frozen? ⟨w.heap.size + 1, 2, none⟩ = false := (row_room HX2.out.r (i := 2) (by simp)).2
  have o2_3 : w2.cell? ⟨w.heap.size + 1 + 1, 3, none⟩ = some (.int .i64 x.slots) := row_cell HX2.out.o 3
  have y2_3 : w2.cell? ⟨w.heap.size + 1, 3, none⟩ = some (.int .i64 0) := row_cell HX2.out.r 3
  have f2_3 : w2.frozen? ⟨w.heap.size + 1, 3, none⟩ = false := (row_room HX2.out.r (i := 3) (by simp)).2
  have o2_4 : w2.cell? ⟨w.heap.size + 1 + 1, 4, none⟩ = some (.slice none 0 0) := row_cell HX2.out.o 4
  have y2_4 : w2.cell? ⟨w.heap.size + 1, 4, none⟩ = some (.slice none 0 0) := row_cell HX2.out.r 4
  have f2_4 : w2.frozen? ⟨w.heap.size + 1, 4, none⟩ = false := (row_room HX2.out.r (i := 4) (by simp)).2
  have z2_4 : w2.frozen? ⟨w.heap.size + 1 + 1, 4, none⟩ = false := (row_room HX2.out.o (i := 4) (by simp)).2
  go_wp2
  refine bodyPost_ret (v := .agg #[.string x.name, .slice (some ⟨gu0, 0, none⟩) x.params.length x.params.length, .int .i64 x.result, .int .i64 x.slots, .slice (some ⟨gu1, 0, none⟩) x.ins.length x.ins.length]) (by simp [results, Tryz.results39, go_sem, y2_0, y2_1, y2_2, y2_3, y2_4]) rfl ⟨_, _, rfl, ?_, ?_, ?_⟩
  · exact ((((((HRu0.out.set (by omega) _ _).set (by omega) _ _).set (by omega) _ _).set (by omega) _ _).set (by omega) _ _).set (by omega) _ _).mono (by omega)
  · exact ((((((HRu1.out.set (by omega) _ _).set (by omega) _ _).set (by omega) _ _).set (by omega) _ _).set (by omega) _ _).set (by omega) _ _).mono (by omega)
  · exact (below_set (below_set (below_set (below_set (below_set (below_set HX2.out.lo _ _ (by omega) _) _ _ (by omega) _) _ _ (by omega) _) _ _ (by omega) _) _ _ (by omega) _) _ _ (by omega) _)
theorem info_Fn : (Tryz.prog.info? 47).map (fun i => (i.zero, i.size, i.bytes)) = some (some (.agg #[.string ⟨#[]⟩, .slice none 0 0, .int .i64 0, .int .i64 0, .slice none 0 0]), 5, 80) := by kernel_rfl
set_option maxHeartbeats 4000000 in
theorem toSFn_any (l : List C.Fn) {v : Value} (w : World) (hx : LoFnS l) (k0 : SFnA w v l) :
    Calls Tryz.prog 20 #[v] w fun e w' => ∃ u, e = .returned u ∧ SFnR w.heap.size w' u l ∧ Below w.heap.size w w' := by
  have HK := hid k0
  have HX := hid hx
  have hN : l.length ≤ 1048576 := hx.1
  obtain ⟨ad, cap, rfl⟩ := k0.sl
  clear hx k0
  obtain ⟨i0, hi, hz0, hz1, hz2⟩ := info_parts info_Fn
  have HHI := hid (And.intro hi (And.intro hz0 (And.intro hz1 hz2)))
  clear hi hz0 hz1
  go_enter Tryz.func20, Tryz.ntmps20
  go_wp2_with (at_make; refine wpList_make_full _ rfl _ _ 28 rfl w.heap.size 47 i0 (.agg #[.string ⟨#[]⟩, .slice none 0 0, .int .i64 0, .int .i64 0, .slice none 0 0]) 5 Tryz.underlying28 HHI.out.1 HHI.out.2.1 HHI.out.2.2.1 _ _ _ _ l.length rfl rfl rfl rfl (by rw [hz2]; omega) (by unfold maxLen; omega) (Nat.le_refl _) ?_; intro w1 o1 g1)
  have HF0 : Hid (SFnF w.heap.size w1 l 0) := by
    obtain ⟨h1, ⟨h2, _⟩ | ⟨g, c, cur, e, _, h4, _, _, h7, _⟩⟩ := o1
    · cases h2
    · cases e
      exact ⟨cur, h4, h7, fun i h => absurd h (Nat.not_lt_zero _)⟩
  have HB0 := hid ((Below.refl w.heap.size w).grown g1 (Nat.le_refl _) (fun q e => by cases e))
  clear o1 g1
  go_loopw [4] (fun i wr => ∃ j : Nat, j ≤ l.length ∧ i = .int .i64 j ∧ SFnF w.heap.size wr l j ∧ Below w.heap.size w wr) (fun i _ => l.length - (intOf i).toNat)
  case atStart => exact ⟨0, Nat.zero_le _, rfl, HF0.out, HB0.out⟩
  case round =>
    obtain ⟨j, hj, rfl, hfi, hbw⟩ := hrel
    have HFI := hid hfi
    have HBW := hid hbw
    have hgl := hfi.lt
    clear hfi hbw
    by_cases hlt : j < l.length
    · obtain ⟨a, c, e9, hal, v0, v1, ⟨c0, c1, c2, c3, c4⟩, t0, t1⟩ := (HK.out.next HBW.out).at hlt
      injection e9 with ea en ec
      clear en
      subst ea ec
      have HLE := hid (HX.out.2 j hlt)
      obtain ⟨x, hx⟩ : ∃ x, l.getD j C.fn0 = x := ⟨_, rfl⟩
      have HXE := hid hx
      rw [hx] at HLE c0 c2 c3 t0 t1
      clear hx
      have HT0 := hid t0
      obtain ⟨ae0, ce0, rfl⟩ := t0.sl
      clear t0
      have HT1 := hid t1
      obtain ⟨ae1, ce1, rfl⟩ := t1.sl
      clear t1
      go_wp2_with fail
      refine (toFn_any x _ HLE.out HT0.out HT1.out).mono ?_
      rintro e w2 ⟨u0, u1, rfl, s0, s1, hb2⟩
      have HF2 := hid (HFI.out.keep fun i hi hl => hb2.block i hl)
      have HFX := hid (HF2.out.step hlt (by rw [HXE.out]; exact s0.mono (by omega)) (by rw [HXE.out]; exact s1.mono (by omega)))
      rw [HXE.out] at HFX
      obtain ⟨gq0, rfl⟩ := s0.sl
      clear s0
      obtain ⟨gq1, rfl⟩ := s1.sl
      clear s1
      obtain ⟨⟨w_0, x0⟩, y0⟩ := HF2.out.room (i := j * 5) (by omega)
      obtain ⟨⟨w_1, x1⟩, y1⟩ := HF2.out.room (i := j * 5 + 1) (by omega)
      obtain ⟨⟨w_2, x2⟩, y2⟩ := HF2.out.room (i := j * 5 + 2) (by omega)
      obtain ⟨⟨w_3, x3⟩, y3⟩ := HF2.out.room (i := j * 5 + 3) (by omega)
      obtain ⟨⟨w_4, x4⟩, y4⟩ := HF2.out.room (i := j * 5 + 4) (by omega)
      have HBX := hid (HBW.out.trans (hb2.mono HBW.out.size))
      clear hb2 c0 c1 c2 c3 c4
      go_wp2
      go_roundw
      case rel => exact ⟨j + 1, by omega, by go_num, HFX.out, (below_set (below_set (below_set (below_set (below_set HBX.out _ _ (Nat.le_refl _) _) _ _ (Nat.le_refl _) _) _ _ (Nat.le_refl _) _) _ _ (Nat.le_refl _) _) _ _ (Nat.le_refl _) _)⟩
      case measure => simp [intOf]; omega
    · obtain rfl : j = l.length := by omega
      go_wp2
      go_ret
      exact ⟨_, rfl, ⟨w.heap.size, rfl, Nat.le_refl _, HFI.out⟩, HBW.out⟩
end Go.Proofs.YteeiblhjjeognaaGreatDoor.R
/-! Sameness. -/
namespace Go.Proofs.YteeiblhjjeognaaGreatDoor.R
open Go.RowKit
set_option maxRecDepth 20000
set_option maxHeartbeats 4000000 in
theorem eqCd_same (x : Cd) {u0 v0 : Value} {B : Nat} (w : World) (hx : LoCd x) (k0 : SFnR B w u0 x.fns) (l0 : SFnR B w v0 x.fns) :
    Calls Tryz.prog 9 #[.agg #[u0], .agg #[v0]] w fun e w' => e = .returned (.bool true) ∧ Below w.heap.size w w' := by
  have K0 := hid (And.intro k0 l0)
  obtain ⟨gu0, rfl⟩ := k0.sl
  obtain ⟨gv0, rfl⟩ := l0.sl
  clear k0 l0
  have HLO := hid hx
  clear hx
  have HB0 := hid (B2.start w (.cells #[.slice (some ⟨gu0, 0, none⟩) x.fns.length x.fns.length] 30) (.cells #[.slice (some ⟨gv0, 0, none⟩) x.fns.length x.fns.length] 30))
  go_enter Tryz.func9, Tryz.ntmps9
  go_wp2_with fail
  refine (eqSFn_same x.fns _ HLO.out (K0.out.1.next HB0.out.lo) (K0.out.2.next HB0.out.lo)).mono ?_
  rintro e w1 ⟨rfl, hb0⟩
  have HB1 := hid (HB0.out.next hb0)
  clear hb0
  go_wp2
  go_ret
  exact ⟨rfl, HB1.out.lo⟩
end Go.Proofs.YteeiblhjjeognaaGreatDoor.R
/-! Where a place goes on, in the program. -/
namespace Go.Proofs.YteeiblhjjeognaaGreatDoor.C
open Go.RowKit
set_option maxRecDepth 20000
/-- Where it goes on, in a row that is new. -/
def AftEnd (i : In) (p : Nat) (w : World) (e : Ending) (w' : World) : Prop := ∃ v, e = .returned v ∧ IntRow w' v (nums (goes i p)) ∧ Below w.heap.size w w' ∧ (nums (goes i p) = [] ∨ ∃ g c, v = .slice (some ⟨g, 0, none⟩) (nums (goes i p)).length c ∧ w.heap.size ≤ g)
theorem after_lit {i : In} {p : Nat} {w W : World} (lo : Below w.heap.size w W) (l : List Int) (hl : l.length ≤ 2) (h : nums (goes i p) = l) : AftEnd i p w (.returned (.slice (some ⟨W.heap.size, 0, none⟩) l.length l.length)) (W.alloc (.cells (l.map fun x => Value.int .i64 x).toArray 3)) := by
  refine ⟨_, rfl, ?_, ?_, ?_⟩
  · rw [h]
    exact IntRow.lit _ l (by omega)
  · exact lo.alloc lo.size _
  · rw [h]
    exact .inr ⟨_, _, rfl, lo.size⟩
set_option maxHeartbeats 2000000 in
theorem after_fresh {fns : List Fn} {f : Fn} {b : Nat} {cv pv iv xv wv : Value} {w : World} (hM : MS fns f b cv pv iv xv wv w) {p : Nat} (hp : p < f.ins.length) (hp2 : p ≤ 100000) (hR : InsR fns f (f.ins.getD p in0)) :
    Calls Tryz.prog 90 #[.pointer (some ⟨b, 0, none⟩), .int .i64 p] w (AftEnd (f.ins.getD p in0) p w) := by
  obtain ⟨m0, m1, m2, m3, m4, m5, m6, m7⟩ := mx hM
  obtain ⟨gI, cI, rfl, hgI, hcI⟩ := hM.ir.at hp
  obtain ⟨d0, d1, d2, d3⟩ := hcI p hp
  obtain ⟨i, hi⟩ : ∃ i, f.ins.getD p in0 = i := ⟨_, rfl⟩
  rw [hi] at d0 d1 d2 d3 hR ⊢
  have hop := hR.op
  have ha := hR.place
  have hpi : (p : Int) < (f.ins.length : Int) := by omega
  have hw : IntKind.i64.wrap ((p : Int) + 1) = ((p + 1 : Nat) : Int) := by rw [IntKind.wrap_i64]; omega
  have HLO : Hid (Below w.heap.size w (w.alloc (ibox i))) := hid ((Below.refl _ _).alloc (Nat.le_refl _) _)
  obtain ⟨j0, j1, j2, j3⟩ := ix (ibox_new w i)
  clear hM hcI hR hi
  go_enter Tryz.func90, Tryz.ntmps90
  go_upto_region 2 with fail
  obtain ⟨W1, hW1⟩ : ∃ W, w.alloc (ibox i) = W := ⟨_, rfl⟩
  rw [hW1] at HLO j0 j1 j2 j3
  unfold ibox at hW1
  rw [hW1]
  clear hW1 d0 d1 d2 d3 m0 m1 m2 m3 m4 m5 m6 m7
  by_cases h12 : i.op = 12 ∨ i.op = 13
  · have HG : Hid (nums (goes i p) = []) := hid (by simp [goes, nums, h12])
    rcases h12 with h | h
    all_goals
      rw [h] at j0
      clear h hop ha
      go_wp2_with fail
      go_ret
      exact ⟨_, rfl, by rw [HG.out]; exact IntRow.nil _, HLO.out, .inl HG.out⟩
  · have e12 : (i.op == 12) = false := by simp; omega
    have e13 : (i.op == 13) = false := by simp; omega
    by_cases h10 : i.op = 10
    · obtain ⟨m, hm⟩ : ∃ m : Nat, i.a = m := ⟨i.a.toNat, by have := ha (.inl h10); omega⟩
      have HG : Hid (nums (goes i p) = [(m : Int)]) := hid (by simp [goes, nums, h10, hm])
      rw [h10] at j0
      rw [hm] at j1
      clear h12 h10 hop ha hm
      go_wp2_with fail
      go_ret
      have := after_lit HLO.out [(m : Int)] (by simp) HG.out
      simpa using this
    · have e10 : (i.op == 10) = false := by simpa using h10
      by_cases h11 : i.op = 11
      · obtain ⟨m, hm⟩ : ∃ m : Nat, i.a = m := ⟨i.a.toNat, by have := ha (.inr h11); omega⟩
        have HG : Hid (nums (goes i p) = [(m : Int), ((p + 1 : Nat) : Int)]) := hid (by simp [goes, nums, h11, hm])
        rw [h11] at j0
        rw [hm] at j1
        clear h12 h10 h11 hop ha hm
        go_wp2_with fail
        go_ret
        have := after_lit HLO.out [(m : Int), ((p + 1 : Nat) : Int)] (by simp) HG.out
        simpa using this
      · have e11 : (i.op == 11) = false := by simpa using h11
        have HG : Hid (nums (goes i p) = [((p + 1 : Nat) : Int)]) := hid (by simp [goes, nums, h12, h10, h11])
        clear h12 h10 h11 hop ha
        go_wp2_with fail
        go_ret
        have := after_lit HLO.out [((p + 1 : Nat) : Int)] (by simp) HG.out
        simpa using this
theorem after_any {fns : List Fn} {f : Fn} {b : Nat} {cv pv iv xv wv : Value} {w : World} (hM : MS fns f b cv pv iv xv wv w) {p : Nat} (hp : p < f.ins.length) (hp2 : p ≤ 100000) (hR : InsR fns f (f.ins.getD p in0)) :
    Calls Tryz.prog 90 #[.pointer (some ⟨b, 0, none⟩), .int .i64 p] w (GoesEnd (f.ins.getD p in0) p w) := by
  refine (after_fresh hM hp hp2 hR).mono ?_
  rintro e w' ⟨v, h1, h2, h3, _⟩
  exact ⟨v, h1, h2, h3⟩
end Go.Proofs.YteeiblhjjeognaaGreatDoor.C
