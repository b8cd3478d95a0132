import Derived.OwnWalk
import Derived.Test.YtcjgcipacfcjnaaGreatDoorJ04
namespace Go.Proofs.YtcjgcipacfcjnaaGreatDoor.C
open Go.RowKit
set_option maxRecDepth 20000
set_option maxHeartbeats 1000000 in
theorem gives_16 (fns : List Fn) (f : Fn) (a : Int) (n : Int) (tx : ByteArray) (sl sk : List Int) (w : World) (cv pv iv av bv : Value) (h1 : FnsRow w cv fns) (h2 : IntRow w pv f.params) (h3 : InsRow w iv f.ins) (h4 : IntRow w av sl) (h5 : IntRow w bv sk) (hn : sk.length ≤ 1000) :
  Calls Tryz.prog 91 #[.agg #[cv], .agg #[.string f.name, pv, .int .i64 f.result, .int .i64 f.slots, iv], .agg #[.int .i64 16, .int .i64 a, .int .i64 n, .string tx], .agg #[.int .i64 1, av, bv]] w (GvEnd fns f ⟨16, a, n, tx⟩ sl sk w) := by
 obtain ⟨adA, cA, rfl⟩ := h4.sl
 obtain ⟨adB, cB, rfl⟩ := h5.sl
 have HX := hid (boxes (i := ⟨16, a, n, tx⟩) h1 h2 h3 h4 h5)
 have HTK : Hid (takesN fns ⟨16, a, n, tx⟩ = 0) := hid (by simp [takesN])
 have HEF : Hid (∀ tk, eff fns f ⟨16, a, n, tx⟩ sl tk = some []) := hid (by intro tk; simp [eff])
 clear h1 h2 h3 h4 h5
 go_enter Tryz.func91, Tryz.ntmps91
 go_upto_region 1 with fail
 obtain ⟨W, hW⟩ : ∃ W, ((((w.alloc (.cells #[cv] 29)).alloc (.cells #[.string f.name, pv, .int .i64 f.result, .int .i64 f.slots, iv] 57)).alloc (.cells #[.int .i64 16, .int .i64 a, .int .i64 n, .string tx] 84)).alloc (.cells #[.int .i64 1, .slice adA sl.length cA, .slice adB sk.length cB] 125)) = W := ⟨_, rfl⟩
 have HX2 : Hid _ := hid (hW ▸ HX.out)
 rw [hW]
 clear hW HX
 have x0 := HX2.out.i0
 have x1 := HX2.out.i1
 have y1 := HX2.out.s1
 have y2 := HX2.out.s2
 go_upto_if 26 with fail
 go_cut [12] (fun v wx => v = .int .i64 (tp sk) ∧ wx = W)
 case first =>
  by_cases hp : 0 < sk.length
  ·obtain ⟨g, c, e9, _, _, _, hc⟩ := HX2.out.sk_.at hp
   injection e9 with ea _ ec
   subst ea ec
   have hpi : (0 : Int) < (sk.length : Int) := by omega
   have hwr : IntKind.i64.wrap ((sk.length : Int) - 1) = ((sk.length - 1 : Nat) : Int) := by rw [IntKind.wrap_i64]; omega
   have hlt : ((sk.length - 1 : Nat) : Int) < (sk.length : Int) := by omega
   have hct := hc (sk.length - 1) (by omega)
   rw [tp_at hp] at hct
   clear hc
   go_wp2_with fail
   go_meet
   case rel => exact ⟨rfl, rfl⟩
  ·have hpi : ¬ (0 : Int) < (sk.length : Int) := by omega
   have HT := hid (tp_none hp)
   clear hp
   go_wp2_with fail
   go_meet
   case rel => exact ⟨by rw [HT.out], rfl⟩
 case rest =>
  obtain ⟨rfl, rfl⟩ := hcut
  go_upto_if 34 with fail
  go_cut [13] (fun v wx => v = .int .i64 (bw sk) ∧ wx = wc)
  case first =>
   by_cases hp : 1 < sk.length
   ·obtain ⟨g, c, e9, _, _, _, hc⟩ := HX2.out.sk_.at (i := 0) (by omega)
    injection e9 with ea _ ec
    subst ea ec
    have hpi : (1 : Int) < (sk.length : Int) := by omega
    have hwr : IntKind.i64.wrap ((sk.length : Int) - 2) = ((sk.length - 2 : Nat) : Int) := by rw [IntKind.wrap_i64]; omega
    have hlt : ((sk.length - 2 : Nat) : Int) < (sk.length : Int) := by omega
    have hct := hc (sk.length - 2) (by omega)
    rw [bw_at hp] at hct
    clear hc
    go_wp2_with fail
    go_meet
    case rel => exact ⟨rfl, rfl⟩
   ·have hpi : ¬ (1 : Int) < (sk.length : Int) := by omega
    have HT := hid (bw_none hp)
    clear hp
    go_wp2_with fail
    go_meet
    case rel => exact ⟨by rw [HT.out], rfl⟩
  case rest =>
   obtain ⟨rfl, hwc⟩ := hcut
   subst hwc
   go_wp2
   go_ret3
   exact gv_ok (k := 0) (by first | exact HX2.out.lo.alloc HX2.out.lo.size _ | exact (HX2.out.lo.alloc HX2.out.lo.size _).drew) (by decide) HTK.out.symm (by omega) (HEF.out _) (by first | exact row0 _ | exact (row0 _).next (Below.refl _ _).drew)
set_option maxHeartbeats 1000000 in
theorem gives_2 (fns : List Fn) (f : Fn) (m : Nat) (n : Int) (tx : ByteArray) (sl sk : List Int) (w : World) (cv pv iv av bv : Value) (h1 : FnsRow w cv fns) (h2 : IntRow w pv f.params) (h3 : InsRow w iv f.ins) (h4 : IntRow w av sl) (h5 : IntRow w bv sk) (hn : sk.length ≤ 1000) (hmn : m < sl.length) (hm : (m : Int) < (sl.length : Int)) :
  Calls Tryz.prog 91 #[.agg #[cv], .agg #[.string f.name, pv, .int .i64 f.result, .int .i64 f.slots, iv], .agg #[.int .i64 2, .int .i64 (m : Int), .int .i64 n, .string tx], .agg #[.int .i64 1, av, bv]] w (GvEnd fns f ⟨2, (m : Int), n, tx⟩ sl sk w) := by
 obtain ⟨adA, cA, rfl⟩ := h4.sl
 obtain ⟨adB, cB, rfl⟩ := h5.sl
 have HX := hid (boxes (i := ⟨2, (m : Int), n, tx⟩) h1 h2 h3 h4 h5)
 have HTK : Hid (takesN fns ⟨2, (m : Int), n, tx⟩ = 0) := hid (by simp [takesN])
 have HEF : Hid (∀ tk, eff fns f ⟨2, (m : Int), n, tx⟩ sl tk = opt (sl.getD m 0)) := hid (by intro tk; simp [eff])
 clear h1 h2 h3 h4 h5
 go_enter Tryz.func91, Tryz.ntmps91
 go_upto_region 1 with fail
 obtain ⟨W, hW⟩ : ∃ W, ((((w.alloc (.cells #[cv] 29)).alloc (.cells #[.string f.name, pv, .int .i64 f.result, .int .i64 f.slots, iv] 57)).alloc (.cells #[.int .i64 2, .int .i64 (m : Int), .int .i64 n, .string tx] 84)).alloc (.cells #[.int .i64 1, .slice adA sl.length cA, .slice adB sk.length cB] 125)) = W := ⟨_, rfl⟩
 have HX2 : Hid _ := hid (hW ▸ HX.out)
 rw [hW]
 clear hW HX
 have x0 := HX2.out.i0
 have x1 := HX2.out.i1
 have y1 := HX2.out.s1
 have y2 := HX2.out.s2
 go_upto_if 26 with fail
 go_cut [12] (fun v wx => v = .int .i64 (tp sk) ∧ wx = W)
 case first =>
  by_cases hp : 0 < sk.length
  ·obtain ⟨g, c, e9, _, _, _, hc⟩ := HX2.out.sk_.at hp
   injection e9 with ea _ ec
   subst ea ec
   have hpi : (0 : Int) < (sk.length : Int) := by omega
   have hwr : IntKind.i64.wrap ((sk.length : Int) - 1) = ((sk.length - 1 : Nat) : Int) := by rw [IntKind.wrap_i64]; omega
   have hlt : ((sk.length - 1 : Nat) : Int) < (sk.length : Int) := by omega
   have hct := hc (sk.length - 1) (by omega)
   rw [tp_at hp] at hct
   clear hc
   go_wp2_with fail
   go_meet
   case rel => exact ⟨rfl, rfl⟩
  ·have hpi : ¬ (0 : Int) < (sk.length : Int) := by omega
   have HT := hid (tp_none hp)
   clear hp
   go_wp2_with fail
   go_meet
   case rel => exact ⟨by rw [HT.out], rfl⟩
 case rest =>
  obtain ⟨rfl, rfl⟩ := hcut
  go_upto_if 34 with fail
  go_cut [13] (fun v wx => v = .int .i64 (bw sk) ∧ wx = wc)
  case first =>
   by_cases hp : 1 < sk.length
   ·obtain ⟨g, c, e9, _, _, _, hc⟩ := HX2.out.sk_.at (i := 0) (by omega)
    injection e9 with ea _ ec
    subst ea ec
    have hpi : (1 : Int) < (sk.length : Int) := by omega
    have hwr : IntKind.i64.wrap ((sk.length : Int) - 2) = ((sk.length - 2 : Nat) : Int) := by rw [IntKind.wrap_i64]; omega
    have hlt : ((sk.length - 2 : Nat) : Int) < (sk.length : Int) := by omega
    have hct := hc (sk.length - 2) (by omega)
    rw [bw_at hp] at hct
    clear hc
    go_wp2_with fail
    go_meet
    case rel => exact ⟨rfl, rfl⟩
   ·have hpi : ¬ (1 : Int) < (sk.length : Int) := by omega
    have HT := hid (bw_none hp)
    clear hp
    go_wp2_with fail
    go_meet
    case rel => exact ⟨by rw [HT.out], rfl⟩
  case rest =>
   obtain ⟨rfl, hwc⟩ := hcut
   subst hwc
   obtain ⟨g, c, e9, _, _, hg, hc⟩ := HX2.out.sl_.at (i := m) (by omega)
   injection e9 with ea _ ec
   subst ea ec
   have hcm := hc m (by omega)
   obtain ⟨x, hx⟩ : ∃ x, sl.getD m 0 = x := ⟨_, rfl⟩
   have HE2 : Hid (∀ tk, eff fns f ⟨2, (m : Int), n, tx⟩ sl tk = opt x) := hid (fun tk => by rw [HEF.out, hx])
   rw [hx] at hcm
   have HB := hid ((Below.refl wc.heap.size wc).alloc (Nat.le_refl _) (.cells #[.int .i64 x] 3))
   have x1a := (HX2.out.next HB.out).i1
   have y1a := (HX2.out.next HB.out).s1
   have hcma := (HB.out.cell (p := ⟨g, m, none⟩) hg).trans hcm
   clear hc hx HEF
   by_cases hx0 : x = 0
   ·subst hx0
    go_wp2_with fail
    go_region
    all_goals
     go_wp2
     go_ret3
     exact gv_bad (k := 0) (by first | exact HX2.out.lo.alloc HX2.out.lo.size _ | exact (HX2.out.lo.alloc HX2.out.lo.size _).drew) (by decide) (.inl rfl) (fun _ => HE2.out _)
   ·have hxf : (x != 0) = true := by simpa using hx0
    go_wp2_with fail
    go_region
    all_goals
     go_wp2
     go_ret3
     exact gv_ok (k := 0) (by first | exact HX2.out.lo.alloc HX2.out.lo.size _ | exact (HX2.out.lo.alloc HX2.out.lo.size _).drew) (by decide) HTK.out.symm (by omega) ((HE2.out _).trans (if_neg hx0)) (by first | exact row1 _ _ | exact (row1 _ _).next (Below.refl _ _).drew)
def nums (l : List Nat) : List Int := l.map fun (x : Nat) => (x : Int)
def GoesEnd (i : In) (p : Nat) (w : World) (e : Ending) (w' : World) : Prop := ∃ v, e = .returned v ∧ IntRow w' v (nums (goes i p)) ∧ Below w.heap.size w w'
theorem goes_lit {i : In} {p : Nat} {w : World} {o : Obj} (l : List Int) (hl : l.length ≤ 2) (h : nums (goes i p) = l) : GoesEnd i p w (.returned (.slice (some ⟨(w.alloc o).heap.size, 0, none⟩) l.length l.length)) ((w.alloc o).alloc (.cells (l.map fun x => Value.int .i64 x).toArray 3)) := by
 refine ⟨_, rfl, ?_, ?_⟩
 ·rw [h]
  exact IntRow.lit _ l (by omega)
 ·exact ((Below.refl _ _).alloc (Nat.le_refl _) _).alloc (by simp) _
set_option maxHeartbeats 1000000 in
theorem goes_any (i : In) (p : Nat) (w : World) (hp : p ≤ 100000) (hop : 1 ≤ i.op ∧ i.op ≤ 16) (ha : i.op = 10 ∨ i.op = 11 → 0 ≤ i.a) :
  Calls Tryz.prog 89 #[inV i, .int .i64 p] w (GoesEnd i p w) := by
 obtain ⟨op, a, n, tx⟩ := i
 unfold inV
 dsimp only at hop ha ⊢
 have hw : IntKind.i64.wrap ((p : Int) + 1) = ((p + 1 : Nat) : Int) := by rw [IntKind.wrap_i64]; omega
 have hsz : ∀ o : Obj, (w.alloc o).heap.size = w.heap.size + 1 := fun o => by simp
 by_cases h12 : op = 12 ∨ op = 13
 ·have HG : Hid (nums (goes ⟨op, a, n, tx⟩ p) = []) := hid (by simp [goes, nums, h12])
  rcases h12 with rfl | rfl
  ·clear hop ha
   go_enter Tryz.func89, Tryz.ntmps89
   go_wp2
   go_ret
   have := goes_lit (w := w) (o := .cells #[.int .i64 12, .int .i64 a, .int .i64 n, .string tx] 84) [] (by simp) HG.out
   simpa using this
  ·clear hop ha
   go_enter Tryz.func89, Tryz.ntmps89
   go_wp2
   go_ret
   have := goes_lit (w := w) (o := .cells #[.int .i64 13, .int .i64 a, .int .i64 n, .string tx] 84) [] (by simp) HG.out
   simpa using this
 ·by_cases h10 : op = 10
  ·subst h10
   obtain ⟨m, rfl⟩ : ∃ m : Nat, a = m := ⟨a.toNat, by have := ha (.inl rfl); omega⟩
   have HG : Hid (nums (goes ⟨10, (m : Int), n, tx⟩ p) = [(m : Int)]) := hid (by simp [goes, nums])
   clear hop ha h12
   go_enter Tryz.func89, Tryz.ntmps89
   go_wp2
   go_ret
   have := goes_lit (w := w) (o := .cells #[.int .i64 10, .int .i64 m, .int .i64 n, .string tx] 84) [(m : Int)] (by simp) HG.out
   simpa using this
  ·by_cases h11 : op = 11
   ·subst h11
    obtain ⟨m, rfl⟩ : ∃ m : Nat, a = m := ⟨a.toNat, by have := ha (.inr rfl); omega⟩
    have HG : Hid (nums (goes ⟨11, (m : Int), n, tx⟩ p) = [(m : Int), ((p + 1 : Nat) : Int)]) := hid (by simp [goes, nums])
    clear hop ha h12 h10
    go_enter Tryz.func89, Tryz.ntmps89
    go_wp2
    go_ret
    have := goes_lit (w := w) (o := .cells #[.int .i64 11, .int .i64 m, .int .i64 n, .string tx] 84) [(m : Int), ((p + 1 : Nat) : Int)] (by simp) HG.out
    simpa using this
   ·have HG : Hid (nums (goes ⟨op, a, n, tx⟩ p) = [((p + 1 : Nat) : Int)]) := hid (by simp [goes, nums, h12, h10, h11])
    have e10 : (op == 10) = false := by simpa using h10
    have e11 : (op == 11) = false := by simpa using h11
    have e12 : (op == 12) = false := by simp; omega
    have e13 : (op == 13) = false := by simp; omega
    clear hop ha h12 h10 h11
    go_enter Tryz.func89, Tryz.ntmps89
    go_wp2
    go_ret
    have := goes_lit (w := w) (o := .cells #[.int .i64 op, .int .i64 a, .int .i64 n, .string tx] 84) [((p + 1 : Nat) : Int)] (by simp) HG.out
    simpa using this
set_option maxHeartbeats 1000000 in
theorem same_any {w : World} {a b : Value} {la lb : List Int} (ha : IntRow w a la) (hb : IntRow w b lb) (hl : la.length ≤ 1000) :
  Calls Tryz.prog 110 #[a, b] w fun e w' => e = .returned (.bool (decide (la = lb))) ∧ Below w.heap.size w w' := by
 have HA := hid ha
 have HB := hid hb
 obtain ⟨adA, cA, rfl⟩ := ha.sl
 obtain ⟨adB, cB, rfl⟩ := hb.sl
 clear ha hb
 go_enter Tryz.func110, Tryz.ntmps110
 by_cases hle : la.length = lb.length
 ·have hlf : ((la.length : Int) != (lb.length : Int)) = false := by simp; omega
  have hle1 : la.length ≤ lb.length := by omega
  have hle2 : lb.length ≤ la.length := by omega
  clear hle
  go_wp2_with fail
  go_loopw [5] (fun a wr => ∃ j : Nat, j ≤ la.length ∧ a = .int .i64 j ∧ Below w.heap.size w wr ∧ ∀ i, i < j → la.getD i 0 = lb.getD i 0) (fun a _ => la.length - (intOf a).toNat)
  case atStart => exact ⟨0, Nat.zero_le _, rfl, Below.refl _ _, fun i hi => absurd hi (Nat.not_lt_zero _)⟩
  case round =>
   obtain ⟨j, hj, rfl, hbr, hsame⟩ := hrel
   have HBR := hid hbr
   have HSM := hid hsame
   clear hbr hsame
   by_cases hlt : j < la.length
   ·have hlti : (j : Int) < (la.length : Int) := by omega
    have hltb : (j : Int) < (lb.length : Int) := by omega
    have hltn : j < lb.length := by omega
    obtain ⟨gA, cA2, e9, _, _, _, hcA⟩ := (HA.out.next HBR.out).at hlt
    injection e9 with ea _ ec
    subst ea ec
    obtain ⟨gB, cB2, e9, _, _, _, hcB⟩ := (HB.out.next HBR.out).at hltn
    injection e9 with ea _ ec
    subst ea ec
    have kA := hcA j hlt
    have kB := hcB j hltn
    obtain ⟨x, hx⟩ : ∃ x, la.getD j 0 = x := ⟨_, rfl⟩
    obtain ⟨y, hy⟩ : ∃ y, lb.getD j 0 = y := ⟨_, rfl⟩
    rw [hx] at kA
    rw [hy] at kB
    have HXX := hid hx
    have HYY := hid hy
    clear hx hy hcA hcB
    by_cases hxy : x = y
    ·subst hxy
     have hxf : (x != x) = false := by simp
     go_wp2_with fail
     go_quiet (fail)
     go_wp2
     go_roundw
     case rel =>
      refine ⟨j + 1, by omega, by go_num, below_drewN HBR.out _, fun i hi => ?_⟩
      by_cases e : i = j
      ·subst e; rw [HXX.out, HYY.out]
      ·exact HSM.out i (by omega)
     case measure => simp [intOf]; omega
    ·have hxf : (x != y) = true := by simpa using hxy
     have HNE := hid hxy
     clear hxy
     go_wp2_with fail
     go_quiet (fail)
     go_wp2
     go_ret
     refine ⟨ret_bool ?_, below_drewN HBR.out _⟩
     symm
     rw [decide_eq_false_iff_not]
     intro h
     apply HNE.out
     rw [← HXX.out, ← HYY.out, h]
   ·obtain rfl : j = la.length := by omega
    go_wp2
    go_ret
    refine ⟨ret_bool ?_, HBR.out⟩
    symm
    rw [decide_eq_true_iff]
    apply List.ext_getElem (by omega)
    intro i h1 h2
    have := HSM.out i h1
    simpa [List.getD_eq_getElem?_getD, h1, h2] using this
 ·have hlf : ((la.length : Int) != (lb.length : Int)) = true := by simp; omega
  go_wp2
  go_ret
  refine ⟨ret_bool ?_, Below.refl _ _⟩
  symm
  rw [decide_eq_false_iff_not]
  intro h
  exact hle (by rw [h])
end Go.Proofs.YtcjgcipacfcjnaaGreatDoor.C
