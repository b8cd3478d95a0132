import Derived.OwnWalk
import Derived.Test.YtcjgcipacfcjnaaGreatDoorJ04
import Derived.Test.YtcjgcipacfcjnaaGreatDoorJ05
namespace Go.Proofs.YtcjgcipacfcjnaaGreatDoor.C
open Go.RowKit
set_option maxRecDepth 20000
set_option maxHeartbeats 1000000 in
theorem gives_10 (fns : List Fn) (f : Fn) (a : Int) (n : Int) (tx : ByteArray) (sl sk : List Int) (w : World) (cv pv iv av bv : Value) (h1 : FnsRow w cv fns) (h2 : IntRow w pv f.params) (h3 : InsRow w iv f.ins) (h4 : IntRow w av sl) (h5 : IntRow w bv sk) (hn : sk.length ≤ 1000) :
  Calls Tryz.prog 91 #[.agg #[cv], .agg #[.string f.name, pv, .int .i64 f.result, .int .i64 f.slots, iv], .agg #[.int .i64 10, .int .i64 a, .int .i64 n, .string tx], .agg #[.int .i64 1, av, bv]] w (GvEnd fns f ⟨10, a, n, tx⟩ sl sk w) := by
 obtain ⟨adA, cA, rfl⟩ := h4.sl
 obtain ⟨adB, cB, rfl⟩ := h5.sl
 have HX := hid (boxes (i := ⟨10, a, n, tx⟩) h1 h2 h3 h4 h5)
 have HTK : Hid (takesN fns ⟨10, a, n, tx⟩ = 0) := hid (by simp [takesN])
 have HEF : Hid (∀ tk, eff fns f ⟨10, a, n, tx⟩ sl tk = some []) := hid (by intro tk; simp [eff])
 clear h1 h2 h3 h4 h5
 go_enter Tryz.func91, Tryz.ntmps91
 go_upto_region 1 with fail
 obtain ⟨W, hW⟩ : ∃ W, ((((w.alloc (.cells #[cv] 29)).alloc (.cells #[.string f.name, pv, .int .i64 f.result, .int .i64 f.slots, iv] 57)).alloc (.cells #[.int .i64 10, .int .i64 a, .int .i64 n, .string tx] 84)).alloc (.cells #[.int .i64 1, .slice adA sl.length cA, .slice adB sk.length cB] 125)) = W := ⟨_, rfl⟩
 have HX2 : Hid _ := hid (hW ▸ HX.out)
 rw [hW]
 clear hW HX
 have x0 := HX2.out.i0
 have x1 := HX2.out.i1
 have y1 := HX2.out.s1
 have y2 := HX2.out.s2
 go_upto_if 26 with fail
 go_cut [12] (fun v wx => v = .int .i64 (tp sk) ∧ wx = W)
 case first =>
  by_cases hp : 0 < sk.length
  ·obtain ⟨g, c, e9, _, _, _, hc⟩ := HX2.out.sk_.at hp
   injection e9 with ea _ ec
   subst ea ec
   have hpi : (0 : Int) < (sk.length : Int) := by omega
   have hwr : IntKind.i64.wrap ((sk.length : Int) - 1) = ((sk.length - 1 : Nat) : Int) := by rw [IntKind.wrap_i64]; omega
   have hlt : ((sk.length - 1 : Nat) : Int) < (sk.length : Int) := by omega
   have hct := hc (sk.length - 1) (by omega)
   rw [tp_at hp] at hct
   clear hc
   go_wp2_with fail
   go_meet
   case rel => exact ⟨rfl, rfl⟩
  ·have hpi : ¬ (0 : Int) < (sk.length : Int) := by omega
   have HT := hid (tp_none hp)
   clear hp
   go_wp2_with fail
   go_meet
   case rel => exact ⟨by rw [HT.out], rfl⟩
 case rest =>
  obtain ⟨rfl, rfl⟩ := hcut
  go_upto_if 34 with fail
  go_cut [13] (fun v wx => v = .int .i64 (bw sk) ∧ wx = wc)
  case first =>
   by_cases hp : 1 < sk.length
   ·obtain ⟨g, c, e9, _, _, _, hc⟩ := HX2.out.sk_.at (i := 0) (by omega)
    injection e9 with ea _ ec
    subst ea ec
    have hpi : (1 : Int) < (sk.length : Int) := by omega
    have hwr : IntKind.i64.wrap ((sk.length : Int) - 2) = ((sk.length - 2 : Nat) : Int) := by rw [IntKind.wrap_i64]; omega
    have hlt : ((sk.length - 2 : Nat) : Int) < (sk.length : Int) := by omega
    have hct := hc (sk.length - 2) (by omega)
    rw [bw_at hp] at hct
    clear hc
    go_wp2_with fail
    go_meet
    case rel => exact ⟨rfl, rfl⟩
   ·have hpi : ¬ (1 : Int) < (sk.length : Int) := by omega
    have HT := hid (bw_none hp)
    clear hp
    go_wp2_with fail
    go_meet
    case rel => exact ⟨by rw [HT.out], rfl⟩
  case rest =>
   obtain ⟨rfl, hwc⟩ := hcut
   subst hwc
   go_wp2
   go_ret3
   exact gv_ok (k := 0) (by first | exact HX2.out.lo.alloc HX2.out.lo.size _ | exact (HX2.out.lo.alloc HX2.out.lo.size _).drew) (by decide) HTK.out.symm (by omega) (HEF.out _) (by first | exact row0 _ | exact (row0 _).next (Below.refl _ _).drew)
def JoinEnd (a b : Sh) (w : World) (e : Ending) (w' : World) : Prop := ∃ v ch, e = .returned (.tuple #[v, .bool ch]) ∧ ShV w' v (join a b) ∧ (ch = true ↔ ¬ join a b = a) ∧ Below w.heap.size w w'
def shV (st : Int) (x y : Value) : Value := .agg #[.int .i64 st, x, y]
theorem al3 (w : World) (a b c : Obj) : Below w.heap.size w (((w.alloc a).alloc b).alloc c) := by
 have h1 := (Below.refl w.heap.size w).alloc (Nat.le_refl _) a
 have h2 := h1.alloc (by simp) b
 exact h2.alloc (by simp; omega) c
theorem join_top2 {S : Nat} {a b : Sh} (ha : OkSh S a) (h : a.st = 2) : join a b = a := by
 rcases ha with rfl | rfl | h1
 ·simp [bot] at h
 ·simp [join, top]
 ·omega
theorem join_bot {a b : Sh} (h : a.st = 0) : join a b = b := by simp [join, h]
theorem join_top1 {S : Nat} {a b : Sh} (hb : OkSh S b) (h1 : a.st = 1) (h : b.st = 2) : join a b = b := by
 rcases hb with rfl | rfl | h2
 ·simp [bot] at h
 ·simp [join, top, h1]
 ·omega
set_option maxHeartbeats 1000000 in
theorem join_first {S : Nat} {a b : Sh} (ha : OkSh S a) (h0 : ¬ b.st = 0) (h2 : a.st = 2) (w : World) (x y x' y' : Value) (h4 : IntRow w x a.sl) (h5 : IntRow w y a.sk) (h6 : IntRow w x' b.sl) (h7 : IntRow w y' b.sk) :
  Calls Tryz.prog 90 #[shV a.st x y, shV b.st x' y'] w (JoinEnd a b w) := by
 have HJ := hid (join_top2 (b := b) ha h2)
 have H4 := hid h4
 have H5 := hid h5
 have H2 := hid h2
 obtain ⟨a1, c1, rfl⟩ := h4.sl
 obtain ⟨a2, c2, rfl⟩ := h5.sl
 obtain ⟨a3, c3, rfl⟩ := h6.sl
 obtain ⟨a4, c4, rfl⟩ := h7.sl
 unfold shV
 rw [h2]
 have hbf : ((b.st : Int) == 0) = false := by simpa using h0
 clear ha h0 h2 h4 h5 h6 h7
 go_enter Tryz.func90, Tryz.ntmps90
 go_wp2
 refine bodyPost_ret (v := .tuple #[.agg #[.int .i64 2, .slice a1 a.sl.length c1, .slice a2 a.sk.length c2], .bool false]) (by simp [results, Tryz.results90, go_sem]) rfl ⟨_, _, rfl, ?_, ?_, al3 _ _ _ _⟩
 ·rw [HJ.out]
  exact ⟨_, _, by rw [H2.out]; rfl, H4.out.next (al3 _ _ _ _), H5.out.next (al3 _ _ _ _)⟩
 ·simp [HJ.out]
set_option maxHeartbeats 1000000 in
theorem join_second0 {a b : Sh} (h0 : ¬ b.st = 0) (h2 : a.st = 0) (w : World) (x y x' y' : Value) (h4 : IntRow w x a.sl) (h5 : IntRow w y a.sk) (h6 : IntRow w x' b.sl) (h7 : IntRow w y' b.sk) :
  Calls Tryz.prog 90 #[shV a.st x y, shV b.st x' y'] w (JoinEnd a b w) := by
 have HJ := hid (join_bot (b := b) h2)
 have HN : Hid (¬ b = a) := hid (fun e => h0 (by rw [e]; exact h2))
 have H6 := hid h6
 have H7 := hid h7
 obtain ⟨a1, c1, rfl⟩ := h4.sl
 obtain ⟨a2, c2, rfl⟩ := h5.sl
 obtain ⟨a3, c3, rfl⟩ := h6.sl
 obtain ⟨a4, c4, rfl⟩ := h7.sl
 unfold shV
 rw [h2]
 have hbf : ((b.st : Int) == 0) = false := by simpa using h0
 clear h0 h2 h4 h5 h6 h7
 go_enter Tryz.func90, Tryz.ntmps90
 go_wp2
 refine bodyPost_ret (v := .tuple #[.agg #[.int .i64 b.st, .slice a3 b.sl.length c3, .slice a4 b.sk.length c4], .bool true]) (by simp [results, Tryz.results90, go_sem]) rfl ⟨_, _, rfl, ?_, ?_, al3 _ _ _ _⟩
 ·rw [HJ.out]
  exact ⟨_, _, rfl, H6.out.next (al3 _ _ _ _), H7.out.next (al3 _ _ _ _)⟩
 ·simp [HJ.out, HN.out]
set_option maxHeartbeats 1000000 in
theorem join_second1 {S : Nat} {a b : Sh} (hb : OkSh S b) (h0 : b.st = 2) (h2 : a.st = 1) (w : World) (x y x' y' : Value) (h4 : IntRow w x a.sl) (h5 : IntRow w y a.sk) (h6 : IntRow w x' b.sl) (h7 : IntRow w y' b.sk) :
  Calls Tryz.prog 90 #[shV a.st x y, shV b.st x' y'] w (JoinEnd a b w) := by
 have HJ := hid (join_top1 (a := a) hb h2 h0)
 have HN : Hid (¬ b = a) := hid (fun e => by rw [e] at h0; omega)
 have H0 := hid h0
 have H6 := hid h6
 have H7 := hid h7
 obtain ⟨a1, c1, rfl⟩ := h4.sl
 obtain ⟨a2, c2, rfl⟩ := h5.sl
 obtain ⟨a3, c3, rfl⟩ := h6.sl
 obtain ⟨a4, c4, rfl⟩ := h7.sl
 unfold shV
 rw [h2, h0]
 clear hb h0 h2 h4 h5 h6 h7
 go_enter Tryz.func90, Tryz.ntmps90
 go_wp2
 refine bodyPost_ret (v := .tuple #[.agg #[.int .i64 2, .slice a3 b.sl.length c3, .slice a4 b.sk.length c4], .bool true]) (by simp [results, Tryz.results90, go_sem]) rfl ⟨_, _, rfl, ?_, ?_, al3 _ _ _ _⟩
 ·rw [HJ.out]
  exact ⟨_, _, by rw [H0.out]; rfl, H6.out.next (al3 _ _ _ _), H7.out.next (al3 _ _ _ _)⟩
 ·simp [HJ.out, HN.out]
def sbox (st : Int) (x y : Value) : Obj := .cells #[.int .i64 st, x, y] 125
theorem six_s {W : World} {g : Nat} {st : Int} {x y : Value} (e : W.heap[g]? = some (sbox st x y)) :
  W.cell? ⟨g, 0, none⟩ = some (.int .i64 st) ∧ W.cell? ⟨g, 1, none⟩ = some x ∧ W.cell? ⟨g, 2, none⟩ = some y ∧ W.frozen? ⟨g, 0, none⟩ = false ∧ W.frozen? ⟨g, 1, none⟩ = false ∧ W.frozen? ⟨g, 2, none⟩ = false := by
 refine ⟨?_, ?_, ?_, ?_, ?_, ?_⟩ <;> simp [World.cell?, World.frozen?, e, sbox]
theorem set_other (W : World) (g j i : Nat) (v : Value) (h : ¬ i = g) : (W.setCell ⟨g, j, none⟩ v).heap[i]? = W.heap[i]? := by
 unfold World.setCell
 simp only [Array.getElem?_modify]
 rw [if_neg (fun e => h e.symm)]
theorem set_size (W : World) (a : Addr) (v : Value) : (W.setCell a v).heap.size = W.heap.size := by simp [World.setCell]
theorem set1_box {W : World} {g : Nat} {st : Int} {x y : Value} (e : W.heap[g]? = some (sbox st x y)) (v : Value) : (W.setCell ⟨g, 1, none⟩ v).heap[g]? = some (sbox st v y) := by
 unfold World.setCell
 simp only [Array.getElem?_modify, e]
 simp [sbox]
theorem set_lo {w W : World} {B : Nat} (h : Below B w W) (g j : Nat) (hg : B ≤ g) (v : Value) : Below B w (W.setCell ⟨g, j, none⟩ v) :=
 ⟨h.os, h.tape, h.output, by rw [set_size]; exact h.size, fun i hi => by rw [set_other _ _ _ _ _ (by omega)]; exact h.block i hi⟩
theorem IntRow.set {W : World} {v : Value} {l : List Int} (h : IntRow W v l) {g : Nat} {st : Int} {x y : Value} (e : W.heap[g]? = some (sbox st x y)) (j : Nat) (u : Value) : IntRow (W.setCell ⟨g, j, none⟩ u) v l :=
 h.keep fun i cur hi => set_other _ _ _ _ _ (fun ei => by subst ei; rw [e] at hi; simp [sbox] at hi)
theorem IntRow.set3 {W : World} {v : Value} {l : List Int} (h : IntRow W v l) {g : Nat} {st : Int} {x y : Value} (e : W.heap[g]? = some (sbox st x y)) (p q r : Value) : IntRow (((W.setCell ⟨g, 0, none⟩ p).setCell ⟨g, 1, none⟩ q).setCell ⟨g, 2, none⟩ r) v l :=
 h.keep fun i cur hi => by
  have hne : ¬ i = g := fun ei => by subst ei; rw [e] at hi; simp [sbox] at hi
  rw [set_other _ _ _ _ _ hne, set_other _ _ _ _ _ hne, set_other _ _ _ _ _ hne]
theorem own_form {W : World} {B n : Nat} {e : TypeId} {v : Value} {xs : List Value} (h : W.ownsRow B e 1 v n xs) : ∃ ad c, v = .slice ad n c := by
 obtain ⟨_, ⟨rfl, rfl⟩ | ⟨g, cap, cur, rfl, _⟩⟩ := h
 ·exact ⟨_, _, rfl⟩
 ·exact ⟨_, _, rfl⟩
theorem own_set {W : World} {B g j n : Nat} {v u : Value} {xs : List Value} (h : W.ownsRow B 3 1 v n xs) (hg : g < B) : (W.setCell ⟨g, j, none⟩ u).ownsRow B 3 1 v n xs := by
 obtain ⟨h1, h2 | ⟨k, cap, cur, e, hb, hc, r⟩⟩ := h
 ·exact ⟨h1, .inl h2⟩
 ·exact ⟨h1, .inr ⟨k, cap, cur, e, hb, by rw [set_other _ _ _ _ _ (by omega)]; exact hc, r⟩⟩
theorem own_ne {W : World} {B n : Nat} {v : Value} {xs : List Value} (h : W.ownsRow B 3 1 v n xs) {i : Nat} (hi : i < B) : some i ≠ v.ownBlock := fun e => by
 have := h.lt i e.symm
 omega
theorem three (w : World) (a b c : Obj) : (((w.alloc a).alloc b).alloc c).heap[w.heap.size]? = some a ∧ (((w.alloc a).alloc b).alloc c).heap[w.heap.size + 1]? = some b ∧ (((w.alloc a).alloc b).alloc c).heap[w.heap.size + 1 + 1]? = some c := by
 have s1 : (w.alloc a).heap.size = w.heap.size + 1 := by simp
 have s2 : ((w.alloc a).alloc b).heap.size = w.heap.size + 1 + 1 := by simp
 have g0 := heap_alloc_new w a
 have g1 := heap_alloc_new (w.alloc a) b
 have g2 := heap_alloc_new ((w.alloc a).alloc b) c
 have k1 : Below (w.alloc a).heap.size (w.alloc a) ((w.alloc a).alloc b) := (Below.refl _ _).alloc (Nat.le_refl _) _
 have k2 : Below ((w.alloc a).alloc b).heap.size ((w.alloc a).alloc b) (((w.alloc a).alloc b).alloc c) := (Below.refl _ _).alloc (Nat.le_refl _) _
 rw [s1] at g1
 rw [s2] at g2
 exact ⟨hp_next (hp_next g0 k1) k2, hp_next g1 k2, g2⟩
theorem own_next {w w1 : World} {B e size k : Nat} {v : Value} {xs : List Value} (h : w.ownsRow B e size v k xs) (hb : Below w.heap.size w w1) : w1.ownsRow B e size v k xs := by
 obtain ⟨h1, h2 | ⟨g, cap, cur, a, b, c, d⟩⟩ := h
 ·exact ⟨h1, .inl h2⟩
 ·exact ⟨h1, .inr ⟨g, cap, cur, a, b, hp_next c hb, d⟩⟩
theorem int_info : (Tryz.prog.info? 3).map (fun i => (i.zero, i.size, i.bytes)) = some (some (.int .i64 0), 1, 8) := by kernel_rfl
theorem int_parts : ∃ i, Tryz.prog.info? 3 = some i ∧ i.zero = some (.int .i64 0) ∧ i.size = 1 ∧ i.bytes = 8 := by
 have h := int_info
 cases hi : Tryz.prog.info? 3 with
 | none => rw [hi] at h; cases h
 | some i =>
  rw [hi] at h
  simp only [Option.map_some, Option.some.injEq, Prod.mk.injEq] at h
  exact ⟨i, rfl, h.1, h.2.1, h.2.2⟩
end Go.Proofs.YtcjgcipacfcjnaaGreatDoor.C
