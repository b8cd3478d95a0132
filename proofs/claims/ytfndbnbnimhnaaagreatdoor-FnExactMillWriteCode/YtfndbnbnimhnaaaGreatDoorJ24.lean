import Derived.Test.YtfndbnbnimhnaaaGreatDoorJ23
/-! Behind an instruction, in the model: what the walk starts from. -/
namespace Go.Proofs.YtfndbnbnimhnaaaGreatDoor.C
open Go.RowKit
set_option maxRecDepth 20000
def BehEnd (fns : List Fn) (f : Fn) (p : Nat) (s : Sh) (w : World) (e : Ending) (w' : World) : Prop := ∃ v, e = .returned v ∧ ShV w' v (behind fns f p s) ∧ Below w.heap.size w w'
def ibox (i : In) : Obj := .cells #[.int .i64 i.op, .int .i64 i.a, .int .i64 i.n, .string i.text] 84
def fbox (f : Fn) (pv iv : Value) : Obj := .cells #[.string f.name, pv, .int .i64 f.result, .int .i64 f.slots, iv] 57
/-- What lies in the boxes. -/
structure BX (f : Fn) (i : In) (w : World) (cv pv iv x y : Value) (W : World) : Prop where
  lo : Below w.heap.size w W
  e0 : W.heap[w.heap.size]? = some (.cells #[cv] 29)
  e1 : W.heap[w.heap.size + 1]? = some (fbox f pv iv)
  e2 : W.heap[w.heap.size + 1 + 1]? = some (sbox 1 x y)
  e3 : W.heap[w.heap.size + 1 + 1 + 1]? = some (sbox 0 (.slice none 0 0) (.slice none 0 0))
  e4 : W.heap[w.heap.size + 1 + 1 + 1 + 1]? = some (ibox i)
  e5 : W.heap[w.heap.size + 1 + 1 + 1 + 1 + 1]? = some (sbox 2 (.slice none 0 0) (.slice none 0 0))
theorem BX.next {f : Fn} {i : In} {w : World} {cv pv iv x y : Value} {W V : World} (h : BX f i w cv pv iv x y W) (hb : Below W.heap.size W V) : BX f i w cv pv iv x y V :=
  ⟨h.lo.trans (hb.mono h.lo.size), hp_next h.e0 hb, hp_next h.e1 hb, hp_next h.e2 hb, hp_next h.e3 hb, hp_next h.e4 hb, hp_next h.e5 hb⟩
theorem fx {W : World} {g : Nat} {f : Fn} {pv iv : Value} (e : W.heap[g]? = some (fbox f pv iv)) :
    W.cell? ⟨g, 0, none⟩ = some (.string f.name) ∧ W.cell? ⟨g, 1, none⟩ = some pv ∧ W.cell? ⟨g, 2, none⟩ = some (.int .i64 f.result) ∧ W.cell? ⟨g, 3, none⟩ = some (.int .i64 f.slots) ∧ W.cell? ⟨g, 4, none⟩ = some iv := by
  refine ⟨?_, ?_, ?_, ?_, ?_⟩ <;> simp [World.cell?, e, fbox]
theorem ix {W : World} {g : Nat} {i : In} (e : W.heap[g]? = some (ibox i)) :
    W.cell? ⟨g, 0, none⟩ = some (.int .i64 i.op) ∧ W.cell? ⟨g, 1, none⟩ = some (.int .i64 i.a) ∧ W.cell? ⟨g, 2, none⟩ = some (.int .i64 i.n) ∧ W.cell? ⟨g, 3, none⟩ = some (.string i.text) := by
  refine ⟨?_, ?_, ?_, ?_⟩ <;> simp [World.cell?, e, ibox]
theorem cx {W : World} {g : Nat} {cv : Value} (e : W.heap[g]? = some (.cells #[cv] 29)) : W.cell? ⟨g, 0, none⟩ = some cv := by simp [World.cell?, e]
/-- Four boxes, then two more. -/
theorem four (w : World) (a b c d : Obj) : ((((w.alloc a).alloc b).alloc c).alloc d).heap[w.heap.size]? = some a ∧ ((((w.alloc a).alloc b).alloc c).alloc d).heap[w.heap.size + 1]? = some b ∧ ((((w.alloc a).alloc b).alloc c).alloc d).heap[w.heap.size + 1 + 1]? = some c ∧ ((((w.alloc a).alloc b).alloc c).alloc d).heap[w.heap.size + 1 + 1 + 1]? = some d ∧ Below w.heap.size w ((((w.alloc a).alloc b).alloc c).alloc d) ∧ ((((w.alloc a).alloc b).alloc c).alloc d).heap.size = w.heap.size + 1 + 1 + 1 + 1 := by
  obtain ⟨t0, t1, t2⟩ := three w a b c
  have hb : Below (((w.alloc a).alloc b).alloc c).heap.size (((w.alloc a).alloc b).alloc c) ((((w.alloc a).alloc b).alloc c).alloc d) := (Below.refl _ _).alloc (Nat.le_refl _) _
  have hs : (((w.alloc a).alloc b).alloc c).heap.size = w.heap.size + 1 + 1 + 1 := by simp
  have t3 := heap_alloc_new (((w.alloc a).alloc b).alloc c) d
  rw [hs] at t3
  exact ⟨hp_next t0 hb, hp_next t1 hb, hp_next t2 hb, t3, (al3 w a b c).trans (hb.mono (al3 w a b c).size), by simp⟩
theorem boxes6 (f : Fn) (i : In) (w : World) (cv pv iv x y : Value) {W4 : World} (h0 : W4.heap[w.heap.size]? = some (.cells #[cv] 29)) (h1 : W4.heap[w.heap.size + 1]? = some (fbox f pv iv)) (h2 : W4.heap[w.heap.size + 1 + 1]? = some (sbox 1 x y)) (h3 : W4.heap[w.heap.size + 1 + 1 + 1]? = some (sbox 0 (.slice none 0 0) (.slice none 0 0))) (lo : Below w.heap.size w W4) (hz : W4.heap.size = w.heap.size + 1 + 1 + 1 + 1) :
    BX f i w cv pv iv x y ((W4.alloc (ibox i)).alloc (sbox 2 (.slice none 0 0) (.slice none 0 0))) := by
  have k1 : Below W4.heap.size W4 (W4.alloc (ibox i)) := (Below.refl _ _).alloc (Nat.le_refl _) _
  have k2 : Below (W4.alloc (ibox i)).heap.size (W4.alloc (ibox i)) ((W4.alloc (ibox i)).alloc (sbox 2 (.slice none 0 0) (.slice none 0 0))) := (Below.refl _ _).alloc (Nat.le_refl _) _
  have g4 := heap_alloc_new W4 (ibox i)
  have g5 := heap_alloc_new (W4.alloc (ibox i)) (sbox 2 (.slice none 0 0) (.slice none 0 0))
  have s5 : (W4.alloc (ibox i)).heap.size = w.heap.size + 1 + 1 + 1 + 1 + 1 := by simp [hz]
  rw [s5] at g5
  rw [hz] at g4
  exact ⟨(lo.trans (k1.mono lo.size)).trans (k2.mono (by rw [s5]; omega)), hp_next (hp_next h0 k1) k2, hp_next (hp_next h1 k1) k2, hp_next (hp_next h2 k1) k2, hp_next (hp_next h3 k1) k2, hp_next g4 k2, g5⟩
theorem beh_top {fns : List Fn} {f : Fn} {p : Nat} {s : Sh} {w W : World} {g : Nat} (lo : Below w.heap.size w W) (hg : w.heap.size ≤ g) (h : behind fns f p s = top) (a b c : Value) : BehEnd fns f p s w (.returned (.agg #[.int .i64 2, .slice none 0 0, .slice none 0 0])) (((W.setCell ⟨g, 0, none⟩ a).setCell ⟨g, 1, none⟩ b).setCell ⟨g, 2, none⟩ c) := by
  refine ⟨_, rfl, ?_, set_lo (set_lo (set_lo lo _ _ hg _) _ _ hg _) _ _ hg _⟩
  rw [h]
  exact ⟨_, _, rfl, IntRow.nil _, IntRow.nil _⟩
end Go.Proofs.YtfndbnbnimhnaaaGreatDoor.C
/-! Where two come together, in the program. -/
namespace Go.Proofs.YtfndbnbnimhnaaaGreatDoor.C
open Go.RowKit
set_option maxRecDepth 20000
def lbox (st : Int) (x y : ByteArray) : Obj := .cells #[.int .i64 st, .string x, .string y] 187
theorem six_l {W : World} {g : Nat} {st : Int} {x y : ByteArray} (e : W.heap[g]? = some (lbox st x y)) :
    W.cell? ⟨g, 0, none⟩ = some (.int .i64 st) ∧ W.cell? ⟨g, 1, none⟩ = some (.string x) ∧ W.cell? ⟨g, 2, none⟩ = some (.string y) ∧ W.frozen? ⟨g, 0, none⟩ = false ∧ W.frozen? ⟨g, 1, none⟩ = false ∧ W.frozen? ⟨g, 2, none⟩ = false := by
  refine ⟨?_, ?_, ?_, ?_, ?_, ?_⟩ <;> simp [World.cell?, World.frozen?, e, lbox]
theorem set1_l {W : World} {g : Nat} {st : Int} {x y : ByteArray} (e : W.heap[g]? = some (lbox st x y)) (v : ByteArray) : (W.setCell ⟨g, 1, none⟩ (.string v)).heap[g]? = some (lbox st v y) := by
  unfold World.setCell
  simp only [Array.getElem?_modify, e]
  simp [lbox]
def JdEnd (a b : Sh) (w : World) (e : Ending) (w' : World) : Prop := e = .returned (lv (join a b)) ∧ Below w.heap.size w w'
set_option maxHeartbeats 1000000 in
theorem jd_0 {a b : Sh} (h : a.st = 0) (w : World) : Calls Tryz.prog 122 #[lv a, lv b] w (JdEnd a b w) := by
  have HJ := hid (join_bot (b := b) h)
  unfold lv
  rw [h]
  clear h
  go_enter Tryz.func122, Tryz.ntmps122
  go_wp2
  refine bodyPost_ret (v := lv b) (by simp [results, Tryz.results122, go_sem, lv]) rfl ⟨by rw [HJ.out], al3 _ _ _ _⟩
set_option maxHeartbeats 1000000 in
theorem jd_2 {S : Nat} {a b : Sh} (_ha : OkSh S a) (h : a.st = 2) (w : World) : Calls Tryz.prog 122 #[lv a, lv b] w (JdEnd a b w) := by
  have HJ : Hid (join a b = top) := hid (by simp [join, h])
  unfold lv
  rw [h]
  clear h
  go_enter Tryz.func122, Tryz.ntmps122
  go_wp2
  refine bodyPost_ret (v := lv top) (by simp [results, Tryz.results122, go_sem, lv, top, kt_nil]) rfl ⟨by rw [HJ.out], al3 _ _ _ _⟩
set_option maxHeartbeats 1000000 in
theorem jd_12 {a b : Sh} (h : a.st = 1) (h2 : b.st = 2) (w : World) : Calls Tryz.prog 122 #[lv a, lv b] w (JdEnd a b w) := by
  have HJ : Hid (join a b = top) := hid (by simp [join, h, h2])
  unfold lv
  rw [h, h2]
  clear h h2
  go_enter Tryz.func122, Tryz.ntmps122
  go_wp2
  refine bodyPost_ret (v := lv top) (by simp [results, Tryz.results122, go_sem, lv, top, kt_nil]) rfl ⟨by rw [HJ.out], al3 _ _ _ _⟩
set_option maxHeartbeats 1000000 in
theorem jd_ne {a b : Sh} (h : a.st = 1) (h2 : b.st = 1) (hk : ¬ kt a.sk = kt b.sk) (w : World) : Calls Tryz.prog 122 #[lv a, lv b] w (JdEnd a b w) := by
  have HJ : Hid (join a b = top) := hid (join_apart h fun e => hk (by rw [e]))
  have hkf : ((kt a.sk).toList == (kt b.sk).toList) = false := Bool.eq_false_iff.2 fun h => hk (str_eq2.1 h)
  have hkn : ((kt a.sk).toList != (kt b.sk).toList) = true := by simp [bne, hkf]
  unfold lv
  rw [h, h2]
  clear h h2 hk
  go_enter Tryz.func122, Tryz.ntmps122
  go_wp2
  refine bodyPost_ret (v := lv top) (by simp [results, Tryz.results122, go_sem, lv, top, kt_nil]) rfl ⟨by rw [HJ.out], al3 _ _ _ _⟩
set_option maxHeartbeats 1000000 in
theorem jd_eq {a b : Sh} (h : a.st = 1) (h2 : b.st = 1) (hk : kt a.sk = kt b.sk) (hks : a.sk = b.sk) (hs : kt a.sl = kt b.sl) (hss : a.sl = b.sl) (w : World) : Calls Tryz.prog 122 #[lv a, lv b] w (JdEnd a b w) := by
  have HJ : Hid (join a b = a) := hid (by
    rw [join_both h h2 hks, ← hss, slJoin_self]
    cases a
    simp at h
    rw [h])
  have HA : Hid (lv a = .agg #[.int .i64 1, .string (kt a.sl), .string (kt a.sk)]) := hid (by unfold lv; rw [h]; rfl)
  unfold lv
  rw [h, h2, ← hk, ← hs]
  clear h h2 hk hks hs hss
  go_enter Tryz.func122, Tryz.ntmps122
  go_wp2
  refine bodyPost_ret (v := .agg #[.int .i64 1, .string (kt a.sl), .string (kt a.sk)]) (by simp [results, Tryz.results122, go_sem]) rfl ⟨by rw [HJ.out, HA.out], al3 _ _ _ _⟩
set_option maxHeartbeats 2000000 in
theorem jd_mix {a b : Sh} (h : a.st = 1) (h2 : b.st = 1) (hk : kt a.sk = kt b.sk) (hks : a.sk = b.sk) (hs : ¬ kt a.sl = kt b.sl) (ha : Ok10 a.sl) (hb : Ok10 b.sl) (hl : a.sl.length = b.sl.length) (h200 : a.sl.length ≤ 200) (w : World) : Calls Tryz.prog 122 #[lv a, lv b] w (JdEnd a b w) := by
  have HJ : Hid (lv (join a b) = .agg #[.int .i64 1, .string (kt (slJoin a.sl b.sl)), .string (kt a.sk)]) := hid (by rw [join_both h h2 hks]; rfl)
  have hkf : ((kt a.sl).toList == (kt b.sl).toList) = false := Bool.eq_false_iff.2 fun h => hs (str_eq2.1 h)
  have hkn : ((kt a.sl).toList != (kt b.sl).toList) = true := by simp [bne, hkf]
  have HC := hid (fun W => sameKinds_any ha hb hl h200 W)
  unfold lv
  rw [h, h2, ← hk]
  clear h h2 hk hks hs ha hb hl
  go_enter Tryz.func122, Tryz.ntmps122
  go_upto_region 1 with fail
  obtain ⟨t0, t1, t2⟩ := three w (lbox 1 (kt a.sl) (kt a.sk)) (lbox 1 (kt b.sl) (kt a.sk)) (lbox 0 ⟨#[]⟩ ⟨#[]⟩)
  have HLO := hid (al3 w (lbox 1 (kt a.sl) (kt a.sk)) (lbox 1 (kt b.sl) (kt a.sk)) (lbox 0 ⟨#[]⟩ ⟨#[]⟩))
  obtain ⟨W1, hW1⟩ : ∃ W, ((w.alloc (lbox 1 (kt a.sl) (kt a.sk))).alloc (lbox 1 (kt b.sl) (kt a.sk))).alloc (lbox 0 ⟨#[]⟩ ⟨#[]⟩) = W := ⟨_, rfl⟩
  rw [hW1] at t0 t1 t2 HLO
  unfold lbox at hW1
  rw [hW1]
  clear hW1
  have T0 := hid t0
  have T1 := hid t1
  have T2 := hid t2
  obtain ⟨u0, u1, u2, _, _, _⟩ := six_l t0
  obtain ⟨x0, x1, x2, _, _, _⟩ := six_l t1
  clear t0 t1 t2
  go_upto_region 7 with (go_at_call 143; refine (HC.out _).mono ?_; rintro e w2 ⟨rfl, hb2⟩; have T20 := hid (hp_next T0.out hb2); have T22 := hid (hp_next T2.out hb2); have HLO2 := hid (HLO.out.trans (hb2.mono HLO.out.size)); obtain ⟨z0, z1, z2, q0, q1, q2⟩ := six_l T20.out; clear hb2)
  have e20 := set1_l T20.out (kt (slJoin a.sl b.sl))
  have e22 : (w2.setCell ⟨w.heap.size, 1, none⟩ (.string (kt (slJoin a.sl b.sl)))).heap[w.heap.size + 1 + 1]? = some (lbox 0 ⟨#[]⟩ ⟨#[]⟩) := by rw [set_other _ _ _ _ _ (by omega)]; exact T22.out
  have HLO3 := hid (set_lo HLO2.out w.heap.size 1 (Nat.le_refl _) (.string (kt (slJoin a.sl b.sl))))
  obtain ⟨W3, hW3⟩ : ∃ W, w2.setCell ⟨w.heap.size, 1, none⟩ (.string (kt (slJoin a.sl b.sl))) = W := ⟨_, rfl⟩
  rw [hW3] at e20 e22 HLO3 ⊢
  clear hW3 u0 u1 u2 x0 x1 x2 z0 z1 z2 q0 q1 q2
  obtain ⟨u0, u1, u2, _, _, _⟩ := six_l e20
  obtain ⟨r0, r1, r2, q0, q1, q2⟩ := six_l e22
  clear e20 e22
  go_wp2
  refine bodyPost_ret (v := .agg #[.int .i64 1, .string (kt (slJoin a.sl b.sl)), .string (kt a.sk)]) (by simp [results, Tryz.results122, go_sem, r0, r1, r2]) rfl ⟨by rw [HJ.out], set_lo (set_lo (set_lo HLO3.out _ _ (by omega) _) _ _ (by omega) _) _ _ (by omega) _⟩
theorem joined_any {S : Nat} {a b : Sh} (ha : OkSh S a) (hb : OkSh S b) (h0 : ¬ b.st = 0) (hS : S ≤ 200) (w : World) : Calls Tryz.prog 122 #[lv a, lv b] w (JdEnd a b w) := by
  rcases ok_st ha with h | h | h
  · exact jd_0 h w
  · rcases ok_st hb with k | k | k
    · exact absurd k h0
    · have p := ok_known ha h
      have q := ok_known hb k
      by_cases hk : kt a.sk = kt b.sk
      · have hks := kt_inj (ok_sl ha).2 (ok_sl hb).2 hk
        by_cases hs : kt a.sl = kt b.sl
        · exact jd_eq h k hk hks hs (kt_inj (ok_sl ha).1 (ok_sl hb).1 hs) w
        · exact jd_mix h k hk hks hs (ok_sl ha).1 (ok_sl hb).1 (p.1.trans q.1.symm) (by omega) w
      · exact jd_ne h k hk w
    · exact jd_12 h k w
  · exact jd_2 ha h w
end Go.Proofs.YtfndbnbnimhnaaaGreatDoor.C
