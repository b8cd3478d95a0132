import Derived.Test.YtfndbnbnimhnaaaGreatDoorJ26
/-! Behind an instruction, in the model: every shape. -/
namespace Go.Proofs.YtfndbnbnimhnaaaGreatDoor.C
open Go.RowKit
set_option maxRecDepth 20000
theorem behind_top {fns : List Fn} {f : Fn} {p : Nat} {s : Sh} (h : ¬ s.st = 1) : behind fns f p s = top := by
  unfold behind
  rw [if_neg fun h9 => h h9.1]
set_option maxHeartbeats 1000000 in
theorem beh_2 {fns : List Fn} {f : Fn} {p : Nat} {s : Sh} {w : World} {cv pv iv x y : Value} (h1 : FnsRow w cv fns) (h2 : IntRow w pv f.params) (h3 : InsRow w iv f.ins) (h4 : IntRow w x s.sl) (h5 : IntRow w y s.sk) (hp : p < f.ins.length) (h2s : s.st = 2) :
    Calls Tryz.prog 65 #[.agg #[cv], .agg #[.string f.name, pv, .int .i64 f.result, .int .i64 f.slots, iv], .int .i64 p, .agg #[.int .i64 2, x, y]] w (BehEnd fns f p s w) := by
  have HT := hid (behind_top (fns := fns) (f := f) (p := p) (s := s) (by omega))
  obtain ⟨a0, c0, rfl⟩ := h1.sl
  obtain ⟨a1, c1, rfl⟩ := h2.sl
  obtain ⟨gI, cI, rfl, hgI, hcI⟩ := h3.at hp
  obtain ⟨a4, c4, rfl⟩ := h4.sl
  obtain ⟨a5, c5, rfl⟩ := h5.sl
  obtain ⟨d0, d1, d2, d3⟩ := hcI p hp
  obtain ⟨i, hi⟩ : ∃ i, f.ins.getD p in0 = i := ⟨_, rfl⟩
  rw [hi] at d0 d1 d2 d3
  clear h1 h2 h3 h4 h5 hcI hi h2s
  have hpi : (p : Int) < (f.ins.length : Int) := by omega
  go_enter Tryz.func65, Tryz.ntmps65
  go_upto_region 1 with fail
  obtain ⟨t0, t1, t2, t3, hlo, hz⟩ := four w (.cells #[.slice a0 fns.length c0] 29) (fbox f (.slice a1 f.params.length c1) (.slice (some ⟨gI, 0, none⟩) f.ins.length cI)) (sbox 2 (.slice a4 s.sl.length c4) (.slice a5 s.sk.length c5)) (sbox 0 (.slice none 0 0) (.slice none 0 0))
  obtain ⟨W4, hW4⟩ : ∃ W, ((((w.alloc (.cells #[.slice a0 fns.length c0] 29)).alloc (fbox f (.slice a1 f.params.length c1) (.slice (some ⟨gI, 0, none⟩) f.ins.length cI))).alloc (sbox 2 (.slice a4 s.sl.length c4) (.slice a5 s.sk.length c5))).alloc (sbox 0 (.slice none 0 0) (.slice none 0 0))) = W := ⟨_, rfl⟩
  rw [hW4] at t0 t1 t2 t3 hlo hz
  unfold fbox sbox at hW4
  rw [hW4]
  clear hW4
  obtain ⟨v0, v1, v2, v3, v4⟩ := fx t1
  have d0 := (hlo.cell (p := ⟨gI, p * 4, none⟩) hgI).trans d0
  have d1 := (hlo.cell (p := ⟨gI, p * 4 + 1, none⟩) hgI).trans d1
  have d2 := (hlo.cell (p := ⟨gI, p * 4 + 2, none⟩) hgI).trans d2
  have d3 := (hlo.cell (p := ⟨gI, p * 4 + 3, none⟩) hgI).trans d3
  have k1 : Below W4.heap.size W4 (W4.alloc (ibox i)) := (Below.refl _ _).alloc (Nat.le_refl _) _
  have k2 : Below (W4.alloc (ibox i)).heap.size (W4.alloc (ibox i)) ((W4.alloc (ibox i)).alloc (sbox 2 (.slice none 0 0) (.slice none 0 0))) := (Below.refl _ _).alloc (Nat.le_refl _) _
  have k12 := k1.trans (k2.mono k1.size)
  have HLO := hid (hlo.trans (k12.mono hlo.size))
  have e2 := hp_next t2 k12
  have e3 := hp_next t3 k12
  have e5 := heap_alloc_new (W4.alloc (ibox i)) (sbox 2 (.slice none 0 0) (.slice none 0 0))
  have s5 : (W4.alloc (ibox i)).heap.size = w.heap.size + 1 + 1 + 1 + 1 + 1 := by simp [hz]
  rw [s5] at e5
  clear t0 t1 t2 t3 hlo k1 k2 k12
  go_upto_region 3 with fail
  obtain ⟨W6, hW6⟩ : ∃ W, (W4.alloc (ibox i)).alloc (sbox 2 (.slice none 0 0) (.slice none 0 0)) = W := ⟨_, rfl⟩
  rw [hW6] at HLO e2 e3 e5
  unfold ibox sbox at hW6
  rw [hW6]
  clear hW6 hz d0 d1 d2 d3 v0 v1 v2 v3 v4 s5
  obtain ⟨s0, s1, s2, _, _, _⟩ := six_s e2
  obtain ⟨r0, r1, r2, q0, q1, q2⟩ := six_s e3
  obtain ⟨x0, x1, x2, _, _, _⟩ := six_s e5
  clear e2 e3 e5
  go_wp2
  exact bodyPost_ret (v := .agg #[.int .i64 2, .slice none 0 0, .slice none 0 0]) (by simp [results, Tryz.results65, go_sem, r0, r1, r2]) rfl (beh_top HLO.out (by omega) HT.out _ _ _)
theorem beh_any {fns : List Fn} {f : Fn} {p : Nat} {s : Sh} {w : World} {cv fv sv : Value} (h1 : FnsRow w cv fns) (h2 : FnV w fv f) (h3 : ShV w sv s) (hF : ∀ g ∈ fns, FnR fns g) (hf : FnR fns f) (hp : p < f.ins.length) (hs : OkSh f.S s) (h0 : ¬ s.st = 0) :
    Calls Tryz.prog 65 #[.agg #[cv], fv, .int .i64 p, sv] w (BehEnd fns f p s w) := by
  obtain ⟨pv, iv, rfl, r1, r2⟩ := h2
  obtain ⟨x, y, rfl, r3, r4⟩ := h3
  have hsl := hf.slots
  rcases ok_st hs with h | h | h
  · exact absurd h h0
  · have q := ok_known hs h
    obtain ⟨st, sl, sk⟩ := s
    dsimp only at h q r3 r4 ⊢
    subst h
    exact beh_1 h1 r1 r2 r3 r4 hF hf hp (by rw [q.1]; unfold Fn.S; omega) q.2.2.1 q.2.2.2
  · have := beh_2 h1 r1 r2 r3 r4 hp h
    rw [h]
    exact this
end Go.Proofs.YtfndbnbnimhnaaaGreatDoor.C
