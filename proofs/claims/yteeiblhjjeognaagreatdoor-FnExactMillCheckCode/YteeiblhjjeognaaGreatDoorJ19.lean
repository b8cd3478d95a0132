import Derived.Test.YteeiblhjjeognaaGreatDoorJ18
import Derived.Test.YteeiblhjjeognaaGreatDoorJ16
/-! Behind an instruction, in the model: every shape. -/
namespace Go.Proofs.YteeiblhjjeognaaGreatDoor.C
open Go.RowKit
set_option maxRecDepth 20000
theorem behind_top {fns : List Fn} {f : Fn} {p : Nat} {s : Sh} (h : ¬ s.st = 1) : behind fns f p s = top := by
  unfold behind
  rw [if_neg fun h9 => h h9.1]
set_option maxHeartbeats 1000000 in
theorem beh_2 {fns : List Fn} {f : Fn} {p : Nat} {s : Sh} {w : World} {cv pv iv x y : Value} (h1 : FnsRow w cv fns) (h2 : IntRow w pv f.params) (h3 : InsRow w iv f.ins) (h4 : IntRow w x s.sl) (h5 : IntRow w y s.sk) (hp : p < f.ins.length) (h2s : s.st = 2) :
    Calls Tryz.prog 19 #[.agg #[cv], .agg #[.string f.name, pv, .int .i64 f.result, .int .i64 f.slots, iv], .int .i64 p, .agg #[.int .i64 2, x, y]] w (BehEnd fns f p s w) := by
  have HT := hid (behind_top (fns := fns) (f := f) (p := p) (s := s) (by omega))
  obtain ⟨a0, c0, rfl⟩ := h1.sl
  obtain ⟨a1, c1, rfl⟩ := h2.sl
  obtain ⟨gI, cI, rfl, hgI, hcI⟩ := h3.at hp
  obtain ⟨a4, c4, rfl⟩ := h4.sl
  obtain ⟨a5, c5, rfl⟩ := h5.sl
  obtain ⟨d0, d1, d2, d3⟩ := hcI p hp
  obtain ⟨i, hi⟩ : ∃ i, f.ins.getD p in0 = i := ⟨_, rfl⟩
  rw [hi] at d0 d1 d2 d3
  clear h1 h2 h3 h4 h5 hcI hi h2s
  have hpi : (p : Int) < (f.ins.length : Int) := by omega
  go_enter Tryz.func19, Tryz.ntmps19
  go_upto_region 1 with fail
  obtain ⟨t0, t1, t2, t3, hlo, hz⟩ := four w (.cells #[.slice a0 fns.length c0] 30) (fbox f (.slice a1 f.params.length c1) (.slice (some ⟨gI, 0, none⟩) f.ins.length cI)) (sbox 2 (.slice a4 s.sl.length c4) (.slice a5 s.sk.length c5)) (sbox 0 (.slice none 0 0) (.slice none 0 0))
  obtain ⟨W4, hW4⟩ : ∃ W, ((((w.alloc (.cells #[.slice a0 fns.length c0] 30)).alloc (fbox f (.slice a1 f.params.length c1) (.slice (some ⟨gI, 0, none⟩) f.ins.length cI))).alloc (sbox 2 (.slice a4 s.sl.length c4) (.slice a5 s.sk.length c5))).alloc (sbox 0 (.slice none 0 0) (.slice none 0 0))) = W := ⟨_, rfl⟩
  rw [hW4] at t0 t1 t2 t3 hlo hz
  unfold fbox sbox at hW4
  rw [hW4]
  clear hW4
  obtain ⟨v0, v1, v2, v3, v4⟩ := fx t1
  have d0 := (hlo.cell (p := ⟨gI, p * 4, none⟩) hgI).trans d0
  have d1 := (hlo.cell (p := ⟨gI, p * 4 + 1, none⟩) hgI).trans d1
  have d2 := (hlo.cell (p := ⟨gI, p * 4 + 2, none⟩) hgI).trans d2
  have d3 := (hlo.cell (p := ⟨gI, p * 4 + 3, none⟩) hgI).trans d3
  have k1 : Below W4.heap.size W4 (W4.alloc (ibox i)) := (Below.refl _ _).alloc (Nat.le_refl _) _
  have k2 : Below (W4.alloc (ibox i)).heap.size (W4.alloc (ibox i)) ((W4.alloc (ibox i)).alloc (sbox 2 (.slice none 0 0) (.slice none 0 0))) := (Below.refl _ _).alloc (Nat.le_refl _) _
  have k12 := k1.trans (k2.mono k1.size)
  have HLO := hid (hlo.trans (k12.mono hlo.size))
  have e2 := hp_next t2 k12
  have e3 := hp_next t3 k12
  have e5 := heap_alloc_new (W4.alloc (ibox i)) (sbox 2 (.slice none 0 0) (.slice none 0 0))
  have s5 : (W4.alloc (ibox i)).heap.size = w.heap.size + 1 + 1 + 1 + 1 + 1 := by simp [hz]
  rw [s5] at e5
  clear t0 t1 t2 t3 hlo k1 k2 k12
  go_upto_region 3 with fail
  obtain ⟨W6, hW6⟩ : ∃ W, (W4.alloc (ibox i)).alloc (sbox 2 (.slice none 0 0) (.slice none 0 0)) = W := ⟨_, rfl⟩
  rw [hW6] at HLO e2 e3 e5
  unfold ibox sbox at hW6
  rw [hW6]
  clear hW6 hz d0 d1 d2 d3 v0 v1 v2 v3 v4 s5
  obtain ⟨s0, s1, s2, _, _, _⟩ := six_s e2
  obtain ⟨r0, r1, r2, q0, q1, q2⟩ := six_s e3
  obtain ⟨x0, x1, x2, _, _, _⟩ := six_s e5
  clear e2 e3 e5
  go_wp2
  exact bodyPost_ret (v := .agg #[.int .i64 2, .slice none 0 0, .slice none 0 0]) (by simp [results, Tryz.results19, go_sem, r0, r1, r2]) rfl (beh_top HLO.out (by omega) HT.out _ _ _)
theorem beh_any {fns : List Fn} {f : Fn} {p : Nat} {s : Sh} {w : World} {cv fv sv : Value} (h1 : FnsRow w cv fns) (h2 : FnV w fv f) (h3 : ShV w sv s) (hF : ∀ g ∈ fns, FnR fns g) (hf : FnR fns f) (hp : p < f.ins.length) (hs : OkSh f.S s) (h0 : ¬ s.st = 0) :
    Calls Tryz.prog 19 #[.agg #[cv], fv, .int .i64 p, sv] w (BehEnd fns f p s w) := by
  obtain ⟨pv, iv, rfl, r1, r2⟩ := h2
  obtain ⟨x, y, rfl, r3, r4⟩ := h3
  have hsl := hf.slots
  rcases ok_st hs with h | h | h
  · exact absurd h h0
  · have q := ok_known hs h
    obtain ⟨st, sl, sk⟩ := s
    dsimp only at h q r3 r4 ⊢
    subst h
    exact beh_1 h1 r1 r2 r3 r4 hF hf hp (by rw [q.1]; unfold Fn.S; omega) q.2.2.1 q.2.2.2
  · have := beh_2 h1 r1 r2 r3 r4 hp h
    rw [h]
    exact this
end Go.Proofs.YteeiblhjjeognaaGreatDoor.C
/-! What the program's shaper reads: the tables and itself. -/
namespace Go.Proofs.YteeiblhjjeognaaGreatDoor.C
open Go.RowKit
set_option maxRecDepth 20000
/-- A row of numbers that lies anywhere. -/
def PartA (W : World) (v : Value) (l : List Int) : Prop := ∃ (ad : Option Addr) (c : Nat), v = .slice ad l.length c ∧ (l = [] ∨ ∃ ka : Addr, ad = some ka ∧ ka.block < W.heap.size ∧ ∀ i, i < l.length → W.cell? (ka.add i) = some (.int .i64 (l.getD i 0)))
theorem add_block (a : Addr) (i : Nat) : (a.add i).block = a.block := by
  unfold Addr.add
  split <;> rfl
theorem PartA.next {W V : World} {v : Value} {l : List Int} (h : PartA W v l) (hb : Below W.heap.size W V) : PartA V v l := by
  obtain ⟨ad, c, e, h1⟩ := h
  refine ⟨ad, c, e, ?_⟩
  rcases h1 with h1 | ⟨ka, e1, e2, e3⟩
  · exact .inl h1
  · exact .inr ⟨ka, e1, Nat.lt_of_lt_of_le e2 hb.size, fun i hi => (hb.cell (p := ka.add i) (by rw [add_block]; exact e2)).trans (e3 i hi)⟩
theorem PartA.sl {W : World} {v : Value} {l : List Int} (h : PartA W v l) : ∃ ad c, v = .slice ad l.length c := by
  obtain ⟨ad, c, e, _⟩ := h
  exact ⟨ad, c, e⟩
theorem PartA.at {W : World} {v : Value} {l : List Int} (h : PartA W v l) {i : Nat} (hi : i < l.length) : ∃ ka c, v = .slice (some ka) l.length c ∧ W.cell? (ka.add i) = some (.int .i64 (l.getD i 0)) := by
  obtain ⟨ad, c, e, h1⟩ := h
  rcases h1 with h1 | ⟨ka, e1, e2, e3⟩
  · rw [h1] at hi; exact absurd hi (Nat.not_lt_zero _)
  · subst e1
    exact ⟨ka, c, e, e3 i hi⟩
/-- The table of instructions: what each takes, and what it puts. -/
def takesT (o : Nat) : List Int := if o = 3 ∨ o = 4 ∨ o = 5 then [-2] else if o = 6 then [-2, -2] else if o = 7 then [-1] else if o = 11 then [1] else if o = 13 ∨ o = 15 then [2] else if o = 14 then [2, 2] else []
def putsT (o : Nat) : Int := if o = 1 ∨ o = 7 then 1 else if o = 2 then 2 else if o = 5 then 3 else if o = 6 then 4 else if o = 8 then 5 else if o = 9 then 6 else 0
def useT (o : Nat) : Int := if o = 1 then 1 else if o = 2 ∨ o = 3 then 2 else if o = 5 then 3 else if o = 6 then 4 else if o = 7 then 5 else if o = 8 then 6 else if o = 9 then 7 else if o = 10 ∨ o = 11 then 8 else if o = 12 then 9 else 0
structure EnvI (W : World) : Prop where
  lt1 : 1 < W.heap.size
  lt2 : 2 < W.heap.size
  rows : ∀ o : Nat, 1 ≤ o → o ≤ 16 → ∃ v, W.cell? ⟨1, o * 3, none⟩ = some (.int .i64 (useT o)) ∧ W.cell? ⟨1, o * 3 + 1, none⟩ = some v ∧ W.cell? ⟨1, o * 3 + 2, none⟩ = some (.int .i64 (putsT o)) ∧ PartA W v (takesT o)
  signs : ∀ k : Nat, 1 ≤ k → k ≤ 12 → ∃ v, W.cell? ⟨2, k * 2, none⟩ = some v ∧ W.cell? ⟨2, k * 2 + 1, none⟩ = some (.int .i64 (sig k).2) ∧ PartA W v (sig k).1
theorem EnvI.next {W V : World} (h : EnvI W) (hb : Below W.heap.size W V) : EnvI V := by
  refine ⟨Nat.lt_of_lt_of_le h.lt1 hb.size, Nat.lt_of_lt_of_le h.lt2 hb.size, fun o h1 h2 => ?_, fun k h1 h2 => ?_⟩
  · obtain ⟨v, a, b, c, d⟩ := h.rows o h1 h2
    exact ⟨v, (hb.cell (p := ⟨1, _, none⟩) h.lt1).trans a, (hb.cell (p := ⟨1, _, none⟩) h.lt1).trans b, (hb.cell (p := ⟨1, _, none⟩) h.lt1).trans c, d.next hb⟩
  · obtain ⟨v, a, b, c⟩ := h.signs k h1 h2
    exact ⟨v, (hb.cell (p := ⟨2, _, none⟩) h.lt2).trans a, (hb.cell (p := ⟨2, _, none⟩) h.lt2).trans b, c.next hb⟩
/-- The shaper in its block. -/
structure MS (fns : List Fn) (f : Fn) (b : Nat) (cv pv iv xv wv : Value) (W : World) : Prop where
  e : W.heap[b]? = some (.cells #[cv, .string f.name, pv, .int .i64 f.result, .int .i64 f.slots, iv, xv, wv] 60)
  fr : FnsRow W cv fns
  pr : IntRow W pv f.params
  ir : InsRow W iv f.ins
theorem MS.next {fns : List Fn} {f : Fn} {b : Nat} {cv pv iv xv wv : Value} {W V : World} (h : MS fns f b cv pv iv xv wv W) (hb : Below W.heap.size W V) : MS fns f b cv pv iv xv wv V := ⟨hp_next h.e hb, h.fr.next hb, h.pr.next hb, h.ir.next hb⟩
theorem MS.lt {fns : List Fn} {f : Fn} {b : Nat} {cv pv iv xv wv : Value} {W : World} (h : MS fns f b cv pv iv xv wv W) : b < W.heap.size := lt_hp h.e
theorem mx {fns : List Fn} {f : Fn} {b : Nat} {cv pv iv xv wv : Value} {W : World} (h : MS fns f b cv pv iv xv wv W) :
    W.cell? ⟨b, 0, none⟩ = some cv ∧ W.cell? ⟨b, 1, none⟩ = some (.string f.name) ∧ W.cell? ⟨b, 2, none⟩ = some pv ∧ W.cell? ⟨b, 3, none⟩ = some (.int .i64 f.result) ∧ W.cell? ⟨b, 4, none⟩ = some (.int .i64 f.slots) ∧ W.cell? ⟨b, 5, none⟩ = some iv ∧ W.cell? ⟨b, 6, none⟩ = some xv ∧ W.cell? ⟨b, 7, none⟩ = some wv := by
  have e := h.e
  refine ⟨?_, ?_, ?_, ?_, ?_, ?_, ?_, ?_⟩ <;> simp [World.cell?, e]
theorem takesN_T {fns : List Fn} {i : In} {o : Nat} (ho : i.op = o) (h8 : ¬ o = 8) (h9 : ¬ o = 9) (h12 : ¬ o = 12) (h1 : 1 ≤ o) (h16 : o ≤ 16) : takesN fns i = (takesT o).length := by
  unfold takesN
  rw [ho]
  obtain rfl | rfl | rfl | rfl | rfl | rfl | rfl | rfl | rfl | rfl | rfl | rfl | rfl : o = 1 ∨ o = 2 ∨ o = 3 ∨ o = 4 ∨ o = 5 ∨ o = 6 ∨ o = 7 ∨ o = 10 ∨ o = 11 ∨ o = 13 ∨ o = 14 ∨ o = 15 ∨ o = 16 := by omega
  all_goals rfl
theorem ibox_new (w : World) (i : In) : (w.alloc (ibox i)).heap[w.heap.size]? = some (ibox i) := heap_alloc_new _ _
set_option maxHeartbeats 2000000 in
theorem takenBy_any {fns : List Fn} {f : Fn} {b : Nat} {cv pv iv xv wv : Value} {w : World} (hM : MS fns f b cv pv iv xv wv w) (hE : EnvI w) {i : In} (hi : InsR fns f i) :
    Calls Tryz.prog 106 #[.pointer (some ⟨b, 0, none⟩), inV i] w fun e w' => e = .returned (.int .i64 (takesN fns i : Nat)) ∧ Below w.heap.size w w' := by
  have HLO : Hid (Below w.heap.size w (w.alloc (ibox i))) := hid ((Below.refl _ _).alloc (Nat.le_refl _) _)
  have HM := hid (hM.next HLO.out)
  have HE := hid (hE.next HLO.out)
  have HI := hid hi
  obtain ⟨j0, j1, j2, j3⟩ := ix (ibox_new w i)
  obtain ⟨m0, m1, m2, m3, m4, m5, m6, m7⟩ := mx HM.out
  obtain ⟨op, a, n, tx⟩ := i
  have hop := hi.op
  dsimp only at hop j0 j1 j2 j3
  clear hM hE hi
  unfold inV
  dsimp only
  go_enter Tryz.func106, Tryz.ntmps106
  go_upto_region 1 with fail
  obtain ⟨W1, hW1⟩ : ∃ W, w.alloc (ibox ⟨op, a, n, tx⟩) = W := ⟨_, rfl⟩
  rw [hW1] at HLO HM HE j0 j1 j2 j3 m0 m1 m2 m3 m4 m5 m6 m7
  unfold ibox at hW1
  rw [hW1]
  clear hW1
  by_cases h8 : op = 8
  · subst h8
    have hb := HI.out.built rfl
    dsimp only at hb
    obtain ⟨k, rfl⟩ : ∃ k : Nat, a = k := ⟨a.toNat, by omega⟩
    have HN : Hid (takesN fns ⟨8, (k : Int), n, tx⟩ = (sig k).1.length) := hid (by simp [takesN])
    obtain ⟨v, s0, s1, s2⟩ := HE.out.signs k (by omega) (by omega)
    obtain ⟨ad, c, rfl⟩ := s2.sl
    have hki : (k : Int) < 13 := by omega
    have hkn : k < 13 := by omega
    clear hb s2
    go_wp2_with fail
    go_ret
    exact ⟨by rw [HN.out]; rfl, HLO.out⟩
  · have e8 : (op == 8) = false := by simpa using h8
    by_cases h9 : op = 9
    · subst h9
      have hb := HI.out.call rfl
      dsimp only at hb
      obtain ⟨k, rfl⟩ : ∃ k : Nat, a = k := ⟨a.toNat, by omega⟩
      have hk : k < fns.length := by omega
      have HN : Hid (takesN fns ⟨9, (k : Int), n, tx⟩ = (fns.getD k fn0).params.length) := hid (by simp [takesN])
      obtain ⟨gF, cF2, hcv, hgF, pv2, iv2, n0, n1, n2, n3, n4, hpv, _⟩ := HM.out.fr.at hk
      obtain ⟨aP, cP, rfl⟩ := hpv.sl
      rw [hcv] at m0
      have hki : (k : Int) < (fns.length : Int) := by omega
      obtain ⟨L, hL⟩ : ∃ L, (fns.getD k fn0).params.length = L := ⟨_, rfl⟩
      rw [hL] at n1 HN
      clear hb hpv hL n0 n2 n3 n4 h8 hcv
      go_wp2_with fail
      go_quiet (fail)
      go_wp2
      go_ret
      exact ⟨by rw [HN.out]; rfl, below_drewN HLO.out _⟩
    · have e9 : (op == 9) = false := by simpa using h9
      by_cases h12 : op = 12
      · subst h12
        have hb := HI.out.ret rfl
        dsimp only at hb
        obtain ⟨k, rfl⟩ : ∃ k : Nat, a = k := ⟨a.toNat, by omega⟩
        have HN : Hid (takesN fns ⟨12, (k : Int), n, tx⟩ = k) := hid (by simp [takesN])
        clear hb
        go_wp2_with fail
        go_ret
        exact ⟨by rw [HN.out]; rfl, HLO.out⟩
      · have e12 : (op == 12) = false := by simpa using h12
        obtain ⟨o, rfl⟩ : ∃ o : Nat, op = o := ⟨op.toNat, by omega⟩
        have ho1 : 1 ≤ o := by omega
        have ho2 : o ≤ 16 := by omega
        have HN := hid (takesN_T (fns := fns) (i := ⟨(o : Int), a, n, tx⟩) (o := o) rfl (by omega) (by omega) (by omega) ho1 ho2)
        obtain ⟨v, s0, s1, s2, s3⟩ := HE.out.rows o ho1 ho2
        obtain ⟨ad, c, rfl⟩ := s3.sl
        have hoi : (o : Int) < 17 := by omega
        have hon : o < 17 := by omega
        clear h8 h9 h12 s0 s2 s3
        go_wp2_with fail
        go_ret
        exact ⟨by rw [HN.out]; rfl, HLO.out⟩
end Go.Proofs.YteeiblhjjeognaaGreatDoor.C
