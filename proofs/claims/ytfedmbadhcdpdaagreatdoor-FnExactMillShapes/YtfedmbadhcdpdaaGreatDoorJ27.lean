import Derived.OwnWalk
import Derived.Test.YtfedmbadhcdpdaaGreatDoorJ19
import Derived.Test.YtfedmbadhcdpdaaGreatDoorJ16
import Derived.Test.YtfedmbadhcdpdaaGreatDoorJ20
/-! What the program's shaper reads: the tables and itself. -/
namespace Go.Proofs.YtfedmbadhcdpdaaGreatDoor.C
open Go.RowKit
set_option maxRecDepth 20000
/-- A row of numbers that lies anywhere. -/
def PartA (W : World) (v : Value) (l : List Int) : Prop := ∃ (ad : Option Addr) (c : Nat), v = .slice ad l.length c ∧ (l = [] ∨ ∃ ka : Addr, ad = some ka ∧ ka.block < W.heap.size ∧ ∀ i, i < l.length → W.cell? (ka.add i) = some (.int .i64 (l.getD i 0)))
theorem add_block (a : Addr) (i : Nat) : (a.add i).block = a.block := by
  unfold Addr.add
  split <;> rfl
theorem PartA.next {W V : World} {v : Value} {l : List Int} (h : PartA W v l) (hb : Below W.heap.size W V) : PartA V v l := by
  obtain ⟨ad, c, e, h1⟩ := h
  refine ⟨ad, c, e, ?_⟩
  rcases h1 with h1 | ⟨ka, e1, e2, e3⟩
  · exact .inl h1
  · exact .inr ⟨ka, e1, Nat.lt_of_lt_of_le e2 hb.size, fun i hi => (hb.cell (p := ka.add i) (by rw [add_block]; exact e2)).trans (e3 i hi)⟩
theorem PartA.sl {W : World} {v : Value} {l : List Int} (h : PartA W v l) : ∃ ad c, v = .slice ad l.length c := by
  obtain ⟨ad, c, e, _⟩ := h
  exact ⟨ad, c, e⟩
theorem PartA.at {W : World} {v : Value} {l : List Int} (h : PartA W v l) {i : Nat} (hi : i < l.length) : ∃ ka c, v = .slice (some ka) l.length c ∧ W.cell? (ka.add i) = some (.int .i64 (l.getD i 0)) := by
  obtain ⟨ad, c, e, h1⟩ := h
  rcases h1 with h1 | ⟨ka, e1, e2, e3⟩
  · rw [h1] at hi; exact absurd hi (Nat.not_lt_zero _)
  · subst e1
    exact ⟨ka, c, e, e3 i hi⟩
/-- The table of instructions: what each takes, and what it puts. -/
def takesT (o : Nat) : List Int := if o = 3 ∨ o = 4 ∨ o = 5 then [-2] else if o = 6 then [-2, -2] else if o = 7 then [-1] else if o = 11 then [1] else if o = 13 ∨ o = 15 then [2] else if o = 14 then [2, 2] else []
def putsT (o : Nat) : Int := if o = 1 ∨ o = 7 then 1 else if o = 2 then 2 else if o = 5 then 3 else if o = 6 then 4 else if o = 8 then 5 else if o = 9 then 6 else 0
def useT (o : Nat) : Int := if o = 1 then 1 else if o = 2 ∨ o = 3 then 2 else if o = 5 then 3 else if o = 6 then 4 else if o = 7 then 5 else if o = 8 then 6 else if o = 9 then 7 else if o = 10 ∨ o = 11 then 8 else if o = 12 then 9 else 0
structure EnvI (W : World) : Prop where
  lt1 : 1 < W.heap.size
  lt2 : 2 < W.heap.size
  rows : ∀ o : Nat, 1 ≤ o → o ≤ 16 → ∃ v, W.cell? ⟨1, o * 3, none⟩ = some (.int .i64 (useT o)) ∧ W.cell? ⟨1, o * 3 + 1, none⟩ = some v ∧ W.cell? ⟨1, o * 3 + 2, none⟩ = some (.int .i64 (putsT o)) ∧ PartA W v (takesT o)
  signs : ∀ k : Nat, 1 ≤ k → k ≤ 12 → ∃ v, W.cell? ⟨2, k * 2, none⟩ = some v ∧ W.cell? ⟨2, k * 2 + 1, none⟩ = some (.int .i64 (sig k).2) ∧ PartA W v (sig k).1
theorem EnvI.next {W V : World} (h : EnvI W) (hb : Below W.heap.size W V) : EnvI V := by
  refine ⟨Nat.lt_of_lt_of_le h.lt1 hb.size, Nat.lt_of_lt_of_le h.lt2 hb.size, fun o h1 h2 => ?_, fun k h1 h2 => ?_⟩
  · obtain ⟨v, a, b, c, d⟩ := h.rows o h1 h2
    exact ⟨v, (hb.cell (p := ⟨1, _, none⟩) h.lt1).trans a, (hb.cell (p := ⟨1, _, none⟩) h.lt1).trans b, (hb.cell (p := ⟨1, _, none⟩) h.lt1).trans c, d.next hb⟩
  · obtain ⟨v, a, b, c⟩ := h.signs k h1 h2
    exact ⟨v, (hb.cell (p := ⟨2, _, none⟩) h.lt2).trans a, (hb.cell (p := ⟨2, _, none⟩) h.lt2).trans b, c.next hb⟩
/-- The shaper in its block. -/
structure MS (fns : List Fn) (f : Fn) (b : Nat) (cv pv iv xv wv : Value) (W : World) : Prop where
  e : W.heap[b]? = some (.cells #[cv, .string f.name, pv, .int .i64 f.result, .int .i64 f.slots, iv, xv, wv] 60)
  fr : FnsRow W cv fns
  pr : IntRow W pv f.params
  ir : InsRow W iv f.ins
theorem MS.next {fns : List Fn} {f : Fn} {b : Nat} {cv pv iv xv wv : Value} {W V : World} (h : MS fns f b cv pv iv xv wv W) (hb : Below W.heap.size W V) : MS fns f b cv pv iv xv wv V := ⟨hp_next h.e hb, h.fr.next hb, h.pr.next hb, h.ir.next hb⟩
theorem MS.lt {fns : List Fn} {f : Fn} {b : Nat} {cv pv iv xv wv : Value} {W : World} (h : MS fns f b cv pv iv xv wv W) : b < W.heap.size := lt_hp h.e
theorem mx {fns : List Fn} {f : Fn} {b : Nat} {cv pv iv xv wv : Value} {W : World} (h : MS fns f b cv pv iv xv wv W) :
    W.cell? ⟨b, 0, none⟩ = some cv ∧ W.cell? ⟨b, 1, none⟩ = some (.string f.name) ∧ W.cell? ⟨b, 2, none⟩ = some pv ∧ W.cell? ⟨b, 3, none⟩ = some (.int .i64 f.result) ∧ W.cell? ⟨b, 4, none⟩ = some (.int .i64 f.slots) ∧ W.cell? ⟨b, 5, none⟩ = some iv ∧ W.cell? ⟨b, 6, none⟩ = some xv ∧ W.cell? ⟨b, 7, none⟩ = some wv := by
  have e := h.e
  refine ⟨?_, ?_, ?_, ?_, ?_, ?_, ?_, ?_⟩ <;> simp [World.cell?, e]
theorem takesN_T {fns : List Fn} {i : In} {o : Nat} (ho : i.op = o) (h8 : ¬ o = 8) (h9 : ¬ o = 9) (h12 : ¬ o = 12) (h1 : 1 ≤ o) (h16 : o ≤ 16) : takesN fns i = (takesT o).length := by
  unfold takesN
  rw [ho]
  obtain rfl | rfl | rfl | rfl | rfl | rfl | rfl | rfl | rfl | rfl | rfl | rfl | rfl : o = 1 ∨ o = 2 ∨ o = 3 ∨ o = 4 ∨ o = 5 ∨ o = 6 ∨ o = 7 ∨ o = 10 ∨ o = 11 ∨ o = 13 ∨ o = 14 ∨ o = 15 ∨ o = 16 := by omega
  all_goals rfl
theorem ibox_new (w : World) (i : In) : (w.alloc (ibox i)).heap[w.heap.size]? = some (ibox i) := heap_alloc_new _ _
set_option maxHeartbeats 2000000 in
theorem takenBy_any {fns : List Fn} {f : Fn} {b : Nat} {cv pv iv xv wv : Value} {w : World} (hM : MS fns f b cv pv iv xv wv w) (hE : EnvI w) {i : In} (hi : InsR fns f i) :
    Calls Tryz.prog 106 #[.pointer (some ⟨b, 0, none⟩), inV i] w fun e w' => e = .returned (.int .i64 (takesN fns i : Nat)) ∧ Below w.heap.size w w' := by
  have HLO : Hid (Below w.heap.size w (w.alloc (ibox i))) := hid ((Below.refl _ _).alloc (Nat.le_refl _) _)
  have HM := hid (hM.next HLO.out)
  have HE := hid (hE.next HLO.out)
  have HI := hid hi
  obtain ⟨j0, j1, j2, j3⟩ := ix (ibox_new w i)
  obtain ⟨m0, m1, m2, m3, m4, m5, m6, m7⟩ := mx HM.out
  obtain ⟨op, a, n, tx⟩ := i
  have hop := hi.op
  dsimp only at hop j0 j1 j2 j3
  clear hM hE hi
  unfold inV
  dsimp only
  go_enter Tryz.func106, Tryz.ntmps106
  go_upto_region 1 with fail
  obtain ⟨W1, hW1⟩ : ∃ W, w.alloc (ibox ⟨op, a, n, tx⟩) = W := ⟨_, rfl⟩
  rw [hW1] at HLO HM HE j0 j1 j2 j3 m0 m1 m2 m3 m4 m5 m6 m7
  unfold ibox at hW1
  rw [hW1]
  clear hW1
  by_cases h8 : op = 8
  · subst h8
    have hb := HI.out.built rfl
    dsimp only at hb
    obtain ⟨k, rfl⟩ : ∃ k : Nat, a = k := ⟨a.toNat, by omega⟩
    have HN : Hid (takesN fns ⟨8, (k : Int), n, tx⟩ = (sig k).1.length) := hid (by simp [takesN])
    obtain ⟨v, s0, s1, s2⟩ := HE.out.signs k (by omega) (by omega)
    obtain ⟨ad, c, rfl⟩ := s2.sl
    have hki : (k : Int) < 13 := by omega
    have hkn : k < 13 := by omega
    clear hb s2
    go_wp2_with fail
    go_ret
    exact ⟨by rw [HN.out]; rfl, HLO.out⟩
  · have e8 : (op == 8) = false := by simpa using h8
    by_cases h9 : op = 9
    · subst h9
      have hb := HI.out.call rfl
      dsimp only at hb
      obtain ⟨k, rfl⟩ : ∃ k : Nat, a = k := ⟨a.toNat, by omega⟩
      have hk : k < fns.length := by omega
      have HN : Hid (takesN fns ⟨9, (k : Int), n, tx⟩ = (fns.getD k fn0).params.length) := hid (by simp [takesN])
      obtain ⟨gF, cF2, hcv, hgF, pv2, iv2, n0, n1, n2, n3, n4, hpv, _⟩ := HM.out.fr.at hk
      obtain ⟨aP, cP, rfl⟩ := hpv.sl
      rw [hcv] at m0
      have hki : (k : Int) < (fns.length : Int) := by omega
      obtain ⟨L, hL⟩ : ∃ L, (fns.getD k fn0).params.length = L := ⟨_, rfl⟩
      rw [hL] at n1 HN
      clear hb hpv hL n0 n2 n3 n4 h8 hcv
      go_wp2_with fail
      go_quiet (fail)
      go_wp2
      go_ret
      exact ⟨by rw [HN.out]; rfl, below_drewN HLO.out _⟩
    · have e9 : (op == 9) = false := by simpa using h9
      by_cases h12 : op = 12
      · subst h12
        have hb := HI.out.ret rfl
        dsimp only at hb
        obtain ⟨k, rfl⟩ : ∃ k : Nat, a = k := ⟨a.toNat, by omega⟩
        have HN : Hid (takesN fns ⟨12, (k : Int), n, tx⟩ = k) := hid (by simp [takesN])
        clear hb
        go_wp2_with fail
        go_ret
        exact ⟨by rw [HN.out]; rfl, HLO.out⟩
      · have e12 : (op == 12) = false := by simpa using h12
        obtain ⟨o, rfl⟩ : ∃ o : Nat, op = o := ⟨op.toNat, by omega⟩
        have ho1 : 1 ≤ o := by omega
        have ho2 : o ≤ 16 := by omega
        have HN := hid (takesN_T (fns := fns) (i := ⟨(o : Int), a, n, tx⟩) (o := o) rfl (by omega) (by omega) (by omega) ho1 ho2)
        obtain ⟨v, s0, s1, s2, s3⟩ := HE.out.rows o ho1 ho2
        obtain ⟨ad, c, rfl⟩ := s3.sl
        have hoi : (o : Int) < 17 := by omega
        have hon : o < 17 := by omega
        clear h8 h9 h12 s0 s2 s3
        go_wp2_with fail
        go_ret
        exact ⟨by rw [HN.out]; rfl, HLO.out⟩
end Go.Proofs.YtfedmbadhcdpdaaGreatDoor.C
/-! Where a place goes on, in the program. -/
namespace Go.Proofs.YtfedmbadhcdpdaaGreatDoor.C
open Go.RowKit
set_option maxRecDepth 20000
/-- Where it goes on, in a row that is new. -/
def AftEnd (i : In) (p : Nat) (w : World) (e : Ending) (w' : World) : Prop := ∃ v, e = .returned v ∧ IntRow w' v (nums (goes i p)) ∧ Below w.heap.size w w' ∧ (nums (goes i p) = [] ∨ ∃ g c, v = .slice (some ⟨g, 0, none⟩) (nums (goes i p)).length c ∧ w.heap.size ≤ g)
theorem after_lit {i : In} {p : Nat} {w W : World} (lo : Below w.heap.size w W) (l : List Int) (hl : l.length ≤ 2) (h : nums (goes i p) = l) : AftEnd i p w (.returned (.slice (some ⟨W.heap.size, 0, none⟩) l.length l.length)) (W.alloc (.cells (l.map fun x => Value.int .i64 x).toArray 3)) := by
  refine ⟨_, rfl, ?_, ?_, ?_⟩
  · rw [h]
    exact IntRow.lit _ l (by omega)
  · exact lo.alloc lo.size _
  · rw [h]
    exact .inr ⟨_, _, rfl, lo.size⟩
set_option maxHeartbeats 2000000 in
theorem after_fresh {fns : List Fn} {f : Fn} {b : Nat} {cv pv iv xv wv : Value} {w : World} (hM : MS fns f b cv pv iv xv wv w) {p : Nat} (hp : p < f.ins.length) (hp2 : p ≤ 100000) (hR : InsR fns f (f.ins.getD p in0)) :
    Calls Tryz.prog 90 #[.pointer (some ⟨b, 0, none⟩), .int .i64 p] w (AftEnd (f.ins.getD p in0) p w) := by
  obtain ⟨m0, m1, m2, m3, m4, m5, m6, m7⟩ := mx hM
  obtain ⟨gI, cI, rfl, hgI, hcI⟩ := hM.ir.at hp
  obtain ⟨d0, d1, d2, d3⟩ := hcI p hp
  obtain ⟨i, hi⟩ : ∃ i, f.ins.getD p in0 = i := ⟨_, rfl⟩
  rw [hi] at d0 d1 d2 d3 hR ⊢
  have hop := hR.op
  have ha := hR.place
  have hpi : (p : Int) < (f.ins.length : Int) := by omega
  have hw : IntKind.i64.wrap ((p : Int) + 1) = ((p + 1 : Nat) : Int) := by rw [IntKind.wrap_i64]; omega
  have HLO : Hid (Below w.heap.size w (w.alloc (ibox i))) := hid ((Below.refl _ _).alloc (Nat.le_refl _) _)
  obtain ⟨j0, j1, j2, j3⟩ := ix (ibox_new w i)
  clear hM hcI hR hi
  go_enter Tryz.func90, Tryz.ntmps90
  go_upto_region 2 with fail
  obtain ⟨W1, hW1⟩ : ∃ W, w.alloc (ibox i) = W := ⟨_, rfl⟩
  rw [hW1] at HLO j0 j1 j2 j3
  unfold ibox at hW1
  rw [hW1]
  clear hW1 d0 d1 d2 d3 m0 m1 m2 m3 m4 m5 m6 m7
  by_cases h12 : i.op = 12 ∨ i.op = 13
  · have HG : Hid (nums (goes i p) = []) := hid (by simp [goes, nums, h12])
    rcases h12 with h | h
    all_goals
      rw [h] at j0
      clear h hop ha
      go_wp2_with fail
      go_ret
      exact ⟨_, rfl, by rw [HG.out]; exact IntRow.nil _, HLO.out, .inl HG.out⟩
  · have e12 : (i.op == 12) = false := by simp; omega
    have e13 : (i.op == 13) = false := by simp; omega
    by_cases h10 : i.op = 10
    · obtain ⟨m, hm⟩ : ∃ m : Nat, i.a = m := ⟨i.a.toNat, by have := ha (.inl h10); omega⟩
      have HG : Hid (nums (goes i p) = [(m : Int)]) := hid (by simp [goes, nums, h10, hm])
      rw [h10] at j0
      rw [hm] at j1
      clear h12 h10 hop ha hm
      go_wp2_with fail
      go_ret
      have := after_lit HLO.out [(m : Int)] (by simp) HG.out
      simpa using this
    · have e10 : (i.op == 10) = false := by simpa using h10
      by_cases h11 : i.op = 11
      · obtain ⟨m, hm⟩ : ∃ m : Nat, i.a = m := ⟨i.a.toNat, by have := ha (.inr h11); omega⟩
        have HG : Hid (nums (goes i p) = [(m : Int), ((p + 1 : Nat) : Int)]) := hid (by simp [goes, nums, h11, hm])
        rw [h11] at j0
        rw [hm] at j1
        clear h12 h10 h11 hop ha hm
        go_wp2_with fail
        go_ret
        have := after_lit HLO.out [(m : Int), ((p + 1 : Nat) : Int)] (by simp) HG.out
        simpa using this
      · have e11 : (i.op == 11) = false := by simpa using h11
        have HG : Hid (nums (goes i p) = [((p + 1 : Nat) : Int)]) := hid (by simp [goes, nums, h12, h10, h11])
        clear h12 h10 h11 hop ha
        go_wp2_with fail
        go_ret
        have := after_lit HLO.out [((p + 1 : Nat) : Int)] (by simp) HG.out
        simpa using this
theorem after_any {fns : List Fn} {f : Fn} {b : Nat} {cv pv iv xv wv : Value} {w : World} (hM : MS fns f b cv pv iv xv wv w) {p : Nat} (hp : p < f.ins.length) (hp2 : p ≤ 100000) (hR : InsR fns f (f.ins.getD p in0)) :
    Calls Tryz.prog 90 #[.pointer (some ⟨b, 0, none⟩), .int .i64 p] w (GoesEnd (f.ins.getD p in0) p w) := by
  refine (after_fresh hM hp hp2 hR).mono ?_
  rintro e w' ⟨v, h1, h2, h3, _⟩
  exact ⟨v, h1, h2, h3⟩
end Go.Proofs.YtfedmbadhcdpdaaGreatDoor.C
/-! What an instruction takes, in the program. -/
namespace Go.Proofs.YtfedmbadhcdpdaaGreatDoor.C
open Go.RowKit
set_option maxRecDepth 20000
def tkB (fns : List Fn) (f : Fn) (i : In) (at_ : Nat) (k : Int) : Bool :=
  if i.op = 8 then fitK ((sig i.a).1.getD at_ 0) k else if i.op = 9 then decide ((fns.getD i.a.toNat fn0).params.getD at_ 0 = k) else if i.op = 12 then decide (f.result = k) else decide ((takesT i.op.toNat).getD at_ 0 = -2) || fitK ((takesT i.op.toNat).getD at_ 0) k
set_option maxHeartbeats 2000000 in
theorem takes_any {fns : List Fn} {f : Fn} {b : Nat} {cv pv iv xv wv : Value} {w : World} (hM : MS fns f b cv pv iv xv wv w) (hE : EnvI w) {i : In} (hi : InsR fns f i) {z : Nat} {k : Int} (hz : z < takesN fns i) :
    Calls Tryz.prog 108 #[.pointer (some ⟨b, 0, none⟩), inV i, .int .i64 z, .int .i64 k] w fun e w' => e = .returned (.bool (tkB fns f i z k)) ∧ Below w.heap.size w w' := by
  have HLO : Hid (Below w.heap.size w (w.alloc (ibox i))) := hid ((Below.refl _ _).alloc (Nat.le_refl _) _)
  have HM := hid (hM.next HLO.out)
  have HE := hid (hE.next HLO.out)
  have HI := hid hi
  have HZ := hid hz
  obtain ⟨j0, j1, j2, j3⟩ := ix (ibox_new w i)
  obtain ⟨m0, m1, m2, m3, m4, m5, m6, m7⟩ := mx HM.out
  obtain ⟨op, a, n, tx⟩ := i
  have hop := hi.op
  dsimp only at hop j0 j1 j2 j3
  clear hM hE hi hz
  unfold inV
  dsimp only
  go_enter Tryz.func108, Tryz.ntmps108
  go_upto_region 1 with fail
  obtain ⟨W1, hW1⟩ : ∃ W, w.alloc (ibox ⟨op, a, n, tx⟩) = W := ⟨_, rfl⟩
  rw [hW1] at HLO HM HE j0 j1 j2 j3 m0 m1 m2 m3 m4 m5 m6 m7
  unfold ibox at hW1
  rw [hW1]
  clear hW1
  by_cases h8 : op = 8
  · subst h8
    have hb := HI.out.built rfl
    dsimp only at hb
    obtain ⟨q, rfl⟩ : ∃ q : Nat, a = q := ⟨a.toNat, by omega⟩
    have hz9 : z < (sig q).1.length := by have := HZ.out; simpa [takesN] using this
    have HV : Hid (tkB fns f ⟨8, (q : Int), n, tx⟩ z k = fitK ((sig q).1.getD z 0) k) := hid (by simp [tkB])
    obtain ⟨v, s0, s1, s2⟩ := HE.out.signs q (by omega) (by omega)
    obtain ⟨ka, c, rfl, hc⟩ := s2.at hz9
    have hki : (q : Int) < 13 := by omega
    have hkn : q < 13 := by omega
    have hzi : (z : Int) < ((sig q).1.length : Int) := by omega
    obtain ⟨y, hy⟩ : ∃ y, (sig q).1.getD z 0 = y := ⟨_, rfl⟩
    rw [hy] at hc HV
    obtain ⟨L, hL⟩ : ∃ L, (sig (q : Int)).1.length = L := ⟨_, rfl⟩
    rw [hL] at s0 hz9 hzi
    clear hb s2 hy hL
    go_wp2_with (go_at_call 126; refine (kindFits_any _ _ _).mono ?_; rintro e w' ⟨rfl, hw⟩; have hw2 := hw.symm; clear hw; subst hw2)
    go_ret
    exact ⟨ret_bool (by rw [HV.out]), HLO.out⟩
  · have e8 : (op == 8) = false := by simpa using h8
    by_cases h9 : op = 9
    · subst h9
      have hb := HI.out.call rfl
      dsimp only at hb
      obtain ⟨q, rfl⟩ : ∃ q : Nat, a = q := ⟨a.toNat, by omega⟩
      have hk : q < fns.length := by omega
      have hz9 : z < (fns.getD q fn0).params.length := by have := HZ.out; simpa [takesN] using this
      have HV : Hid (tkB fns f ⟨9, (q : Int), n, tx⟩ z k = decide ((fns.getD q fn0).params.getD z 0 = k)) := hid (by simp [tkB])
      obtain ⟨gF, cF2, hcv, hgF, pv2, iv2, n0, n1, n2, n3, n4, hpv, _⟩ := HM.out.fr.at hk
      obtain ⟨gP, cP, rfl, _, _, _, hcP⟩ := hpv.at hz9
      have kP := hcP z hz9
      rw [hcv] at m0
      have hki : (q : Int) < (fns.length : Int) := by omega
      obtain ⟨y, hy⟩ : ∃ y, (fns.getD q fn0).params.getD z 0 = y := ⟨_, rfl⟩
      rw [hy] at kP HV
      obtain ⟨L, hL⟩ : ∃ L, (fns.getD q fn0).params.length = L := ⟨_, rfl⟩
      rw [hL] at n1 hz9
      have hzi : (z : Int) < (L : Int) := by omega
      clear hb hpv hL hy n0 n2 n3 n4 h8 hcv hcP
      go_wp2_with fail
      go_quiet (fail)
      go_wp2
      go_ret
      exact ⟨ret_bool (by rw [HV.out]; rfl), below_drewN HLO.out _⟩
    · have e9 : (op == 9) = false := by simpa using h9
      by_cases h12 : op = 12
      · subst h12
        have HV : Hid (tkB fns f ⟨12, a, n, tx⟩ z k = decide (f.result = k)) := hid (by simp [tkB])
        clear h8 h9
        go_wp2_with fail
        go_ret
        exact ⟨ret_bool (by rw [HV.out]; rfl), HLO.out⟩
      · have e12 : (op == 12) = false := by simpa using h12
        obtain ⟨o, rfl⟩ : ∃ o : Nat, op = o := ⟨op.toNat, by omega⟩
        have ho1 : 1 ≤ o := by omega
        have ho2 : o ≤ 16 := by omega
        have hz9 : z < (takesT o).length := by have := HZ.out; rw [takesN_T (o := o) rfl (by omega) (by omega) (by omega) ho1 ho2] at this; exact this
        have HV : Hid (tkB fns f ⟨(o : Int), a, n, tx⟩ z k = (decide ((takesT o).getD z 0 = -2) || fitK ((takesT o).getD z 0) k)) := hid (by simp [tkB, h8, h9, h12])
        obtain ⟨v, s0, s1, s2, s3⟩ := HE.out.rows o ho1 ho2
        obtain ⟨ka, c, rfl, hc⟩ := s3.at hz9
        have hoi : (o : Int) < 17 := by omega
        have hon : o < 17 := by omega
        have hzi : (z : Int) < ((takesT o).length : Int) := by omega
        obtain ⟨y, hy⟩ : ∃ y, (takesT o).getD z 0 = y := ⟨_, rfl⟩
        rw [hy] at hc HV
        obtain ⟨L, hL⟩ : ∃ L, (takesT o).length = L := ⟨_, rfl⟩
        rw [hL] at s1 hz9 hzi
        clear h8 h9 h12 s0 s2 s3 hy hL
        by_cases hy2 : y = -2
        · subst hy2
          go_wp2_with fail
          go_ret
          exact ⟨ret_bool (by rw [HV.out]; rfl), HLO.out⟩
        · have hyf : (y == -2) = false := by simpa using hy2
          have HV2 : Hid ((decide (y = -2) || fitK y k) = fitK y k) := hid (by simp [hy2])
          clear hy2
          go_wp2_with (go_at_call 126; refine (kindFits_any _ _ _).mono ?_; rintro e w' ⟨rfl, hw⟩; have hw2 := hw.symm; clear hw; subst hw2)
          go_ret
          exact ⟨ret_bool (by rw [HV.out, HV2.out]), HLO.out⟩
end Go.Proofs.YtfedmbadhcdpdaaGreatDoor.C
/-! What an instruction puts, in the program. Printed by gen_put.py. -/
namespace Go.Proofs.YtfedmbadhcdpdaaGreatDoor.C
open Go.RowKit
set_option maxRecDepth 20000
def putK (fns : List Fn) (i : In) (sl tk : List Int) : Int :=
  if i.op = 1 ∨ i.op = 7 then i.a else if i.op = 2 then sl.getD i.a.toNat 0 else if i.op = 5 then unG i.a (tk.getD 0 0) else if i.op = 6 then binG i.a (tk.getD 0 0) (tk.getD 1 0) else if i.op = 8 then (sig i.a).2 else (fns.getD i.a.toNat fn0).result
def putR (fns : List Fn) (i : In) (sl tk : List Int) : List Int × Bool :=
  if putsT i.op.toNat = 0 then ([], true) else if i.op = 9 ∧ (fns.getD i.a.toNat fn0).result = 0 then ([], true) else ([putK fns i sl tk], decide (¬ putK fns i sl tk = 0))
def PutEnd (fns : List Fn) (i : In) (sl tk : List Int) (w : World) (e : Ending) (w' : World) : Prop := e = .returned (.tuple #[.string (kt (putR fns i sl tk).1), .bool (putR fns i sl tk).2]) ∧ Below w.heap.size w w'
theorem put_some {fns : List Fn} {i : In} {sl tk : List Int} (h0 : ¬ putsT i.op.toNat = 0) (h9 : ¬ (i.op = 9 ∧ (fns.getD i.a.toNat fn0).result = 0)) : putR fns i sl tk = ([putK fns i sl tk], decide (¬ putK fns i sl tk = 0)) := by
  unfold putR
  rw [if_neg h0, if_neg h9]
theorem put_end {fns : List Fn} {i : In} {sl tk : List Int} {w W : World} {y : Int} (lo : Below w.heap.size w W) (h0 : ¬ putsT i.op.toNat = 0) (h9 : ¬ (i.op = 9 ∧ (fns.getD i.a.toNat fn0).result = 0)) (hy : putK fns i sl tk = y) : PutEnd fns i sl tk w (.returned (.tuple #[.string (kt [y]), .bool (y != 0)])) W := by
  refine ⟨?_, lo⟩
  rw [put_some h0 h9, hy]
  have : (y != 0) = decide (¬ y = 0) := by by_cases h : y = 0 <;> simp [h]
  rw [this]
set_option maxHeartbeats 2000000 in
theorem put_3 {fns : List Fn} {f : Fn} {b : Nat} {cv pv iv xv wv : Value} {w : World} (hM : MS fns f b cv pv iv xv wv w) (hE : EnvI w) {a n : Int} {tx : ByteArray} (hi : InsR fns f ⟨3, a, n, tx⟩) {sl tk : List Int} {tv : Value} (hs : Ok10 sl) (ht : IntRow w tv tk) (hr : ∀ x ∈ tk, 1 ≤ x ∧ x ≤ 10) (hl : tk.length = takesN fns ⟨3, a, n, tx⟩) (hsl : sl.length = f.S) (hF : ∀ g ∈ fns, FnR fns g) :
    Calls Tryz.prog 109 #[.pointer (some ⟨b, 0, none⟩), inV ⟨3, a, n, tx⟩, .string (kt sl), tv] w (PutEnd fns ⟨3, a, n, tx⟩ sl tk w) := by
  have HLO : Hid (Below w.heap.size w (w.alloc (ibox ⟨3, a, n, tx⟩))) := hid ((Below.refl _ _).alloc (Nat.le_refl _) _)
  have HM := hid (hM.next HLO.out)
  have HE := hid (hE.next HLO.out)
  have HT := hid (ht.next HLO.out)
  obtain ⟨j0, j1, j2, j3⟩ := ix (ibox_new w ⟨3, a, n, tx⟩)
  obtain ⟨m0, m1, m2, m3, m4, m5, m6, m7⟩ := mx HM.out
  obtain ⟨_, s0, s1, s2, _⟩ := HE.out.rows 3 (by omega) (by omega)
  dsimp only at j0 j1 j2 j3
  have hP : putsT 3 = 0 := rfl
  rw [hP] at s2
  simp only [Nat.reduceMul, Nat.reduceAdd] at s0 s1 s2
  have HI := hid hi
  have HS := hid hs
  have HR := hid hr
  have HL := hid hl
  have HSL := hid hsl
  have HF := hid hF
  obtain ⟨at9, ct9, rfl⟩ := ht.sl
  clear hM hE ht hi hs hr hl hsl hF hP s0 s1
  unfold inV
  dsimp only
  go_enter Tryz.func109, Tryz.ntmps109
  go_upto_region 2 with fail
  obtain ⟨W1, hW1⟩ : ∃ W, w.alloc (ibox ⟨3, a, n, tx⟩) = W := ⟨_, rfl⟩
  rw [hW1] at HLO HM HE HT j0 j1 j2 j3 m0 m1 m2 m3 m4 m5 m6 m7 s2
  unfold ibox at hW1
  rw [hW1]
  clear hW1
  go_wp2_with fail
  go_ret2
  exact ⟨rfl, HLO.out⟩
set_option maxHeartbeats 2000000 in
theorem put_4 {fns : List Fn} {f : Fn} {b : Nat} {cv pv iv xv wv : Value} {w : World} (hM : MS fns f b cv pv iv xv wv w) (hE : EnvI w) {a n : Int} {tx : ByteArray} (hi : InsR fns f ⟨4, a, n, tx⟩) {sl tk : List Int} {tv : Value} (hs : Ok10 sl) (ht : IntRow w tv tk) (hr : ∀ x ∈ tk, 1 ≤ x ∧ x ≤ 10) (hl : tk.length = takesN fns ⟨4, a, n, tx⟩) (hsl : sl.length = f.S) (hF : ∀ g ∈ fns, FnR fns g) :
    Calls Tryz.prog 109 #[.pointer (some ⟨b, 0, none⟩), inV ⟨4, a, n, tx⟩, .string (kt sl), tv] w (PutEnd fns ⟨4, a, n, tx⟩ sl tk w) := by
  have HLO : Hid (Below w.heap.size w (w.alloc (ibox ⟨4, a, n, tx⟩))) := hid ((Below.refl _ _).alloc (Nat.le_refl _) _)
  have HM := hid (hM.next HLO.out)
  have HE := hid (hE.next HLO.out)
  have HT := hid (ht.next HLO.out)
  obtain ⟨j0, j1, j2, j3⟩ := ix (ibox_new w ⟨4, a, n, tx⟩)
  obtain ⟨m0, m1, m2, m3, m4, m5, m6, m7⟩ := mx HM.out
  obtain ⟨_, s0, s1, s2, _⟩ := HE.out.rows 4 (by omega) (by omega)
  dsimp only at j0 j1 j2 j3
  have hP : putsT 4 = 0 := rfl
  rw [hP] at s2
  simp only [Nat.reduceMul, Nat.reduceAdd] at s0 s1 s2
  have HI := hid hi
  have HS := hid hs
  have HR := hid hr
  have HL := hid hl
  have HSL := hid hsl
  have HF := hid hF
  obtain ⟨at9, ct9, rfl⟩ := ht.sl
  clear hM hE ht hi hs hr hl hsl hF hP s0 s1
  unfold inV
  dsimp only
  go_enter Tryz.func109, Tryz.ntmps109
  go_upto_region 2 with fail
  obtain ⟨W1, hW1⟩ : ∃ W, w.alloc (ibox ⟨4, a, n, tx⟩) = W := ⟨_, rfl⟩
  rw [hW1] at HLO HM HE HT j0 j1 j2 j3 m0 m1 m2 m3 m4 m5 m6 m7 s2
  unfold ibox at hW1
  rw [hW1]
  clear hW1
  go_wp2_with fail
  go_ret2
  exact ⟨rfl, HLO.out⟩
set_option maxHeartbeats 2000000 in
theorem put_10 {fns : List Fn} {f : Fn} {b : Nat} {cv pv iv xv wv : Value} {w : World} (hM : MS fns f b cv pv iv xv wv w) (hE : EnvI w) {a n : Int} {tx : ByteArray} (hi : InsR fns f ⟨10, a, n, tx⟩) {sl tk : List Int} {tv : Value} (hs : Ok10 sl) (ht : IntRow w tv tk) (hr : ∀ x ∈ tk, 1 ≤ x ∧ x ≤ 10) (hl : tk.length = takesN fns ⟨10, a, n, tx⟩) (hsl : sl.length = f.S) (hF : ∀ g ∈ fns, FnR fns g) :
    Calls Tryz.prog 109 #[.pointer (some ⟨b, 0, none⟩), inV ⟨10, a, n, tx⟩, .string (kt sl), tv] w (PutEnd fns ⟨10, a, n, tx⟩ sl tk w) := by
  have HLO : Hid (Below w.heap.size w (w.alloc (ibox ⟨10, a, n, tx⟩))) := hid ((Below.refl _ _).alloc (Nat.le_refl _) _)
  have HM := hid (hM.next HLO.out)
  have HE := hid (hE.next HLO.out)
  have HT := hid (ht.next HLO.out)
  obtain ⟨j0, j1, j2, j3⟩ := ix (ibox_new w ⟨10, a, n, tx⟩)
  obtain ⟨m0, m1, m2, m3, m4, m5, m6, m7⟩ := mx HM.out
  obtain ⟨_, s0, s1, s2, _⟩ := HE.out.rows 10 (by omega) (by omega)
  dsimp only at j0 j1 j2 j3
  have hP : putsT 10 = 0 := rfl
  rw [hP] at s2
  simp only [Nat.reduceMul, Nat.reduceAdd] at s0 s1 s2
  have HI := hid hi
  have HS := hid hs
  have HR := hid hr
  have HL := hid hl
  have HSL := hid hsl
  have HF := hid hF
  obtain ⟨at9, ct9, rfl⟩ := ht.sl
  clear hM hE ht hi hs hr hl hsl hF hP s0 s1
  unfold inV
  dsimp only
  go_enter Tryz.func109, Tryz.ntmps109
  go_upto_region 2 with fail
  obtain ⟨W1, hW1⟩ : ∃ W, w.alloc (ibox ⟨10, a, n, tx⟩) = W := ⟨_, rfl⟩
  rw [hW1] at HLO HM HE HT j0 j1 j2 j3 m0 m1 m2 m3 m4 m5 m6 m7 s2
  unfold ibox at hW1
  rw [hW1]
  clear hW1
  go_wp2_with fail
  go_ret2
  exact ⟨rfl, HLO.out⟩
set_option maxHeartbeats 2000000 in
theorem put_11 {fns : List Fn} {f : Fn} {b : Nat} {cv pv iv xv wv : Value} {w : World} (hM : MS fns f b cv pv iv xv wv w) (hE : EnvI w) {a n : Int} {tx : ByteArray} (hi : InsR fns f ⟨11, a, n, tx⟩) {sl tk : List Int} {tv : Value} (hs : Ok10 sl) (ht : IntRow w tv tk) (hr : ∀ x ∈ tk, 1 ≤ x ∧ x ≤ 10) (hl : tk.length = takesN fns ⟨11, a, n, tx⟩) (hsl : sl.length = f.S) (hF : ∀ g ∈ fns, FnR fns g) :
    Calls Tryz.prog 109 #[.pointer (some ⟨b, 0, none⟩), inV ⟨11, a, n, tx⟩, .string (kt sl), tv] w (PutEnd fns ⟨11, a, n, tx⟩ sl tk w) := by
  have HLO : Hid (Below w.heap.size w (w.alloc (ibox ⟨11, a, n, tx⟩))) := hid ((Below.refl _ _).alloc (Nat.le_refl _) _)
  have HM := hid (hM.next HLO.out)
  have HE := hid (hE.next HLO.out)
  have HT := hid (ht.next HLO.out)
  obtain ⟨j0, j1, j2, j3⟩ := ix (ibox_new w ⟨11, a, n, tx⟩)
  obtain ⟨m0, m1, m2, m3, m4, m5, m6, m7⟩ := mx HM.out
  obtain ⟨_, s0, s1, s2, _⟩ := HE.out.rows 11 (by omega) (by omega)
  dsimp only at j0 j1 j2 j3
  have hP : putsT 11 = 0 := rfl
  rw [hP] at s2
  simp only [Nat.reduceMul, Nat.reduceAdd] at s0 s1 s2
  have HI := hid hi
  have HS := hid hs
  have HR := hid hr
  have HL := hid hl
  have HSL := hid hsl
  have HF := hid hF
  obtain ⟨at9, ct9, rfl⟩ := ht.sl
  clear hM hE ht hi hs hr hl hsl hF hP s0 s1
  unfold inV
  dsimp only
  go_enter Tryz.func109, Tryz.ntmps109
  go_upto_region 2 with fail
  obtain ⟨W1, hW1⟩ : ∃ W, w.alloc (ibox ⟨11, a, n, tx⟩) = W := ⟨_, rfl⟩
  rw [hW1] at HLO HM HE HT j0 j1 j2 j3 m0 m1 m2 m3 m4 m5 m6 m7 s2
  unfold ibox at hW1
  rw [hW1]
  clear hW1
  go_wp2_with fail
  go_ret2
  exact ⟨rfl, HLO.out⟩
set_option maxHeartbeats 2000000 in
theorem put_12 {fns : List Fn} {f : Fn} {b : Nat} {cv pv iv xv wv : Value} {w : World} (hM : MS fns f b cv pv iv xv wv w) (hE : EnvI w) {a n : Int} {tx : ByteArray} (hi : InsR fns f ⟨12, a, n, tx⟩) {sl tk : List Int} {tv : Value} (hs : Ok10 sl) (ht : IntRow w tv tk) (hr : ∀ x ∈ tk, 1 ≤ x ∧ x ≤ 10) (hl : tk.length = takesN fns ⟨12, a, n, tx⟩) (hsl : sl.length = f.S) (hF : ∀ g ∈ fns, FnR fns g) :
    Calls Tryz.prog 109 #[.pointer (some ⟨b, 0, none⟩), inV ⟨12, a, n, tx⟩, .string (kt sl), tv] w (PutEnd fns ⟨12, a, n, tx⟩ sl tk w) := by
  have HLO : Hid (Below w.heap.size w (w.alloc (ibox ⟨12, a, n, tx⟩))) := hid ((Below.refl _ _).alloc (Nat.le_refl _) _)
  have HM := hid (hM.next HLO.out)
  have HE := hid (hE.next HLO.out)
  have HT := hid (ht.next HLO.out)
  obtain ⟨j0, j1, j2, j3⟩ := ix (ibox_new w ⟨12, a, n, tx⟩)
  obtain ⟨m0, m1, m2, m3, m4, m5, m6, m7⟩ := mx HM.out
  obtain ⟨_, s0, s1, s2, _⟩ := HE.out.rows 12 (by omega) (by omega)
  dsimp only at j0 j1 j2 j3
  have hP : putsT 12 = 0 := rfl
  rw [hP] at s2
  simp only [Nat.reduceMul, Nat.reduceAdd] at s0 s1 s2
  have HI := hid hi
  have HS := hid hs
  have HR := hid hr
  have HL := hid hl
  have HSL := hid hsl
  have HF := hid hF
  obtain ⟨at9, ct9, rfl⟩ := ht.sl
  clear hM hE ht hi hs hr hl hsl hF hP s0 s1
  unfold inV
  dsimp only
  go_enter Tryz.func109, Tryz.ntmps109
  go_upto_region 2 with fail
  obtain ⟨W1, hW1⟩ : ∃ W, w.alloc (ibox ⟨12, a, n, tx⟩) = W := ⟨_, rfl⟩
  rw [hW1] at HLO HM HE HT j0 j1 j2 j3 m0 m1 m2 m3 m4 m5 m6 m7 s2
  unfold ibox at hW1
  rw [hW1]
  clear hW1
  go_wp2_with fail
  go_ret2
  exact ⟨rfl, HLO.out⟩
set_option maxHeartbeats 2000000 in
theorem put_13 {fns : List Fn} {f : Fn} {b : Nat} {cv pv iv xv wv : Value} {w : World} (hM : MS fns f b cv pv iv xv wv w) (hE : EnvI w) {a n : Int} {tx : ByteArray} (hi : InsR fns f ⟨13, a, n, tx⟩) {sl tk : List Int} {tv : Value} (hs : Ok10 sl) (ht : IntRow w tv tk) (hr : ∀ x ∈ tk, 1 ≤ x ∧ x ≤ 10) (hl : tk.length = takesN fns ⟨13, a, n, tx⟩) (hsl : sl.length = f.S) (hF : ∀ g ∈ fns, FnR fns g) :
    Calls Tryz.prog 109 #[.pointer (some ⟨b, 0, none⟩), inV ⟨13, a, n, tx⟩, .string (kt sl), tv] w (PutEnd fns ⟨13, a, n, tx⟩ sl tk w) := by
  have HLO : Hid (Below w.heap.size w (w.alloc (ibox ⟨13, a, n, tx⟩))) := hid ((Below.refl _ _).alloc (Nat.le_refl _) _)
  have HM := hid (hM.next HLO.out)
  have HE := hid (hE.next HLO.out)
  have HT := hid (ht.next HLO.out)
  obtain ⟨j0, j1, j2, j3⟩ := ix (ibox_new w ⟨13, a, n, tx⟩)
  obtain ⟨m0, m1, m2, m3, m4, m5, m6, m7⟩ := mx HM.out
  obtain ⟨_, s0, s1, s2, _⟩ := HE.out.rows 13 (by omega) (by omega)
  dsimp only at j0 j1 j2 j3
  have hP : putsT 13 = 0 := rfl
  rw [hP] at s2
  simp only [Nat.reduceMul, Nat.reduceAdd] at s0 s1 s2
  have HI := hid hi
  have HS := hid hs
  have HR := hid hr
  have HL := hid hl
  have HSL := hid hsl
  have HF := hid hF
  obtain ⟨at9, ct9, rfl⟩ := ht.sl
  clear hM hE ht hi hs hr hl hsl hF hP s0 s1
  unfold inV
  dsimp only
  go_enter Tryz.func109, Tryz.ntmps109
  go_upto_region 2 with fail
  obtain ⟨W1, hW1⟩ : ∃ W, w.alloc (ibox ⟨13, a, n, tx⟩) = W := ⟨_, rfl⟩
  rw [hW1] at HLO HM HE HT j0 j1 j2 j3 m0 m1 m2 m3 m4 m5 m6 m7 s2
  unfold ibox at hW1
  rw [hW1]
  clear hW1
  go_wp2_with fail
  go_ret2
  exact ⟨rfl, HLO.out⟩
set_option maxHeartbeats 2000000 in
theorem put_14 {fns : List Fn} {f : Fn} {b : Nat} {cv pv iv xv wv : Value} {w : World} (hM : MS fns f b cv pv iv xv wv w) (hE : EnvI w) {a n : Int} {tx : ByteArray} (hi : InsR fns f ⟨14, a, n, tx⟩) {sl tk : List Int} {tv : Value} (hs : Ok10 sl) (ht : IntRow w tv tk) (hr : ∀ x ∈ tk, 1 ≤ x ∧ x ≤ 10) (hl : tk.length = takesN fns ⟨14, a, n, tx⟩) (hsl : sl.length = f.S) (hF : ∀ g ∈ fns, FnR fns g) :
    Calls Tryz.prog 109 #[.pointer (some ⟨b, 0, none⟩), inV ⟨14, a, n, tx⟩, .string (kt sl), tv] w (PutEnd fns ⟨14, a, n, tx⟩ sl tk w) := by
  have HLO : Hid (Below w.heap.size w (w.alloc (ibox ⟨14, a, n, tx⟩))) := hid ((Below.refl _ _).alloc (Nat.le_refl _) _)
  have HM := hid (hM.next HLO.out)
  have HE := hid (hE.next HLO.out)
  have HT := hid (ht.next HLO.out)
  obtain ⟨j0, j1, j2, j3⟩ := ix (ibox_new w ⟨14, a, n, tx⟩)
  obtain ⟨m0, m1, m2, m3, m4, m5, m6, m7⟩ := mx HM.out
  obtain ⟨_, s0, s1, s2, _⟩ := HE.out.rows 14 (by omega) (by omega)
  dsimp only at j0 j1 j2 j3
  have hP : putsT 14 = 0 := rfl
  rw [hP] at s2
  simp only [Nat.reduceMul, Nat.reduceAdd] at s0 s1 s2
  have HI := hid hi
  have HS := hid hs
  have HR := hid hr
  have HL := hid hl
  have HSL := hid hsl
  have HF := hid hF
  obtain ⟨at9, ct9, rfl⟩ := ht.sl
  clear hM hE ht hi hs hr hl hsl hF hP s0 s1
  unfold inV
  dsimp only
  go_enter Tryz.func109, Tryz.ntmps109
  go_upto_region 2 with fail
  obtain ⟨W1, hW1⟩ : ∃ W, w.alloc (ibox ⟨14, a, n, tx⟩) = W := ⟨_, rfl⟩
  rw [hW1] at HLO HM HE HT j0 j1 j2 j3 m0 m1 m2 m3 m4 m5 m6 m7 s2
  unfold ibox at hW1
  rw [hW1]
  clear hW1
  go_wp2_with fail
  go_ret2
  exact ⟨rfl, HLO.out⟩
set_option maxHeartbeats 2000000 in
theorem put_15 {fns : List Fn} {f : Fn} {b : Nat} {cv pv iv xv wv : Value} {w : World} (hM : MS fns f b cv pv iv xv wv w) (hE : EnvI w) {a n : Int} {tx : ByteArray} (hi : InsR fns f ⟨15, a, n, tx⟩) {sl tk : List Int} {tv : Value} (hs : Ok10 sl) (ht : IntRow w tv tk) (hr : ∀ x ∈ tk, 1 ≤ x ∧ x ≤ 10) (hl : tk.length = takesN fns ⟨15, a, n, tx⟩) (hsl : sl.length = f.S) (hF : ∀ g ∈ fns, FnR fns g) :
    Calls Tryz.prog 109 #[.pointer (some ⟨b, 0, none⟩), inV ⟨15, a, n, tx⟩, .string (kt sl), tv] w (PutEnd fns ⟨15, a, n, tx⟩ sl tk w) := by
  have HLO : Hid (Below w.heap.size w (w.alloc (ibox ⟨15, a, n, tx⟩))) := hid ((Below.refl _ _).alloc (Nat.le_refl _) _)
  have HM := hid (hM.next HLO.out)
  have HE := hid (hE.next HLO.out)
  have HT := hid (ht.next HLO.out)
  obtain ⟨j0, j1, j2, j3⟩ := ix (ibox_new w ⟨15, a, n, tx⟩)
  obtain ⟨m0, m1, m2, m3, m4, m5, m6, m7⟩ := mx HM.out
  obtain ⟨_, s0, s1, s2, _⟩ := HE.out.rows 15 (by omega) (by omega)
  dsimp only at j0 j1 j2 j3
  have hP : putsT 15 = 0 := rfl
  rw [hP] at s2
  simp only [Nat.reduceMul, Nat.reduceAdd] at s0 s1 s2
  have HI := hid hi
  have HS := hid hs
  have HR := hid hr
  have HL := hid hl
  have HSL := hid hsl
  have HF := hid hF
  obtain ⟨at9, ct9, rfl⟩ := ht.sl
  clear hM hE ht hi hs hr hl hsl hF hP s0 s1
  unfold inV
  dsimp only
  go_enter Tryz.func109, Tryz.ntmps109
  go_upto_region 2 with fail
  obtain ⟨W1, hW1⟩ : ∃ W, w.alloc (ibox ⟨15, a, n, tx⟩) = W := ⟨_, rfl⟩
  rw [hW1] at HLO HM HE HT j0 j1 j2 j3 m0 m1 m2 m3 m4 m5 m6 m7 s2
  unfold ibox at hW1
  rw [hW1]
  clear hW1
  go_wp2_with fail
  go_ret2
  exact ⟨rfl, HLO.out⟩
set_option maxHeartbeats 2000000 in
theorem put_16 {fns : List Fn} {f : Fn} {b : Nat} {cv pv iv xv wv : Value} {w : World} (hM : MS fns f b cv pv iv xv wv w) (hE : EnvI w) {a n : Int} {tx : ByteArray} (hi : InsR fns f ⟨16, a, n, tx⟩) {sl tk : List Int} {tv : Value} (hs : Ok10 sl) (ht : IntRow w tv tk) (hr : ∀ x ∈ tk, 1 ≤ x ∧ x ≤ 10) (hl : tk.length = takesN fns ⟨16, a, n, tx⟩) (hsl : sl.length = f.S) (hF : ∀ g ∈ fns, FnR fns g) :
    Calls Tryz.prog 109 #[.pointer (some ⟨b, 0, none⟩), inV ⟨16, a, n, tx⟩, .string (kt sl), tv] w (PutEnd fns ⟨16, a, n, tx⟩ sl tk w) := by
  have HLO : Hid (Below w.heap.size w (w.alloc (ibox ⟨16, a, n, tx⟩))) := hid ((Below.refl _ _).alloc (Nat.le_refl _) _)
  have HM := hid (hM.next HLO.out)
  have HE := hid (hE.next HLO.out)
  have HT := hid (ht.next HLO.out)
  obtain ⟨j0, j1, j2, j3⟩ := ix (ibox_new w ⟨16, a, n, tx⟩)
  obtain ⟨m0, m1, m2, m3, m4, m5, m6, m7⟩ := mx HM.out
  obtain ⟨_, s0, s1, s2, _⟩ := HE.out.rows 16 (by omega) (by omega)
  dsimp only at j0 j1 j2 j3
  have hP : putsT 16 = 0 := rfl
  rw [hP] at s2
  simp only [Nat.reduceMul, Nat.reduceAdd] at s0 s1 s2
  have HI := hid hi
  have HS := hid hs
  have HR := hid hr
  have HL := hid hl
  have HSL := hid hsl
  have HF := hid hF
  obtain ⟨at9, ct9, rfl⟩ := ht.sl
  clear hM hE ht hi hs hr hl hsl hF hP s0 s1
  unfold inV
  dsimp only
  go_enter Tryz.func109, Tryz.ntmps109
  go_upto_region 2 with fail
  obtain ⟨W1, hW1⟩ : ∃ W, w.alloc (ibox ⟨16, a, n, tx⟩) = W := ⟨_, rfl⟩
  rw [hW1] at HLO HM HE HT j0 j1 j2 j3 m0 m1 m2 m3 m4 m5 m6 m7 s2
  unfold ibox at hW1
  rw [hW1]
  clear hW1
  go_wp2_with fail
  go_ret2
  exact ⟨rfl, HLO.out⟩
set_option maxHeartbeats 2000000 in
theorem put_1 {fns : List Fn} {f : Fn} {b : Nat} {cv pv iv xv wv : Value} {w : World} (hM : MS fns f b cv pv iv xv wv w) (hE : EnvI w) {a n : Int} {tx : ByteArray} (hi : InsR fns f ⟨1, a, n, tx⟩) {sl tk : List Int} {tv : Value} (hs : Ok10 sl) (ht : IntRow w tv tk) (hr : ∀ x ∈ tk, 1 ≤ x ∧ x ≤ 10) (hl : tk.length = takesN fns ⟨1, a, n, tx⟩) (hsl : sl.length = f.S) (hF : ∀ g ∈ fns, FnR fns g) :
    Calls Tryz.prog 109 #[.pointer (some ⟨b, 0, none⟩), inV ⟨1, a, n, tx⟩, .string (kt sl), tv] w (PutEnd fns ⟨1, a, n, tx⟩ sl tk w) := by
  have HLO : Hid (Below w.heap.size w (w.alloc (ibox ⟨1, a, n, tx⟩))) := hid ((Below.refl _ _).alloc (Nat.le_refl _) _)
  have HM := hid (hM.next HLO.out)
  have HE := hid (hE.next HLO.out)
  have HT := hid (ht.next HLO.out)
  obtain ⟨j0, j1, j2, j3⟩ := ix (ibox_new w ⟨1, a, n, tx⟩)
  obtain ⟨m0, m1, m2, m3, m4, m5, m6, m7⟩ := mx HM.out
  obtain ⟨_, s0, s1, s2, _⟩ := HE.out.rows 1 (by omega) (by omega)
  dsimp only at j0 j1 j2 j3
  have hP : putsT 1 = 1 := rfl
  rw [hP] at s2
  simp only [Nat.reduceMul, Nat.reduceAdd] at s0 s1 s2
  have HI := hid hi
  have HS := hid hs
  have HR := hid hr
  have HL := hid hl
  have HSL := hid hsl
  have HF := hid hF
  obtain ⟨at9, ct9, rfl⟩ := ht.sl
  clear hM hE ht hi hs hr hl hsl hF hP s0 s1
  unfold inV
  dsimp only
  go_enter Tryz.func109, Tryz.ntmps109
  go_upto_region 2 with fail
  obtain ⟨W1, hW1⟩ : ∃ W, w.alloc (ibox ⟨1, a, n, tx⟩) = W := ⟨_, rfl⟩
  rw [hW1] at HLO HM HE HT j0 j1 j2 j3 m0 m1 m2 m3 m4 m5 m6 m7 s2
  unfold ibox at hW1
  rw [hW1]
  clear hW1
  have HY : Hid (0 ≤ a ∧ a ≤ 10) := hid (by have := HI.out.push rfl; dsimp only at this; omega)
  have HK : Hid (putK fns ⟨1, a, n, tx⟩ sl tk = a) := hid rfl
  go_wp2_with (go_at_call 110; refine (kindText_any _ HY.out _).mono ?_; rintro e w5 ⟨rfl, hb5⟩; have HB5 := hid (HLO.out.trans (hb5.mono (HLO.out).size)); clear hb5)
  go_ret2
  have hz := put_end (fns := fns) (i := ⟨1, a, n, tx⟩) (sl := sl) (tk := tk) HB5.out (show ¬ putsT 1 = 0 by decide) (by simp) HK.out
  simpa [bne] using hz
set_option maxHeartbeats 2000000 in
theorem put_7 {fns : List Fn} {f : Fn} {b : Nat} {cv pv iv xv wv : Value} {w : World} (hM : MS fns f b cv pv iv xv wv w) (hE : EnvI w) {a n : Int} {tx : ByteArray} (hi : InsR fns f ⟨7, a, n, tx⟩) {sl tk : List Int} {tv : Value} (hs : Ok10 sl) (ht : IntRow w tv tk) (hr : ∀ x ∈ tk, 1 ≤ x ∧ x ≤ 10) (hl : tk.length = takesN fns ⟨7, a, n, tx⟩) (hsl : sl.length = f.S) (hF : ∀ g ∈ fns, FnR fns g) :
    Calls Tryz.prog 109 #[.pointer (some ⟨b, 0, none⟩), inV ⟨7, a, n, tx⟩, .string (kt sl), tv] w (PutEnd fns ⟨7, a, n, tx⟩ sl tk w) := by
  have HLO : Hid (Below w.heap.size w (w.alloc (ibox ⟨7, a, n, tx⟩))) := hid ((Below.refl _ _).alloc (Nat.le_refl _) _)
  have HM := hid (hM.next HLO.out)
  have HE := hid (hE.next HLO.out)
  have HT := hid (ht.next HLO.out)
  obtain ⟨j0, j1, j2, j3⟩ := ix (ibox_new w ⟨7, a, n, tx⟩)
  obtain ⟨m0, m1, m2, m3, m4, m5, m6, m7⟩ := mx HM.out
  obtain ⟨_, s0, s1, s2, _⟩ := HE.out.rows 7 (by omega) (by omega)
  dsimp only at j0 j1 j2 j3
  have hP : putsT 7 = 1 := rfl
  rw [hP] at s2
  simp only [Nat.reduceMul, Nat.reduceAdd] at s0 s1 s2
  have HI := hid hi
  have HS := hid hs
  have HR := hid hr
  have HL := hid hl
  have HSL := hid hsl
  have HF := hid hF
  obtain ⟨at9, ct9, rfl⟩ := ht.sl
  clear hM hE ht hi hs hr hl hsl hF hP s0 s1
  unfold inV
  dsimp only
  go_enter Tryz.func109, Tryz.ntmps109
  go_upto_region 2 with fail
  obtain ⟨W1, hW1⟩ : ∃ W, w.alloc (ibox ⟨7, a, n, tx⟩) = W := ⟨_, rfl⟩
  rw [hW1] at HLO HM HE HT j0 j1 j2 j3 m0 m1 m2 m3 m4 m5 m6 m7 s2
  unfold ibox at hW1
  rw [hW1]
  clear hW1
  have HY : Hid (0 ≤ a ∧ a ≤ 10) := hid (by have := HI.out.conv rfl; dsimp only at this; omega)
  have HK : Hid (putK fns ⟨7, a, n, tx⟩ sl tk = a) := hid rfl
  go_wp2_with (go_at_call 110; refine (kindText_any _ HY.out _).mono ?_; rintro e w5 ⟨rfl, hb5⟩; have HB5 := hid (HLO.out.trans (hb5.mono (HLO.out).size)); clear hb5)
  go_ret2
  have hz := put_end (fns := fns) (i := ⟨7, a, n, tx⟩) (sl := sl) (tk := tk) HB5.out (show ¬ putsT 7 = 0 by decide) (by simp) HK.out
  simpa [bne] using hz
set_option maxHeartbeats 2000000 in
theorem put_2 {fns : List Fn} {f : Fn} {b : Nat} {cv pv iv xv wv : Value} {w : World} (hM : MS fns f b cv pv iv xv wv w) (hE : EnvI w) {a n : Int} {tx : ByteArray} (hi : InsR fns f ⟨2, a, n, tx⟩) {sl tk : List Int} {tv : Value} (hs : Ok10 sl) (ht : IntRow w tv tk) (hr : ∀ x ∈ tk, 1 ≤ x ∧ x ≤ 10) (hl : tk.length = takesN fns ⟨2, a, n, tx⟩) (hsl : sl.length = f.S) (hF : ∀ g ∈ fns, FnR fns g) :
    Calls Tryz.prog 109 #[.pointer (some ⟨b, 0, none⟩), inV ⟨2, a, n, tx⟩, .string (kt sl), tv] w (PutEnd fns ⟨2, a, n, tx⟩ sl tk w) := by
  have HLO : Hid (Below w.heap.size w (w.alloc (ibox ⟨2, a, n, tx⟩))) := hid ((Below.refl _ _).alloc (Nat.le_refl _) _)
  have HM := hid (hM.next HLO.out)
  have HE := hid (hE.next HLO.out)
  have HT := hid (ht.next HLO.out)
  obtain ⟨j0, j1, j2, j3⟩ := ix (ibox_new w ⟨2, a, n, tx⟩)
  obtain ⟨m0, m1, m2, m3, m4, m5, m6, m7⟩ := mx HM.out
  obtain ⟨_, s0, s1, s2, _⟩ := HE.out.rows 2 (by omega) (by omega)
  dsimp only at j0 j1 j2 j3
  have hP : putsT 2 = 2 := rfl
  rw [hP] at s2
  simp only [Nat.reduceMul, Nat.reduceAdd] at s0 s1 s2
  have HI := hid hi
  have HS := hid hs
  have HR := hid hr
  have HL := hid hl
  have HSL := hid hsl
  have HF := hid hF
  obtain ⟨at9, ct9, rfl⟩ := ht.sl
  clear hM hE ht hi hs hr hl hsl hF hP s0 s1
  unfold inV
  dsimp only
  go_enter Tryz.func109, Tryz.ntmps109
  go_upto_region 2 with fail
  obtain ⟨W1, hW1⟩ : ∃ W, w.alloc (ibox ⟨2, a, n, tx⟩) = W := ⟨_, rfl⟩
  rw [hW1] at HLO HM HE HT j0 j1 j2 j3 m0 m1 m2 m3 m4 m5 m6 m7 s2
  unfold ibox at hW1
  rw [hW1]
  clear hW1
  have hb := HI.out.slot (.inl rfl)
  dsimp only at hb
  obtain ⟨q, rfl⟩ : ∃ q : Nat, a = q := ⟨a.toNat, by omega⟩
  have hq : q < sl.length := by rw [HSL.out]; unfold Fn.S; omega
  have hq2 : q < (kt sl).size := by rw [kt_size]; exact hq
  have hq3 : (q : Int) < ((kt sl).size : Int) := by omega
  have hyv := kt_get HS.out hq2
  have hr9 := getD_range0 HS.out q
  obtain ⟨y, hy⟩ : ∃ y, sl.getD q 0 = y := ⟨_, rfl⟩
  rw [hy] at hyv hr9
  have HY := hid hr9
  have hwy : IntKind.i64.wrap y = y := by rw [IntKind.wrap_i64]; omega
  have HK : Hid (putK fns ⟨2, (q : Int), n, tx⟩ sl tk = y) := hid (by rw [← hy]; rfl)
  clear hb hy hr9
  go_wp2_with (go_at_call 110; refine (kindText_any _ HY.out _).mono ?_; rintro e w5 ⟨rfl, hb5⟩; have HB5 := hid (HLO.out.trans (hb5.mono (HLO.out).size)); clear hb5)
  go_ret2
  have hz := put_end (fns := fns) (i := ⟨2, (q : Int), n, tx⟩) (sl := sl) (tk := tk) HB5.out (show ¬ putsT 2 = 0 by decide) (by simp) HK.out
  simpa [bne] using hz
set_option maxHeartbeats 2000000 in
theorem put_5 {fns : List Fn} {f : Fn} {b : Nat} {cv pv iv xv wv : Value} {w : World} (hM : MS fns f b cv pv iv xv wv w) (hE : EnvI w) {a n : Int} {tx : ByteArray} (hi : InsR fns f ⟨5, a, n, tx⟩) {sl tk : List Int} {tv : Value} (hs : Ok10 sl) (ht : IntRow w tv tk) (hr : ∀ x ∈ tk, 1 ≤ x ∧ x ≤ 10) (hl : tk.length = takesN fns ⟨5, a, n, tx⟩) (hsl : sl.length = f.S) (hF : ∀ g ∈ fns, FnR fns g) :
    Calls Tryz.prog 109 #[.pointer (some ⟨b, 0, none⟩), inV ⟨5, a, n, tx⟩, .string (kt sl), tv] w (PutEnd fns ⟨5, a, n, tx⟩ sl tk w) := by
  have HLO : Hid (Below w.heap.size w (w.alloc (ibox ⟨5, a, n, tx⟩))) := hid ((Below.refl _ _).alloc (Nat.le_refl _) _)
  have HM := hid (hM.next HLO.out)
  have HE := hid (hE.next HLO.out)
  have HT := hid (ht.next HLO.out)
  obtain ⟨j0, j1, j2, j3⟩ := ix (ibox_new w ⟨5, a, n, tx⟩)
  obtain ⟨m0, m1, m2, m3, m4, m5, m6, m7⟩ := mx HM.out
  obtain ⟨_, s0, s1, s2, _⟩ := HE.out.rows 5 (by omega) (by omega)
  dsimp only at j0 j1 j2 j3
  have hP : putsT 5 = 3 := rfl
  rw [hP] at s2
  simp only [Nat.reduceMul, Nat.reduceAdd] at s0 s1 s2
  have HI := hid hi
  have HS := hid hs
  have HR := hid hr
  have HL := hid hl
  have HSL := hid hsl
  have HF := hid hF
  obtain ⟨at9, ct9, rfl⟩ := ht.sl
  clear hM hE ht hi hs hr hl hsl hF hP s0 s1
  unfold inV
  dsimp only
  go_enter Tryz.func109, Tryz.ntmps109
  go_upto_region 2 with fail
  obtain ⟨W1, hW1⟩ : ∃ W, w.alloc (ibox ⟨5, a, n, tx⟩) = W := ⟨_, rfl⟩
  rw [hW1] at HLO HM HE HT j0 j1 j2 j3 m0 m1 m2 m3 m4 m5 m6 m7 s2
  unfold ibox at hW1
  rw [hW1]
  clear hW1
  have ht1 : tk.length = 1 := by rw [HL.out]; rfl
  obtain ⟨gT, cT, e9, _, _, _, hcT⟩ := HT.out.at (i := 0) (by omega)
  injection e9 with ea en ec
  clear en
  subst ea ec
  have kT := hcT 0 (by omega)
  obtain ⟨x, hx⟩ : ∃ x, tk.getD 0 0 = x := ⟨_, rfl⟩
  rw [hx] at kT
  have hxr : 0 ≤ x ∧ x ≤ 10 := by rw [← hx]; exact getD_range HR.out 0
  have HK : Hid (putK fns ⟨5, a, n, tx⟩ sl tk = unG a x) := hid (by rw [← hx]; rfl)
  have HY : Hid (0 ≤ unG a x ∧ unG a x ≤ 10) := hid (unG_range hxr)
  have hti : (0 : Int) < (tk.length : Int) := by omega
  have htn : 0 < tk.length := by omega
  have HC := hid (fun W => unGives_any a x W)
  obtain ⟨y, hy⟩ : ∃ y, unG a x = y := ⟨_, rfl⟩
  rw [hy] at HK HY HC
  obtain ⟨L, hL⟩ : ∃ L, tk.length = L := ⟨_, rfl⟩
  rw [hL] at hti htn ⊢
  clear hcT hx hy hxr ht1 hL
  go_wp2_with fail
  go_quiet (first | (go_at_call 127; exact Calls.quiet_of_same (HC.out _)) | fail)
  go_wp2_with (go_at_call 110; refine (kindText_any _ HY.out _).mono ?_; rintro e w5 ⟨rfl, hb5⟩; have HB5 := hid ((below_drewN HLO.out _).trans (hb5.mono (below_drewN HLO.out _).size)); clear hb5)
  go_ret2
  have hz := put_end (fns := fns) (i := ⟨5, a, n, tx⟩) (sl := sl) (tk := tk) HB5.out (show ¬ putsT 5 = 0 by decide) (by simp) HK.out
  simpa [bne] using hz
set_option maxHeartbeats 2000000 in
theorem put_6 {fns : List Fn} {f : Fn} {b : Nat} {cv pv iv xv wv : Value} {w : World} (hM : MS fns f b cv pv iv xv wv w) (hE : EnvI w) {a n : Int} {tx : ByteArray} (hi : InsR fns f ⟨6, a, n, tx⟩) {sl tk : List Int} {tv : Value} (hs : Ok10 sl) (ht : IntRow w tv tk) (hr : ∀ x ∈ tk, 1 ≤ x ∧ x ≤ 10) (hl : tk.length = takesN fns ⟨6, a, n, tx⟩) (hsl : sl.length = f.S) (hF : ∀ g ∈ fns, FnR fns g) :
    Calls Tryz.prog 109 #[.pointer (some ⟨b, 0, none⟩), inV ⟨6, a, n, tx⟩, .string (kt sl), tv] w (PutEnd fns ⟨6, a, n, tx⟩ sl tk w) := by
  have HLO : Hid (Below w.heap.size w (w.alloc (ibox ⟨6, a, n, tx⟩))) := hid ((Below.refl _ _).alloc (Nat.le_refl _) _)
  have HM := hid (hM.next HLO.out)
  have HE := hid (hE.next HLO.out)
  have HT := hid (ht.next HLO.out)
  obtain ⟨j0, j1, j2, j3⟩ := ix (ibox_new w ⟨6, a, n, tx⟩)
  obtain ⟨m0, m1, m2, m3, m4, m5, m6, m7⟩ := mx HM.out
  obtain ⟨_, s0, s1, s2, _⟩ := HE.out.rows 6 (by omega) (by omega)
  dsimp only at j0 j1 j2 j3
  have hP : putsT 6 = 4 := rfl
  rw [hP] at s2
  simp only [Nat.reduceMul, Nat.reduceAdd] at s0 s1 s2
  have HI := hid hi
  have HS := hid hs
  have HR := hid hr
  have HL := hid hl
  have HSL := hid hsl
  have HF := hid hF
  obtain ⟨at9, ct9, rfl⟩ := ht.sl
  clear hM hE ht hi hs hr hl hsl hF hP s0 s1
  unfold inV
  dsimp only
  go_enter Tryz.func109, Tryz.ntmps109
  go_upto_region 2 with fail
  obtain ⟨W1, hW1⟩ : ∃ W, w.alloc (ibox ⟨6, a, n, tx⟩) = W := ⟨_, rfl⟩
  rw [hW1] at HLO HM HE HT j0 j1 j2 j3 m0 m1 m2 m3 m4 m5 m6 m7 s2
  unfold ibox at hW1
  rw [hW1]
  clear hW1
  have ht1 : tk.length = 2 := by rw [HL.out]; rfl
  obtain ⟨gT, cT, e9, _, _, _, hcT⟩ := HT.out.at (i := 0) (by omega)
  injection e9 with ea en ec
  clear en
  subst ea ec
  have kT := hcT 0 (by omega)
  have kT2 := hcT 1 (by omega)
  obtain ⟨x, hx⟩ : ∃ x, tk.getD 0 0 = x := ⟨_, rfl⟩
  obtain ⟨x2, hx2⟩ : ∃ x, tk.getD 1 0 = x := ⟨_, rfl⟩
  rw [hx] at kT
  rw [hx2] at kT2
  have hxr : 0 ≤ x ∧ x ≤ 10 := by rw [← hx]; exact getD_range HR.out 0
  have HK : Hid (putK fns ⟨6, a, n, tx⟩ sl tk = binG a x x2) := hid (by rw [← hx, ← hx2]; rfl)
  have HY : Hid (0 ≤ binG a x x2 ∧ binG a x x2 ≤ 10) := hid (binG_range hxr)
  have hti : (0 : Int) < (tk.length : Int) := by omega
  have htn : 0 < tk.length := by omega
  have hti1 : (1 : Int) < (tk.length : Int) := by omega
  have htn1 : 1 < tk.length := by omega
  have hb := HI.out.bin rfl
  dsimp only at hb
  have HC := hid (fun W => binGives_any a x x2 hxr hb W)
  obtain ⟨y, hy⟩ : ∃ y, binG a x x2 = y := ⟨_, rfl⟩
  rw [hy] at HK HY HC
  obtain ⟨L, hL⟩ : ∃ L, tk.length = L := ⟨_, rfl⟩
  rw [hL] at hti htn hti1 htn1 ⊢
  clear hcT hx hx2 hy hxr ht1 hL hb
  go_wp2_with fail
  go_quiet (first | (go_at_call 128; exact Calls.quiet_of_same (HC.out _)) | fail)
  go_wp2_with (go_at_call 110; refine (kindText_any _ HY.out _).mono ?_; rintro e w5 ⟨rfl, hb5⟩; have HB5 := hid ((below_drewN HLO.out _).trans (hb5.mono (below_drewN HLO.out _).size)); clear hb5)
  go_ret2
  have hz := put_end (fns := fns) (i := ⟨6, a, n, tx⟩) (sl := sl) (tk := tk) HB5.out (show ¬ putsT 6 = 0 by decide) (by simp) HK.out
  simpa [bne] using hz
set_option maxHeartbeats 2000000 in
theorem put_8 {fns : List Fn} {f : Fn} {b : Nat} {cv pv iv xv wv : Value} {w : World} (hM : MS fns f b cv pv iv xv wv w) (hE : EnvI w) {a n : Int} {tx : ByteArray} (hi : InsR fns f ⟨8, a, n, tx⟩) {sl tk : List Int} {tv : Value} (hs : Ok10 sl) (ht : IntRow w tv tk) (hr : ∀ x ∈ tk, 1 ≤ x ∧ x ≤ 10) (hl : tk.length = takesN fns ⟨8, a, n, tx⟩) (hsl : sl.length = f.S) (hF : ∀ g ∈ fns, FnR fns g) :
    Calls Tryz.prog 109 #[.pointer (some ⟨b, 0, none⟩), inV ⟨8, a, n, tx⟩, .string (kt sl), tv] w (PutEnd fns ⟨8, a, n, tx⟩ sl tk w) := by
  have HLO : Hid (Below w.heap.size w (w.alloc (ibox ⟨8, a, n, tx⟩))) := hid ((Below.refl _ _).alloc (Nat.le_refl _) _)
  have HM := hid (hM.next HLO.out)
  have HE := hid (hE.next HLO.out)
  have HT := hid (ht.next HLO.out)
  obtain ⟨j0, j1, j2, j3⟩ := ix (ibox_new w ⟨8, a, n, tx⟩)
  obtain ⟨m0, m1, m2, m3, m4, m5, m6, m7⟩ := mx HM.out
  obtain ⟨_, s0, s1, s2, _⟩ := HE.out.rows 8 (by omega) (by omega)
  dsimp only at j0 j1 j2 j3
  have hP : putsT 8 = 5 := rfl
  rw [hP] at s2
  simp only [Nat.reduceMul, Nat.reduceAdd] at s0 s1 s2
  have HI := hid hi
  have HS := hid hs
  have HR := hid hr
  have HL := hid hl
  have HSL := hid hsl
  have HF := hid hF
  obtain ⟨at9, ct9, rfl⟩ := ht.sl
  clear hM hE ht hi hs hr hl hsl hF hP s0 s1
  unfold inV
  dsimp only
  go_enter Tryz.func109, Tryz.ntmps109
  go_upto_region 2 with fail
  obtain ⟨W1, hW1⟩ : ∃ W, w.alloc (ibox ⟨8, a, n, tx⟩) = W := ⟨_, rfl⟩
  rw [hW1] at HLO HM HE HT j0 j1 j2 j3 m0 m1 m2 m3 m4 m5 m6 m7 s2
  unfold ibox at hW1
  rw [hW1]
  clear hW1
  have hb := HI.out.built rfl
  dsimp only at hb
  obtain ⟨q, rfl⟩ : ∃ q : Nat, a = q := ⟨a.toNat, by omega⟩
  obtain ⟨v, b0, b1, _⟩ := HE.out.signs q (by omega) (by omega)
  have hki : (q : Int) < 13 := by omega
  have hkn : q < 13 := by omega
  have HY0 := sig_range (q : Int)
  have HK : Hid (putK fns ⟨8, (q : Int), n, tx⟩ sl tk = (sig (q : Int)).2) := hid rfl
  obtain ⟨y, hy⟩ : ∃ y, (sig (q : Int)).2 = y := ⟨_, rfl⟩
  rw [hy] at b1 HY0 HK
  have HY : Hid (0 ≤ y ∧ y ≤ 10) := hid (by omega)
  clear hb hy HY0 b0
  go_wp2_with (go_at_call 110; refine (kindText_any _ HY.out _).mono ?_; rintro e w5 ⟨rfl, hb5⟩; have HB5 := hid (HLO.out.trans (hb5.mono (HLO.out).size)); clear hb5)
  go_ret2
  have hz := put_end (fns := fns) (i := ⟨8, (q : Int), n, tx⟩) (sl := sl) (tk := tk) HB5.out (show ¬ putsT 8 = 0 by decide) (by simp) HK.out
  simpa [bne] using hz
set_option maxHeartbeats 2000000 in
theorem put_9 {fns : List Fn} {f : Fn} {b : Nat} {cv pv iv xv wv : Value} {w : World} (hM : MS fns f b cv pv iv xv wv w) (hE : EnvI w) {a n : Int} {tx : ByteArray} (hi : InsR fns f ⟨9, a, n, tx⟩) {sl tk : List Int} {tv : Value} (hs : Ok10 sl) (ht : IntRow w tv tk) (hr : ∀ x ∈ tk, 1 ≤ x ∧ x ≤ 10) (hl : tk.length = takesN fns ⟨9, a, n, tx⟩) (hsl : sl.length = f.S) (hF : ∀ g ∈ fns, FnR fns g) :
    Calls Tryz.prog 109 #[.pointer (some ⟨b, 0, none⟩), inV ⟨9, a, n, tx⟩, .string (kt sl), tv] w (PutEnd fns ⟨9, a, n, tx⟩ sl tk w) := by
  have HLO : Hid (Below w.heap.size w (w.alloc (ibox ⟨9, a, n, tx⟩))) := hid ((Below.refl _ _).alloc (Nat.le_refl _) _)
  have HM := hid (hM.next HLO.out)
  have HE := hid (hE.next HLO.out)
  have HT := hid (ht.next HLO.out)
  obtain ⟨j0, j1, j2, j3⟩ := ix (ibox_new w ⟨9, a, n, tx⟩)
  obtain ⟨m0, m1, m2, m3, m4, m5, m6, m7⟩ := mx HM.out
  obtain ⟨_, s0, s1, s2, _⟩ := HE.out.rows 9 (by omega) (by omega)
  dsimp only at j0 j1 j2 j3
  have hP : putsT 9 = 6 := rfl
  rw [hP] at s2
  simp only [Nat.reduceMul, Nat.reduceAdd] at s0 s1 s2
  have HI := hid hi
  have HS := hid hs
  have HR := hid hr
  have HL := hid hl
  have HSL := hid hsl
  have HF := hid hF
  obtain ⟨at9, ct9, rfl⟩ := ht.sl
  clear hM hE ht hi hs hr hl hsl hF hP s0 s1
  unfold inV
  dsimp only
  go_enter Tryz.func109, Tryz.ntmps109
  go_upto_region 2 with fail
  obtain ⟨W1, hW1⟩ : ∃ W, w.alloc (ibox ⟨9, a, n, tx⟩) = W := ⟨_, rfl⟩
  rw [hW1] at HLO HM HE HT j0 j1 j2 j3 m0 m1 m2 m3 m4 m5 m6 m7 s2
  unfold ibox at hW1
  rw [hW1]
  clear hW1
  have hb := HI.out.call rfl
  dsimp only at hb
  obtain ⟨q, rfl⟩ : ∃ q : Nat, a = q := ⟨a.toNat, by omega⟩
  have hk : q < fns.length := by omega
  obtain ⟨gF, cF2, hcv, hgF, pv2, iv2, n0, n1, n2, n3, n4, hpv, _⟩ := HM.out.fr.at hk
  rw [hcv] at m0
  have hki : (q : Int) < (fns.length : Int) := by omega
  have hr9 := (HF.out (fns.getD q fn0) (by rw [List.getD_eq_getElem?_getD, List.getElem?_eq_getElem hk]; exact List.getElem_mem hk)).result
  have HK : Hid (putK fns ⟨9, (q : Int), n, tx⟩ sl tk = (fns.getD q fn0).result) := hid rfl
  have HK0 : Hid ((fns.getD q fn0).result = 0 → putR fns ⟨9, (q : Int), n, tx⟩ sl tk = ([], true)) := hid (fun h => (if_neg (show ¬ putsT 9 = 0 by decide)).trans (if_pos ⟨rfl, h⟩))
  obtain ⟨y, hy⟩ : ∃ y, (fns.getD q fn0).result = y := ⟨_, rfl⟩
  have HYQ := hid hy
  rw [hy] at n2 hr9 HK
  have HY : Hid (0 ≤ y ∧ y ≤ 10) := hid hr9
  clear hb hy hr9 hcv n0 n1 n3 n4 hpv
  by_cases hy0 : y = 0
  · subst hy0
    go_wp2_with fail
    go_quiet (fail)
    go_wp2_with fail
    go_ret2
    refine ⟨?_, below_drewN HLO.out _⟩
    rw [HK0.out HYQ.out]
    rfl
  · have hyf : (y == 0) = false := by simpa using hy0
    have HN9 := hid hy0
    clear hy0
    go_wp2_with fail
    go_quiet (fail)
    go_wp2_with (go_at_call 110; refine (kindText_any _ HY.out _).mono ?_; rintro e w5 ⟨rfl, hb5⟩; have HB5 := hid ((below_drewN HLO.out _).trans (hb5.mono (below_drewN HLO.out _).size)); clear hb5)
    go_ret2
    have hz := put_end (fns := fns) (i := ⟨9, (q : Int), n, tx⟩) (sl := sl) (tk := tk) HB5.out (show ¬ putsT 9 = 0 by decide) (fun h2 => HN9.out (HYQ.out.symm.trans h2.2)) HK.out
    simpa [bne] using hz
theorem put_any {fns : List Fn} {f : Fn} {b : Nat} {cv pv iv xv wv : Value} {w : World} (hM : MS fns f b cv pv iv xv wv w) (hE : EnvI w) {i : In} (hi : InsR fns f i) {sl tk : List Int} {tv : Value} (hs : Ok10 sl) (ht : IntRow w tv tk) (hr : ∀ x ∈ tk, 1 ≤ x ∧ x ≤ 10) (hl : tk.length = takesN fns i) (hsl : sl.length = f.S) (hF : ∀ g ∈ fns, FnR fns g) :
    Calls Tryz.prog 109 #[.pointer (some ⟨b, 0, none⟩), inV i, .string (kt sl), tv] w (PutEnd fns i sl tk w) := by
  obtain ⟨op, a, n, tx⟩ := i
  have hop := hi.op
  dsimp only at hop
  obtain rfl | rfl | rfl | rfl | rfl | rfl | rfl | rfl | rfl | rfl | rfl | rfl | rfl | rfl | rfl | rfl : op = 1 ∨ op = 2 ∨ op = 3 ∨ op = 4 ∨ op = 5 ∨ op = 6 ∨ op = 7 ∨ op = 8 ∨ op = 9 ∨ op = 10 ∨ op = 11 ∨ op = 12 ∨ op = 13 ∨ op = 14 ∨ op = 15 ∨ op = 16 := by omega
  · exact put_1 hM hE hi hs ht hr hl hsl hF
  · exact put_2 hM hE hi hs ht hr hl hsl hF
  · exact put_3 hM hE hi hs ht hr hl hsl hF
  · exact put_4 hM hE hi hs ht hr hl hsl hF
  · exact put_5 hM hE hi hs ht hr hl hsl hF
  · exact put_6 hM hE hi hs ht hr hl hsl hF
  · exact put_7 hM hE hi hs ht hr hl hsl hF
  · exact put_8 hM hE hi hs ht hr hl hsl hF
  · exact put_9 hM hE hi hs ht hr hl hsl hF
  · exact put_10 hM hE hi hs ht hr hl hsl hF
  · exact put_11 hM hE hi hs ht hr hl hsl hF
  · exact put_12 hM hE hi hs ht hr hl hsl hF
  · exact put_13 hM hE hi hs ht hr hl hsl hF
  · exact put_14 hM hE hi hs ht hr hl hsl hF
  · exact put_15 hM hE hi hs ht hr hl hsl hF
  · exact put_16 hM hE hi hs ht hr hl hsl hF
end Go.Proofs.YtfedmbadhcdpdaaGreatDoor.C
/-! What a place leaves, as the program reckons it: plain mathematics. -/
namespace Go.Proofs.YtfedmbadhcdpdaaGreatDoor.C
open Go.RowKit
theorem fitL_all : ∀ (a t : List Int), fitL a t = true ↔ a.length = t.length ∧ ∀ z, z < a.length → fitK (a.getD z 0) (t.getD z 0) = true
  | [], [] => by simp [fitL]
  | [], _ :: _ => by simp [fitL]
  | _ :: _, [] => by simp [fitL]
  | x :: a, y :: t => by
    have ih := fitL_all a t
    simp only [fitL, Bool.and_eq_true, ih, List.length_cons]
    constructor
    · rintro ⟨h1, h2, h3⟩
      refine ⟨by omega, fun z hz => ?_⟩
      cases z with
      | zero => simpa using h1
      | succ z => simpa using h3 z (by omega)
    · rintro ⟨h1, h2⟩
      exact ⟨by simpa using h2 0 (by omega), by omega, fun z hz => by simpa using h2 (z + 1) (by omega)⟩
theorem eq_iff_get {a t : List Int} (hl : a.length = t.length) : t = a ↔ ∀ z, z < a.length → a.getD z 0 = t.getD z 0 := by
  constructor
  · intro h z _; rw [h]
  · intro h
    apply List.ext_getElem (by omega)
    intro z h1 h2
    have := h z h2
    simpa [List.getD_eq_getElem?_getD, h1, h2] using this.symm
/-- All that is taken fits. -/
def AllT (fns : List Fn) (f : Fn) (i : In) (tk : List Int) : Prop := ∀ z, z < takesN fns i → tkB fns f i z (tk.getD z 0) = true
theorem fit_neg {k : Int} (hk : 1 ≤ k) : fitK (-1) k = isI k := by
  unfold fitK
  have : ¬ (-1 : Int) = k := by omega
  simp [this]
theorem fit_pos {q k : Int} (hq : ¬ q = -1) : fitK q k = decide (q = k) := by unfold fitK; simp [hq]
theorem whn_pos {p : Prop} [Decidable p] {l : List Int} (h : p) : whn p l = some l := by unfold whn; rw [if_pos h]
theorem whn_neg {p : Prop} [Decidable p] {l : List Int} (h : ¬ p) : whn p l = none := by unfold whn; rw [if_neg h]
theorem getD1 {l : List Int} (h : ∀ x ∈ l, 1 ≤ x ∧ x ≤ 10) {z : Nat} (hz : z < l.length) : 1 ≤ l.getD z 0 ∧ l.getD z 0 ≤ 10 := by
  rw [List.getD_eq_getElem?_getD, List.getElem?_eq_getElem hz]
  exact h _ (List.getElem_mem hz)
/-- What the program puts is what the instruction leaves, where all that is taken fits; else nothing fits. -/
theorem eff_put {fns : List Fn} {f : Fn} {i : In} (hi : InsR fns f i) (_hF : ∀ g ∈ fns, FnR fns g) {sl tk : List Int} (hr : ∀ x ∈ tk, 1 ≤ x ∧ x ≤ 10) (hl : tk.length = takesN fns i) :
    (AllT fns f i tk → (putR fns i sl tk).2 = true → eff fns f i sl tk = some (putR fns i sl tk).1) ∧ (¬ (AllT fns f i tk ∧ (putR fns i sl tk).2 = true) → eff fns f i sl tk = none) := by
  obtain ⟨op, a, n, tx⟩ := i
  have hop := hi.op
  dsimp only at hop
  obtain rfl | rfl | rfl | rfl | rfl | rfl | rfl | rfl | rfl | rfl | rfl | rfl | rfl | rfl | rfl | rfl : op = 1 ∨ op = 2 ∨ op = 3 ∨ op = 4 ∨ op = 5 ∨ op = 6 ∨ op = 7 ∨ op = 8 ∨ op = 9 ∨ op = 10 ∨ op = 11 ∨ op = 12 ∨ op = 13 ∨ op = 14 ∨ op = 15 ∨ op = 16 := by omega
  · have hp := hi.push rfl
    dsimp only at hp
    have ha : ¬ a = 0 := by omega
    have hT : AllT fns f ⟨1, a, n, tx⟩ tk := fun z hz => by simp [takesN] at hz
    have hP : putR fns ⟨1, a, n, tx⟩ sl tk = ([a], true) := by simp [putR, putsT, putK, ha]
    rw [hP]
    exact ⟨fun _ _ => by simp [eff], fun h => absurd ⟨hT, rfl⟩ h⟩
  · have hT : AllT fns f ⟨2, a, n, tx⟩ tk := fun z hz => by simp [takesN] at hz
    have hP : putR fns ⟨2, a, n, tx⟩ sl tk = ([sl.getD a.toNat 0], decide (¬ sl.getD a.toNat 0 = 0)) := by simp [putR, putsT, putK]
    have hE : eff fns f ⟨2, a, n, tx⟩ sl tk = opt (sl.getD a.toNat 0) := by simp [eff]
    rw [hP, hE]
    unfold opt
    refine ⟨fun _ h => ?_, fun h => ?_⟩
    · rw [if_neg (by simpa using h)]
    · rw [if_pos (Decidable.byContradiction fun h9 => h ⟨hT, by simpa using h9⟩)]
  · have hT : AllT fns f ⟨3, a, n, tx⟩ tk := fun z hz => by
      obtain rfl : z = 0 := by simp [takesN] at hz; omega
      simp [tkB, takesT]
    have hP : putR fns ⟨3, a, n, tx⟩ sl tk = ([], true) := by simp [putR, putsT]
    rw [hP]
    exact ⟨fun _ _ => by simp [eff], fun h => absurd ⟨hT, rfl⟩ h⟩
  · have hT : AllT fns f ⟨4, a, n, tx⟩ tk := fun z hz => by
      obtain rfl : z = 0 := by simp [takesN] at hz; omega
      simp [tkB, takesT]
    have hP : putR fns ⟨4, a, n, tx⟩ sl tk = ([], true) := by simp [putR, putsT]
    rw [hP]
    exact ⟨fun _ _ => by simp [eff], fun h => absurd ⟨hT, rfl⟩ h⟩
  · have hT : AllT fns f ⟨5, a, n, tx⟩ tk := fun z hz => by
      obtain rfl : z = 0 := by simp [takesN] at hz; omega
      simp [tkB, takesT]
    have hP : putR fns ⟨5, a, n, tx⟩ sl tk = ([unG a (tk.getD 0 0)], decide (¬ unG a (tk.getD 0 0) = 0)) := by simp [putR, putsT, putK]
    have hE : eff fns f ⟨5, a, n, tx⟩ sl tk = opt (unG a (tk.getD 0 0)) := by simp [eff]
    rw [hP, hE]
    unfold opt
    refine ⟨fun _ h => ?_, fun h => ?_⟩
    · rw [if_neg (by simpa using h)]
    · rw [if_pos (Decidable.byContradiction fun h9 => h ⟨hT, by simpa using h9⟩)]
  · have hT : AllT fns f ⟨6, a, n, tx⟩ tk := fun z hz => by
      obtain rfl | rfl : z = 0 ∨ z = 1 := by simp [takesN] at hz; omega
      · simp [tkB, takesT]
      · simp [tkB, takesT]
    have hP : putR fns ⟨6, a, n, tx⟩ sl tk = ([binG a (tk.getD 0 0) (tk.getD 1 0)], decide (¬ binG a (tk.getD 0 0) (tk.getD 1 0) = 0)) := by simp [putR, putsT, putK]
    have hE : eff fns f ⟨6, a, n, tx⟩ sl tk = opt (binG a (tk.getD 0 0) (tk.getD 1 0)) := by simp [eff]
    rw [hP, hE]
    unfold opt
    refine ⟨fun _ h => ?_, fun h => ?_⟩
    · rw [if_neg (by simpa using h)]
    · rw [if_pos (Decidable.byContradiction fun h9 => h ⟨hT, by simpa using h9⟩)]
  · have hp := hi.conv rfl
    dsimp only at hp
    have ha : ¬ a = 0 := by omega
    have h0 : 0 < tk.length := by rw [hl]; simp [takesN]
    have hT : AllT fns f ⟨7, a, n, tx⟩ tk ↔ isI (tk.getD 0 0) = true := by
      have e : tkB fns f ⟨7, a, n, tx⟩ 0 (tk.getD 0 0) = isI (tk.getD 0 0) := by
        have : tkB fns f ⟨7, a, n, tx⟩ 0 (tk.getD 0 0) = fitK (-1) (tk.getD 0 0) := by simp [tkB, takesT]
        rw [this, fit_neg (getD1 hr h0).1]
      constructor
      · intro h; rw [← e]; exact h 0 (by simp [takesN])
      · intro h z hz
        obtain rfl : z = 0 := by simp [takesN] at hz; omega
        rw [e]; exact h
    have hP : putR fns ⟨7, a, n, tx⟩ sl tk = ([a], true) := by simp [putR, putsT, putK, ha]
    have hE : eff fns f ⟨7, a, n, tx⟩ sl tk = whn (isI (tk.getD 0 0) = true) [a] := by simp [eff]
    rw [hP, hE]
    exact ⟨fun h _ => whn_pos (hT.1 h), fun h => whn_neg fun h9 => h ⟨hT.2 h9, rfl⟩⟩
  · have hs := sig_range a
    have ha : ¬ (sig a).2 = 0 := by omega
    have hn : takesN fns ⟨8, a, n, tx⟩ = (sig a).1.length := by simp [takesN]
    have hT : AllT fns f ⟨8, a, n, tx⟩ tk ↔ fitL (sig a).1 tk = true := by
      rw [fitL_all]
      have e : ∀ z, tkB fns f ⟨8, a, n, tx⟩ z (tk.getD z 0) = fitK ((sig a).1.getD z 0) (tk.getD z 0) := fun z => by simp [tkB]
      constructor
      · intro h; exact ⟨by rw [hl, hn], fun z hz => by rw [← e]; exact h z (by rw [hn]; exact hz)⟩
      · intro h z hz; rw [e]; exact h.2 z (by rw [← hn]; exact hz)
    have hP : putR fns ⟨8, a, n, tx⟩ sl tk = ([(sig a).2], true) := by simp [putR, putsT, putK, ha]
    have hE : eff fns f ⟨8, a, n, tx⟩ sl tk = whn (fitL (sig a).1 tk = true) [(sig a).2] := by simp [eff]
    rw [hP, hE]
    exact ⟨fun h _ => whn_pos (hT.1 h), fun h => whn_neg fun h9 => h ⟨hT.2 h9, rfl⟩⟩
  · have hn : takesN fns ⟨9, a, n, tx⟩ = (fns.getD a.toNat fn0).params.length := by simp [takesN]
    have hT : AllT fns f ⟨9, a, n, tx⟩ tk ↔ tk = (fns.getD a.toNat fn0).params := by
      rw [eq_iff_get (by rw [hl, hn])]
      have e : ∀ z, tkB fns f ⟨9, a, n, tx⟩ z (tk.getD z 0) = decide ((fns.getD a.toNat fn0).params.getD z 0 = tk.getD z 0) := fun z => by simp [tkB]
      constructor
      · intro h z hz
        have := h z (by rw [hn]; exact hz)
        rw [e] at this
        simpa using this
      · intro h z hz
        rw [e]
        simpa using h z (by rw [← hn]; exact hz)
    have hE : eff fns f ⟨9, a, n, tx⟩ sl tk = whn (tk = (fns.getD a.toNat fn0).params) (if (fns.getD a.toNat fn0).result = 0 then [] else [(fns.getD a.toNat fn0).result]) := by simp [eff]
    by_cases hz : (fns.getD a.toNat fn0).result = 0
    · have hP : putR fns ⟨9, a, n, tx⟩ sl tk = ([], true) := (if_neg (show ¬ putsT 9 = 0 by decide)).trans (if_pos ⟨rfl, hz⟩)
      rw [hP, hE, if_pos hz]
      exact ⟨fun h _ => whn_pos (hT.1 h), fun h => whn_neg fun h9 => h ⟨hT.2 h9, rfl⟩⟩
    · have hP : putR fns ⟨9, a, n, tx⟩ sl tk = ([(fns.getD a.toNat fn0).result], true) := (if_neg (show ¬ putsT 9 = 0 by decide)).trans ((if_neg fun h => hz h.2).trans (by
        have e : putK fns ⟨9, a, n, tx⟩ sl tk = (fns.getD a.toNat fn0).result := rfl
        rw [e]
        have : decide (¬ (fns.getD a.toNat fn0).result = 0) = true := by rw [decide_eq_true_iff]; exact hz
        rw [this]))
      rw [hP, hE, if_neg hz]
      exact ⟨fun h _ => whn_pos (hT.1 h), fun h => whn_neg fun h9 => h ⟨hT.2 h9, rfl⟩⟩
  · have hT : AllT fns f ⟨10, a, n, tx⟩ tk := fun z hz => by simp [takesN] at hz
    have hP : putR fns ⟨10, a, n, tx⟩ sl tk = ([], true) := by simp [putR, putsT]
    rw [hP]
    exact ⟨fun _ _ => by simp [eff], fun h => absurd ⟨hT, rfl⟩ h⟩
  · have hT : AllT fns f ⟨11, a, n, tx⟩ tk ↔ tk.getD 0 0 = 1 := by
      have e : tkB fns f ⟨11, a, n, tx⟩ 0 (tk.getD 0 0) = decide ((1 : Int) = tk.getD 0 0) := by
        have : tkB fns f ⟨11, a, n, tx⟩ 0 (tk.getD 0 0) = fitK 1 (tk.getD 0 0) := by simp [tkB, takesT]
        rw [this, fit_pos (by decide)]
      constructor
      · intro h
        have := h 0 (by simp [takesN])
        rw [e] at this
        exact (by simpa using this : (1 : Int) = tk.getD 0 0).symm
      · intro h z hz
        obtain rfl : z = 0 := by simp [takesN] at hz; omega
        rw [e, h]; rfl
    have hP : putR fns ⟨11, a, n, tx⟩ sl tk = ([], true) := by simp [putR, putsT]
    have hE : eff fns f ⟨11, a, n, tx⟩ sl tk = whn (tk.getD 0 0 = 1) [] := by simp [eff]
    rw [hP, hE]
    exact ⟨fun h _ => whn_pos (hT.1 h), fun h => whn_neg fun h9 => h ⟨hT.2 h9, rfl⟩⟩
  · have hT : AllT fns f ⟨12, a, n, tx⟩ tk ↔ (a = 0 ∨ tk.getD 0 0 = f.result) := by
      have e : ∀ z, tkB fns f ⟨12, a, n, tx⟩ z (tk.getD z 0) = decide (f.result = tk.getD z 0) := fun z => by simp [tkB]
      have hret := hi.ret rfl
      dsimp only at hret
      rcases hret with ⟨ha, _⟩ | ⟨ha, _⟩
      · subst ha
        constructor
        · intro h
          have := h 0 (by simp [takesN])
          rw [e] at this
          exact .inr (by simpa using this : f.result = tk.getD 0 0).symm
        · intro h z hz
          obtain rfl : z = 0 := by simp [takesN] at hz; omega
          rw [e]
          rcases h with h | h
          · cases h
          · rw [h]; simp
      · subst ha
        constructor
        · intro _; exact .inl rfl
        · intro _ z hz; simp [takesN] at hz
    have hP : putR fns ⟨12, a, n, tx⟩ sl tk = ([], true) := by simp [putR, putsT]
    have hE : eff fns f ⟨12, a, n, tx⟩ sl tk = whn (a = 0 ∨ tk.getD 0 0 = f.result) [] := by simp [eff]
    rw [hP, hE]
    exact ⟨fun h _ => whn_pos (hT.1 h), fun h => whn_neg fun h9 => h ⟨hT.2 h9, rfl⟩⟩
  · have hT : AllT fns f ⟨13, a, n, tx⟩ tk ↔ tk.getD 0 0 = 2 := by
      have e : tkB fns f ⟨13, a, n, tx⟩ 0 (tk.getD 0 0) = decide ((2 : Int) = tk.getD 0 0) := by
        have : tkB fns f ⟨13, a, n, tx⟩ 0 (tk.getD 0 0) = fitK 2 (tk.getD 0 0) := by simp [tkB, takesT]
        rw [this, fit_pos (by decide)]
      constructor
      · intro h
        have := h 0 (by simp [takesN])
        rw [e] at this
        exact (by simpa using this : (2 : Int) = tk.getD 0 0).symm
      · intro h z hz
        obtain rfl : z = 0 := by simp [takesN] at hz; omega
        rw [e, h]; rfl
    have hP : putR fns ⟨13, a, n, tx⟩ sl tk = ([], true) := by simp [putR, putsT]
    have hE : eff fns f ⟨13, a, n, tx⟩ sl tk = whn (tk.getD 0 0 = 2) [] := by simp [eff]
    rw [hP, hE]
    exact ⟨fun h _ => whn_pos (hT.1 h), fun h => whn_neg fun h9 => h ⟨hT.2 h9, rfl⟩⟩
  · have hT : AllT fns f ⟨14, a, n, tx⟩ tk ↔ (tk.getD 0 0 = 2 ∧ tk.getD 1 0 = 2) := by
      have e0 : tkB fns f ⟨14, a, n, tx⟩ 0 (tk.getD 0 0) = decide ((2 : Int) = tk.getD 0 0) := by
        have : tkB fns f ⟨14, a, n, tx⟩ 0 (tk.getD 0 0) = fitK 2 (tk.getD 0 0) := by simp [tkB, takesT]
        rw [this, fit_pos (by decide)]
      have e1 : tkB fns f ⟨14, a, n, tx⟩ 1 (tk.getD 1 0) = decide ((2 : Int) = tk.getD 1 0) := by
        have : tkB fns f ⟨14, a, n, tx⟩ 1 (tk.getD 1 0) = fitK 2 (tk.getD 1 0) := by simp [tkB, takesT]
        rw [this, fit_pos (by decide)]
      constructor
      · intro h
        have h0 := h 0 (by simp [takesN])
        have h1 := h 1 (by simp [takesN])
        rw [e0] at h0
        rw [e1] at h1
        exact ⟨(by simpa using h0 : (2 : Int) = tk.getD 0 0).symm, (by simpa using h1 : (2 : Int) = tk.getD 1 0).symm⟩
      · rintro ⟨h0, h1⟩ z hz
        obtain rfl | rfl : z = 0 ∨ z = 1 := by simp [takesN] at hz; omega
        · rw [e0, h0]; rfl
        · rw [e1, h1]; rfl
    have hP : putR fns ⟨14, a, n, tx⟩ sl tk = ([], true) := by simp [putR, putsT]
    have hE : eff fns f ⟨14, a, n, tx⟩ sl tk = whn (tk.getD 0 0 = 2 ∧ tk.getD 1 0 = 2) [] := by simp [eff]
    rw [hP, hE]
    exact ⟨fun h _ => whn_pos (hT.1 h), fun h => whn_neg fun h9 => h ⟨hT.2 h9, rfl⟩⟩
  · have hT : AllT fns f ⟨15, a, n, tx⟩ tk ↔ tk.getD 0 0 = 2 := by
      have e : tkB fns f ⟨15, a, n, tx⟩ 0 (tk.getD 0 0) = decide ((2 : Int) = tk.getD 0 0) := by
        have : tkB fns f ⟨15, a, n, tx⟩ 0 (tk.getD 0 0) = fitK 2 (tk.getD 0 0) := by simp [tkB, takesT]
        rw [this, fit_pos (by decide)]
      constructor
      · intro h
        have := h 0 (by simp [takesN])
        rw [e] at this
        exact (by simpa using this : (2 : Int) = tk.getD 0 0).symm
      · intro h z hz
        obtain rfl : z = 0 := by simp [takesN] at hz; omega
        rw [e, h]; rfl
    have hP : putR fns ⟨15, a, n, tx⟩ sl tk = ([], true) := by simp [putR, putsT]
    have hE : eff fns f ⟨15, a, n, tx⟩ sl tk = whn (tk.getD 0 0 = 2) [] := by simp [eff]
    rw [hP, hE]
    exact ⟨fun h _ => whn_pos (hT.1 h), fun h => whn_neg fun h9 => h ⟨hT.2 h9, rfl⟩⟩
  · have hT : AllT fns f ⟨16, a, n, tx⟩ tk := fun z hz => by simp [takesN] at hz
    have hP : putR fns ⟨16, a, n, tx⟩ sl tk = ([], true) := by simp [putR, putsT]
    rw [hP]
    exact ⟨fun _ _ => by simp [eff], fun h => absurd ⟨hT, rfl⟩ h⟩
/-- The number of instructions, which is no place, is among those where it goes on just where one of these is no place. -/
theorem goes_in {fns : List Fn} {f : Fn} {p : Nat} (hp : p < f.ins.length) (hi : InsR fns f (f.ins.getD p in0)) : (∀ g ∈ goes (f.ins.getD p in0) p, g < f.ins.length) ↔ ¬ (f.ins.length : Int) ∈ nums (goes (f.ins.getD p in0) p) := by
  have hle : ∀ g ∈ goes (f.ins.getD p in0) p, g ≤ f.ins.length := by
    intro g hg
    have hpl := hi.place
    generalize f.ins.getD p in0 = i at hg hpl
    unfold goes at hg
    split at hg
    · simp at hg
    · split at hg
      · rename_i h
        simp at hg
        have := hpl (.inl h)
        omega
      · split at hg
        · rename_i h
          simp at hg
          have := hpl (.inr h)
          omega
        · simp at hg
          omega
  unfold nums
  rw [List.mem_map]
  constructor
  · rintro h ⟨g, hg, e⟩
    have := h g hg
    omega
  · intro h g hg
    have h1 := hle g hg
    rcases Nat.lt_or_ge g f.ins.length with h2 | h2
    · exact h2
    · exact absurd ⟨g, hg, by omega⟩ h
end Go.Proofs.YtfedmbadhcdpdaaGreatDoor.C
/-! What a place leaves, in the program: what the walk starts from. -/
namespace Go.Proofs.YtfedmbadhcdpdaaGreatDoor.C
open Go.RowKit
set_option maxRecDepth 20000
/-- What lies at the places, in a block. -/
def LyRow (W : World) (g n : Nat) (A : Nat → Sh) : Prop := ∃ cur : Array Value, W.heap[g]? = some (.cells cur 64 (0, 0)) ∧ cur.size = n * 3 ∧ ∀ i, i < n → cur[i * 3]? = some (.int .i64 ((A i).st : Nat)) ∧ cur[i * 3 + 1]? = some (.string (kt (A i).sl)) ∧ cur[i * 3 + 2]? = some (.string (kt (A i).sk))
theorem LyRow.lt {W : World} {g n : Nat} {A : Nat → Sh} (h : LyRow W g n A) : g < W.heap.size := by
  obtain ⟨cur, e, _⟩ := h
  exact lt_hp e
theorem LyRow.keep {W V : World} {g n : Nat} {A : Nat → Sh} (h : LyRow W g n A) (hg : V.heap[g]? = W.heap[g]?) : LyRow V g n A := by
  obtain ⟨cur, e, hz⟩ := h
  exact ⟨cur, hg.trans e, hz⟩
theorem LyRow.next {W V : World} {g n : Nat} {A : Nat → Sh} (h : LyRow W g n A) (hb : Below W.heap.size W V) : LyRow V g n A := h.keep (hb.block g h.lt)
theorem LyRow.at {W : World} {g n : Nat} {A : Nat → Sh} (h : LyRow W g n A) {i : Nat} (hi : i < n) : W.cell? ⟨g, i * 3, none⟩ = some (.int .i64 ((A i).st : Nat)) ∧ W.cell? ⟨g, i * 3 + 1, none⟩ = some (.string (kt (A i).sl)) ∧ W.cell? ⟨g, i * 3 + 2, none⟩ = some (.string (kt (A i).sk)) ∧ W.frozen? ⟨g, i * 3, none⟩ = false ∧ W.frozen? ⟨g, i * 3 + 1, none⟩ = false ∧ W.frozen? ⟨g, i * 3 + 2, none⟩ = false := by
  obtain ⟨cur, e, hz, h1⟩ := h
  obtain ⟨e0, e1, e2⟩ := h1 i hi
  exact ⟨(cell_hp e _).trans e0, (cell_hp e _).trans e1, (cell_hp e _).trans e2, frozen_hp e _, frozen_hp e _, frozen_hp e _⟩
theorem LyRow.set {W : World} {g n : Nat} {A : Nat → Sh} (h : LyRow W g n A) {i : Nat} (hi : i < n) (s : Sh) : LyRow (((W.setCell ⟨g, i * 3, none⟩ (.int .i64 (s.st : Nat))).setCell ⟨g, i * 3 + 1, none⟩ (.string (kt s.sl))).setCell ⟨g, i * 3 + 2, none⟩ (.string (kt s.sk))) g n (upd A i s) := by
  obtain ⟨cur, e, hz, h1⟩ := h
  refine ⟨_, set_cells (set_cells (set_cells e _ _) _ _) _ _, by simp [hz], fun q hq => ?_⟩
  by_cases hqi : q = i
  · subst hqi
    rw [upd_at]
    refine ⟨?_, ?_, ?_⟩
    · rw [Array.getElem?_setIfInBounds_ne (by omega), Array.getElem?_setIfInBounds_ne (by omega), Array.getElem?_setIfInBounds_self_of_lt (by omega)]
    · rw [Array.getElem?_setIfInBounds_ne (by omega), Array.getElem?_setIfInBounds_self_of_lt (by simp; omega)]
    · rw [Array.getElem?_setIfInBounds_self_of_lt (by simp; omega)]
  · rw [upd_ne _ _ hqi]
    obtain ⟨e0, e1, e2⟩ := h1 q hq
    refine ⟨?_, ?_, ?_⟩
    · rw [Array.getElem?_setIfInBounds_ne (by omega), Array.getElem?_setIfInBounds_ne (by omega), Array.getElem?_setIfInBounds_ne (by omega)]; exact e0
    · rw [Array.getElem?_setIfInBounds_ne (by omega), Array.getElem?_setIfInBounds_ne (by omega), Array.getElem?_setIfInBounds_ne (by omega)]; exact e1
    · rw [Array.getElem?_setIfInBounds_ne (by omega), Array.getElem?_setIfInBounds_ne (by omega), Array.getElem?_setIfInBounds_ne (by omega)]; exact e2
def LvEnd (fns : List Fn) (f : Fn) (p : Nat) (s : Sh) (w : World) (e : Ending) (w' : World) : Prop := ∃ (st : Int) (u v : ByteArray) (fit : Bool), e = .returned (.tuple #[.agg #[.int .i64 st, .string u, .string v], .bool fit]) ∧ (fit = true → .agg #[.int .i64 st, .string u, .string v] = lv (behind fns f p s)) ∧ (fit = false ↔ behind fns f p s = top) ∧ Below w.heap.size w w'
/-- While leaves runs. -/
structure LX (fns : List Fn) (f : Fn) (w : World) (b : Nat) (cv pv iv wv : Value) (gL : Nat) (A : Nat → Sh) (b6 b7 : Nat) (s : Sh) (i : In) (W : World) : Prop where
  lo : Below w.heap.size w W
  ms : MS fns f b cv pv iv (.slice (some ⟨gL, 0, none⟩) f.ins.length f.ins.length) wv W
  ly : LyRow W gL f.ins.length A
  en : EnvI W
  e4 : W.heap[w.heap.size]? = some (lbox 0 ⟨#[]⟩ ⟨#[]⟩)
  e6 : W.heap[b6]? = some (lbox (s.st : Nat) (kt s.sl) (kt s.sk))
  e7 : W.heap[b7]? = some (ibox i)
theorem LX.next {fns : List Fn} {f : Fn} {w : World} {b : Nat} {cv pv iv wv : Value} {gL : Nat} {A : Nat → Sh} {b6 b7 : Nat} {s : Sh} {i : In} {W V : World} (h : LX fns f w b cv pv iv wv gL A b6 b7 s i W) (hb : Below W.heap.size W V) : LX fns f w b cv pv iv wv gL A b6 b7 s i V :=
  ⟨h.lo.trans (hb.mono h.lo.size), h.ms.next hb, h.ly.next hb, h.en.next hb, hp_next h.e4 hb, hp_next h.e6 hb, hp_next h.e7 hb⟩
theorem LX.start1 {fns : List Fn} {f : Fn} {w : World} {b : Nat} {cv pv iv wv : Value} {gL : Nat} {A : Nat → Sh} {s : Sh} {i : In} {W0 : World} (lo : Below w.heap.size w W0) (ms : MS fns f b cv pv iv (.slice (some ⟨gL, 0, none⟩) f.ins.length f.ins.length) wv W0) (ly : LyRow W0 gL f.ins.length A) (en : EnvI W0) (e4 : W0.heap[w.heap.size]? = some (lbox 0 ⟨#[]⟩ ⟨#[]⟩)) :
    LX fns f w b cv pv iv wv gL A (W0.heap.size + 1) W0.heap.size s i ((W0.alloc (ibox i)).alloc (lbox (s.st : Nat) (kt s.sl) (kt s.sk))).drew ∧ LX fns f w b cv pv iv wv gL A W0.heap.size (W0.heap.size + 1) s i ((W0.alloc (lbox (s.st : Nat) (kt s.sl) (kt s.sk))).alloc (ibox i)).drew := by
  obtain ⟨t0, t1, hb, _⟩ := two W0 (ibox i) (lbox (s.st : Nat) (kt s.sl) (kt s.sk))
  obtain ⟨r0, r1, hb2, _⟩ := two W0 (lbox (s.st : Nat) (kt s.sl) (kt s.sk)) (ibox i)
  have k1 := hb.drew
  have k2 := hb2.drew
  exact ⟨⟨lo.trans (k1.mono lo.size), ms.next k1, ly.next k1, en.next k1, hp_next e4 k1, t1, t0⟩, ⟨lo.trans (k2.mono lo.size), ms.next k2, ly.next k2, en.next k2, hp_next e4 k2, r0, r1⟩⟩
theorem lv_none {fns : List Fn} {f : Fn} {p : Nat} {s : Sh} {w W : World} (lo : Below w.heap.size w W) (h : behind fns f p s = top) : LvEnd fns f p s w (.returned (.tuple #[.agg #[.int .i64 0, .string ⟨#[]⟩, .string ⟨#[]⟩], .bool false])) W :=
  ⟨0, _, _, false, rfl, (fun h => by cases h), by simp [h], lo⟩
theorem kt_set {sl : List Int} {q : Nat} (hq : q < sl.length) (x : Int) : kt (sl.take q) ++ kt [x] ++ kt (sl.drop (q + 1)) = kt (sl.set q x) := by
  rw [← kt_append, ← kt_append, List.set_eq_take_append_cons_drop, if_pos hq]
  simp
/-- What is known once the stack is long enough and no way leads out. -/
structure LM (fns : List Fn) (f : Fn) (p : Nat) (s : Sh) (i : In) (B : Nat) (tk : List Int) : Prop where
  st : s.st = 1
  ins : f.ins.getD p in0 = i
  ir : InsR fns f i
  fr : ∀ g ∈ fns, FnR fns g
  len : s.sk.length = B + tk.length
  dr : s.sk.drop B = tk
  nt : takesN fns i = tk.length
  go : ∀ g ∈ goes i p, g < f.ins.length
  rg : ∀ x ∈ tk, 1 ≤ x ∧ x ≤ 10
theorem LM.drop {fns : List Fn} {f : Fn} {p : Nat} {s : Sh} {i : In} {B : Nat} {tk : List Int} (h : LM fns f p s i B tk) : s.sk.length - takesN fns (f.ins.getD p in0) = B := by rw [h.ins, h.nt]; have := h.len; omega
theorem LM.shape {fns : List Fn} {f : Fn} {p : Nat} {s : Sh} {i : In} {B : Nat} {tk : List Int} (h : LM fns f p s i B tk) : s = ⟨1, s.sl, s.sk⟩ := by
  have := h.st
  cases s
  simp at this
  rw [this]
theorem LM.bad {fns : List Fn} {f : Fn} {p : Nat} {s : Sh} {i : In} {B : Nat} {tk : List Int} (h : LM fns f p s i B tk) (hn : ¬ (AllT fns f i tk ∧ (putR fns i s.sl tk).2 = true)) : behind fns f p s = top := by
  rw [h.shape]
  refine behind_bad fun _ => ?_
  rw [h.drop, h.dr, h.ins]
  exact (eff_put h.ir h.fr h.rg h.nt.symm).2 hn
theorem LM.good {fns : List Fn} {f : Fn} {p : Nat} {s : Sh} {i : In} {B : Nat} {tk : List Int} (h : LM fns f p s i B tk) (ha : AllT fns f i tk) (hp : (putR fns i s.sl tk).2 = true) : behind fns f p s = if B + (putR fns i s.sl tk).1.length ≤ 600 then ⟨1, if i.op = 3 then s.sl.set i.a.toNat (s.sk.getLastD 0) else s.sl, s.sk.take B ++ (putR fns i s.sl tk).1⟩ else top := by
  have := behind_in (fns := fns) (f := f) (p := p) (sl := s.sl) (sk := s.sk) (l := (putR fns i s.sl tk).1) (by rw [h.ins, h.nt]; have := h.len; omega) (by rw [h.ins]; exact h.go) (by rw [h.drop, h.dr, h.ins]; exact (eff_put h.ir h.fr h.rg h.nt.symm).1 ha hp)
  rw [h.drop, h.ins] at this
  rw [← this, ← h.shape]
theorem LM.last {fns : List Fn} {f : Fn} {p : Nat} {s : Sh} {i : In} {B : Nat} {tk : List Int} (h : LM fns f p s i B tk) (h3 : i.op = 3) : tk.length = 1 ∧ s.sk.getLastD 0 = tk.getD 0 0 := by
  have hl : tk.length = 1 := by rw [← h.nt]; simp [takesN, h3]
  refine ⟨hl, ?_⟩
  have hle := h.len
  have hB : B < s.sk.length := by omega
  have hne : s.sk ≠ [] := fun e => by rw [e] at hB; exact absurd hB (Nat.not_lt_zero _)
  have hq : s.sk.length - 1 = B := by omega
  rw [← h.dr, List.getLastD_eq_getLast?, List.getLast?_eq_getElem?, hq, List.getD_eq_getElem?_getD, List.getElem?_drop, Nat.add_zero]
theorem put_len (fns : List Fn) (i : In) (sl tk : List Int) : (putR fns i sl tk).1.length ≤ 1 := by
  unfold putR
  (repeat' split) <;> simp
/-- The end of leaves. -/
theorem lv_last {fns : List Fn} {f : Fn} {p : Nat} {s : Sh} {i : In} {B : Nat} {tk : List Int} (h : LM fns f p s i B tk) (ha : AllT fns f i tk) {w W : World} (lo : Below w.heap.size w W) {sl' : List Int} (hsl : sl' = if i.op = 3 then s.sl.set i.a.toNat (s.sk.getLastD 0) else s.sl) {fit : Bool} (hfit : fit = ((putR fns i s.sl tk).2 && decide (B + (putR fns i s.sl tk).1.length ≤ 600))) :
    LvEnd fns f p s w (.returned (.tuple #[.agg #[.int .i64 1, .string (kt sl'), .string (kt (s.sk.take B ++ (putR fns i s.sl tk).1))], .bool fit])) W := by
  refine ⟨1, _, _, fit, rfl, fun ht => ?_, ?_, lo⟩
  · rw [hfit, Bool.and_eq_true, decide_eq_true_iff] at ht
    rw [h.good ha ht.1, if_pos ht.2, ← hsl]
    rfl
  · by_cases hp : (putR fns i s.sl tk).2 = true
    · rw [h.good ha hp]
      by_cases h6 : B + (putR fns i s.sl tk).1.length ≤ 600
      · rw [if_pos h6]
        have hf : fit = true := by rw [hfit, hp]; simpa using h6
        rw [hf]
        constructor
        · intro e; cases e
        · intro e; injection e with e1 _ _; cases e1
      · rw [if_neg h6]
        have hf : fit = false := by rw [hfit, hp]; simpa using h6
        exact ⟨fun _ => rfl, fun _ => hf⟩
    · have hf : fit = false := by rw [hfit]; simp [hp]
      exact ⟨fun _ => h.bad fun h9 => hp h9.2, fun _ => hf⟩
theorem lv_last2 {fns : List Fn} {f : Fn} {p : Nat} {s : Sh} {i : In} {B : Nat} {tk l : List Int} {ok : Bool} (h : LM fns f p s i B tk) (ha : AllT fns f i tk) (hl : (putR fns i s.sl tk).1 = l) (hk : (putR fns i s.sl tk).2 = ok) {sl' : List Int} (hsl : sl' = if i.op = 3 then s.sl.set i.a.toNat (s.sk.getLastD 0) else s.sl) {fit : Bool} (hfit : fit = (ok && decide (B + l.length ≤ 600))) {w W : World} (lo : Below w.heap.size w W) :
    LvEnd fns f p s w (.returned (.tuple #[.agg #[.int .i64 1, .string (kt sl'), .string (kt (s.sk.take B ++ l))], .bool fit])) W := by
  subst hl hk
  exact lv_last h ha lo hsl hfit
theorem set3_l {W : World} {g : Nat} {st : Int} {x y : ByteArray} (e : W.heap[g]? = some (lbox st x y)) (st' : Int) (q r : ByteArray) : (((W.setCell ⟨g, 0, none⟩ (.int .i64 st')).setCell ⟨g, 1, none⟩ (.string q)).setCell ⟨g, 2, none⟩ (.string r)).heap[g]? = some (lbox st' q r) := by
  unfold World.setCell
  simp only [Array.getElem?_modify, e]
  simp [lbox]
/-- Behind the first store into the result. -/
structure LZ (w : World) (b6 b7 : Nat) (s : Sh) (i : In) (at5 : Option Addr) (ct5 : Nat) (tk : List Int) (x y : ByteArray) (W : World) : Prop where
  lo : Below w.heap.size w W
  e4 : W.heap[w.heap.size]? = some (lbox 1 x y)
  e6 : W.heap[b6]? = some (lbox (s.st : Nat) (kt s.sl) (kt s.sk))
  e7 : W.heap[b7]? = some (ibox i)
  row : IntRow W (.slice at5 tk.length ct5) tk
  n6 : ¬ b6 = w.heap.size
  n7 : ¬ b7 = w.heap.size
theorem LZ.next {w : World} {b6 b7 : Nat} {s : Sh} {i : In} {at5 : Option Addr} {ct5 : Nat} {tk : List Int} {x y : ByteArray} {W V : World} (h : LZ w b6 b7 s i at5 ct5 tk x y W) (hb : Below W.heap.size W V) : LZ w b6 b7 s i at5 ct5 tk x y V := ⟨h.lo.trans (hb.mono h.lo.size), hp_next h.e4 hb, hp_next h.e6 hb, hp_next h.e7 hb, h.row.next hb, h.n6, h.n7⟩
theorem LX.store {fns : List Fn} {f : Fn} {w : World} {b : Nat} {cv pv iv wv : Value} {gL : Nat} {A : Nat → Sh} {b6 b7 : Nat} {s : Sh} {i : In} {W : World} (h : LX fns f w b cv pv iv wv gL A b6 b7 s i W) (hst : s.st = 1) {at5 : Option Addr} {ct5 : Nat} {tk : List Int} (hr : IntRow W (.slice at5 tk.length ct5) tk) (x y : ByteArray) : LZ w b6 b7 s i at5 ct5 tk x y (((W.setCell ⟨w.heap.size, 0, none⟩ (.int .i64 1)).setCell ⟨w.heap.size, 1, none⟩ (.string x)).setCell ⟨w.heap.size, 2, none⟩ (.string y)).drew := by
  have n6 : ¬ b6 = w.heap.size := fun e => by
    have h6 := h.e6
    rw [e, h.e4, hst] at h6
    simp [lbox] at h6
  have n7 : ¬ b7 = w.heap.size := fun e => by
    have h7 := h.e7
    rw [e, h.e4] at h7
    simp [lbox, ibox] at h7
  refine ⟨(set_lo (set_lo (set_lo h.lo _ _ (Nat.le_refl _) _) _ _ (Nat.le_refl _) _) _ _ (Nat.le_refl _) _).drew, set3_l h.e4 1 x y, ?_, ?_, ?_, n6, n7⟩
  · show (((W.setCell ⟨w.heap.size, 0, none⟩ (.int .i64 1)).setCell ⟨w.heap.size, 1, none⟩ (.string x)).setCell ⟨w.heap.size, 2, none⟩ (.string y)).heap[b6]? = _
    rw [set3_other n6]; exact h.e6
  · show (((W.setCell ⟨w.heap.size, 0, none⟩ (.int .i64 1)).setCell ⟨w.heap.size, 1, none⟩ (.string x)).setCell ⟨w.heap.size, 2, none⟩ (.string y)).heap[b7]? = _
    rw [set3_other n7]; exact h.e7
  · refine hr.keep fun k cur hk => ?_
    show (((W.setCell ⟨w.heap.size, 0, none⟩ (.int .i64 1)).setCell ⟨w.heap.size, 1, none⟩ (.string x)).setCell ⟨w.heap.size, 2, none⟩ (.string y)).heap[k]? = _
    exact set3_other (fun e => by rw [e, h.e4] at hk; simp [lbox] at hk) _ _ _ _ _ _
theorem row_ne {W : World} {g n c k : Nat} {l : List Int} (h : IntRow W (.slice (some ⟨g, 0, none⟩) n c) l) (hl : 0 < l.length) {st : Int} {x y : ByteArray} (e : W.heap[k]? = some (lbox st x y)) : ¬ g = k := by
  obtain ⟨ad, c', e1, _, _, h3⟩ := h
  injection e1 with ea _ _
  rcases h3 with h3 | ⟨g', cur, e2, e3, _⟩
  · rw [h3] at hl; exact absurd hl (Nat.lt_irrefl _)
  · rw [← ea] at e2
    injection e2 with e2
    injection e2 with e2
    intro hg
    rw [← e2, hg, e] at e3
    simp [lbox] at e3
theorem cell_set_ne (W : World) {g k : Nat} (h : ¬ k = g) (j i : Nat) (v : Value) : (W.setCell ⟨g, j, none⟩ v).cell? ⟨k, i, none⟩ = W.cell? ⟨k, i, none⟩ := by
  unfold World.cell?
  rw [set_other _ _ _ _ _ h]
end Go.Proofs.YtfedmbadhcdpdaaGreatDoor.C
