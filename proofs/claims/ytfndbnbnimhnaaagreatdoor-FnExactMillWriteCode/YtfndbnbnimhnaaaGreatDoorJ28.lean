import Derived.OwnWalk
import Derived.Test.YtfndbnbnimhnaaaGreatDoorJ26
import Derived.Test.YtfndbnbnimhnaaaGreatDoorJ24
import Derived.Test.YtfndbnbnimhnaaaGreatDoorJ27
/-! What the program's shaper reads: the tables and itself. -/
namespace Go.Proofs.YtfndbnbnimhnaaaGreatDoor.C
open Go.RowKit
set_option maxRecDepth 20000
/-- A row of numbers that lies anywhere. -/
def PartA (W : World) (v : Value) (l : List Int) : Prop := ∃ (ad : Option Addr) (c : Nat), v = .slice ad l.length c ∧ (l = [] ∨ ∃ ka : Addr, ad = some ka ∧ ka.block < W.heap.size ∧ ∀ i, i < l.length → W.cell? (ka.add i) = some (.int .i64 (l.getD i 0)))
theorem add_block (a : Addr) (i : Nat) : (a.add i).block = a.block := by
  unfold Addr.add
  split <;> rfl
theorem PartA.next {W V : World} {v : Value} {l : List Int} (h : PartA W v l) (hb : Below W.heap.size W V) : PartA V v l := by
  obtain ⟨ad, c, e, h1⟩ := h
  refine ⟨ad, c, e, ?_⟩
  rcases h1 with h1 | ⟨ka, e1, e2, e3⟩
  · exact .inl h1
  · exact .inr ⟨ka, e1, Nat.lt_of_lt_of_le e2 hb.size, fun i hi => (hb.cell (p := ka.add i) (by rw [add_block]; exact e2)).trans (e3 i hi)⟩
theorem PartA.sl {W : World} {v : Value} {l : List Int} (h : PartA W v l) : ∃ ad c, v = .slice ad l.length c := by
  obtain ⟨ad, c, e, _⟩ := h
  exact ⟨ad, c, e⟩
theorem PartA.at {W : World} {v : Value} {l : List Int} (h : PartA W v l) {i : Nat} (hi : i < l.length) : ∃ ka c, v = .slice (some ka) l.length c ∧ W.cell? (ka.add i) = some (.int .i64 (l.getD i 0)) := by
  obtain ⟨ad, c, e, h1⟩ := h
  rcases h1 with h1 | ⟨ka, e1, e2, e3⟩
  · rw [h1] at hi; exact absurd hi (Nat.not_lt_zero _)
  · subst e1
    exact ⟨ka, c, e, e3 i hi⟩
/-- The table of instructions: what each takes, and what it puts. -/
def takesT (o : Nat) : List Int := if o = 3 ∨ o = 4 ∨ o = 5 then [-2] else if o = 6 then [-2, -2] else if o = 7 then [-1] else if o = 11 then [1] else if o = 13 ∨ o = 15 then [2] else if o = 14 then [2, 2] else []
def putsT (o : Nat) : Int := if o = 1 ∨ o = 7 then 1 else if o = 2 then 2 else if o = 5 then 3 else if o = 6 then 4 else if o = 8 then 5 else if o = 9 then 6 else 0
def useT (o : Nat) : Int := if o = 1 then 1 else if o = 2 ∨ o = 3 then 2 else if o = 5 then 3 else if o = 6 then 4 else if o = 7 then 5 else if o = 8 then 6 else if o = 9 then 7 else if o = 10 ∨ o = 11 then 8 else if o = 12 then 9 else 0
structure EnvI (W : World) : Prop where
  lt1 : 3 < W.heap.size
  lt2 : 6 < W.heap.size
  rows : ∀ o : Nat, 1 ≤ o → o ≤ 16 → ∃ v, W.cell? ⟨3, o * 3, none⟩ = some (.int .i64 (useT o)) ∧ W.cell? ⟨3, o * 3 + 1, none⟩ = some v ∧ W.cell? ⟨3, o * 3 + 2, none⟩ = some (.int .i64 (putsT o)) ∧ PartA W v (takesT o)
  signs : ∀ k : Nat, 1 ≤ k → k ≤ 12 → ∃ v, W.cell? ⟨6, k * 2, none⟩ = some v ∧ W.cell? ⟨6, k * 2 + 1, none⟩ = some (.int .i64 (sig k).2) ∧ PartA W v (sig k).1
theorem EnvI.next {W V : World} (h : EnvI W) (hb : Below W.heap.size W V) : EnvI V := by
  refine ⟨Nat.lt_of_lt_of_le h.lt1 hb.size, Nat.lt_of_lt_of_le h.lt2 hb.size, fun o h1 h2 => ?_, fun k h1 h2 => ?_⟩
  · obtain ⟨v, a, b, c, d⟩ := h.rows o h1 h2
    exact ⟨v, (hb.cell (p := ⟨3, _, none⟩) h.lt1).trans a, (hb.cell (p := ⟨3, _, none⟩) h.lt1).trans b, (hb.cell (p := ⟨3, _, none⟩) h.lt1).trans c, d.next hb⟩
  · obtain ⟨v, a, b, c⟩ := h.signs k h1 h2
    exact ⟨v, (hb.cell (p := ⟨6, _, none⟩) h.lt2).trans a, (hb.cell (p := ⟨6, _, none⟩) h.lt2).trans b, c.next hb⟩
/-- The shaper in its block. -/
structure MS (fns : List Fn) (f : Fn) (b : Nat) (cv pv iv xv wv : Value) (W : World) : Prop where
  e : W.heap[b]? = some (.cells #[cv, .string f.name, pv, .int .i64 f.result, .int .i64 f.slots, iv, xv, wv] 184)
  fr : FnsRow W cv fns
  pr : IntRow W pv f.params
  ir : InsRow W iv f.ins
theorem MS.next {fns : List Fn} {f : Fn} {b : Nat} {cv pv iv xv wv : Value} {W V : World} (h : MS fns f b cv pv iv xv wv W) (hb : Below W.heap.size W V) : MS fns f b cv pv iv xv wv V := ⟨hp_next h.e hb, h.fr.next hb, h.pr.next hb, h.ir.next hb⟩
theorem MS.lt {fns : List Fn} {f : Fn} {b : Nat} {cv pv iv xv wv : Value} {W : World} (h : MS fns f b cv pv iv xv wv W) : b < W.heap.size := lt_hp h.e
theorem mx {fns : List Fn} {f : Fn} {b : Nat} {cv pv iv xv wv : Value} {W : World} (h : MS fns f b cv pv iv xv wv W) :
    W.cell? ⟨b, 0, none⟩ = some cv ∧ W.cell? ⟨b, 1, none⟩ = some (.string f.name) ∧ W.cell? ⟨b, 2, none⟩ = some pv ∧ W.cell? ⟨b, 3, none⟩ = some (.int .i64 f.result) ∧ W.cell? ⟨b, 4, none⟩ = some (.int .i64 f.slots) ∧ W.cell? ⟨b, 5, none⟩ = some iv ∧ W.cell? ⟨b, 6, none⟩ = some xv ∧ W.cell? ⟨b, 7, none⟩ = some wv := by
  have e := h.e
  refine ⟨?_, ?_, ?_, ?_, ?_, ?_, ?_, ?_⟩ <;> simp [World.cell?, e]
theorem takesN_T {fns : List Fn} {i : In} {o : Nat} (ho : i.op = o) (h8 : ¬ o = 8) (h9 : ¬ o = 9) (h12 : ¬ o = 12) (h1 : 1 ≤ o) (h16 : o ≤ 16) : takesN fns i = (takesT o).length := by
  unfold takesN
  rw [ho]
  obtain rfl | rfl | rfl | rfl | rfl | rfl | rfl | rfl | rfl | rfl | rfl | rfl | rfl : o = 1 ∨ o = 2 ∨ o = 3 ∨ o = 4 ∨ o = 5 ∨ o = 6 ∨ o = 7 ∨ o = 10 ∨ o = 11 ∨ o = 13 ∨ o = 14 ∨ o = 15 ∨ o = 16 := by omega
  all_goals rfl
theorem ibox_new (w : World) (i : In) : (w.alloc (ibox i)).heap[w.heap.size]? = some (ibox i) := heap_alloc_new _ _
set_option maxHeartbeats 2000000 in
theorem takenBy_any {fns : List Fn} {f : Fn} {b : Nat} {cv pv iv xv wv : Value} {w : World} (hM : MS fns f b cv pv iv xv wv w) (hE : EnvI w) {i : In} (hi : InsR fns f i) :
    Calls Tryz.prog 127 #[.pointer (some ⟨b, 0, none⟩), inV i] w fun e w' => e = .returned (.int .i64 (takesN fns i : Nat)) ∧ Below w.heap.size w w' := by
  have HLO : Hid (Below w.heap.size w (w.alloc (ibox i))) := hid ((Below.refl _ _).alloc (Nat.le_refl _) _)
  have HM := hid (hM.next HLO.out)
  have HE := hid (hE.next HLO.out)
  have HI := hid hi
  obtain ⟨j0, j1, j2, j3⟩ := ix (ibox_new w i)
  obtain ⟨m0, m1, m2, m3, m4, m5, m6, m7⟩ := mx HM.out
  obtain ⟨op, a, n, tx⟩ := i
  have hop := hi.op
  dsimp only at hop j0 j1 j2 j3
  clear hM hE hi
  unfold inV
  dsimp only
  go_enter Tryz.func127, Tryz.ntmps127
  go_upto_region 1 with fail
  obtain ⟨W1, hW1⟩ : ∃ W, w.alloc (ibox ⟨op, a, n, tx⟩) = W := ⟨_, rfl⟩
  rw [hW1] at HLO HM HE j0 j1 j2 j3 m0 m1 m2 m3 m4 m5 m6 m7
  unfold ibox at hW1
  rw [hW1]
  clear hW1
  by_cases h8 : op = 8
  · subst h8
    have hb := HI.out.built rfl
    dsimp only at hb
    obtain ⟨k, rfl⟩ : ∃ k : Nat, a = k := ⟨a.toNat, by omega⟩
    have HN : Hid (takesN fns ⟨8, (k : Int), n, tx⟩ = (sig k).1.length) := hid (by simp [takesN])
    obtain ⟨v, s0, s1, s2⟩ := HE.out.signs k (by omega) (by omega)
    obtain ⟨ad, c, rfl⟩ := s2.sl
    have hki : (k : Int) < 13 := by omega
    have hkn : k < 13 := by omega
    clear hb s2
    go_wp2_with fail
    go_ret
    exact ⟨by rw [HN.out]; rfl, HLO.out⟩
  · have e8 : (op == 8) = false := by simpa using h8
    by_cases h9 : op = 9
    · subst h9
      have hb := HI.out.call rfl
      dsimp only at hb
      obtain ⟨k, rfl⟩ : ∃ k : Nat, a = k := ⟨a.toNat, by omega⟩
      have hk : k < fns.length := by omega
      have HN : Hid (takesN fns ⟨9, (k : Int), n, tx⟩ = (fns.getD k fn0).params.length) := hid (by simp [takesN])
      obtain ⟨gF, cF2, hcv, hgF, pv2, iv2, n0, n1, n2, n3, n4, hpv, _⟩ := HM.out.fr.at hk
      obtain ⟨aP, cP, rfl⟩ := hpv.sl
      rw [hcv] at m0
      have hki : (k : Int) < (fns.length : Int) := by omega
      obtain ⟨L, hL⟩ : ∃ L, (fns.getD k fn0).params.length = L := ⟨_, rfl⟩
      rw [hL] at n1 HN
      clear hb hpv hL n0 n2 n3 n4 h8 hcv
      go_wp2_with fail
      go_quiet (fail)
      go_wp2
      go_ret
      exact ⟨by rw [HN.out]; rfl, below_drewN HLO.out _⟩
    · have e9 : (op == 9) = false := by simpa using h9
      by_cases h12 : op = 12
      · subst h12
        have hb := HI.out.ret rfl
        dsimp only at hb
        obtain ⟨k, rfl⟩ : ∃ k : Nat, a = k := ⟨a.toNat, by omega⟩
        have HN : Hid (takesN fns ⟨12, (k : Int), n, tx⟩ = k) := hid (by simp [takesN])
        clear hb
        go_wp2_with fail
        go_ret
        exact ⟨by rw [HN.out]; rfl, HLO.out⟩
      · have e12 : (op == 12) = false := by simpa using h12
        obtain ⟨o, rfl⟩ : ∃ o : Nat, op = o := ⟨op.toNat, by omega⟩
        have ho1 : 1 ≤ o := by omega
        have ho2 : o ≤ 16 := by omega
        have HN := hid (takesN_T (fns := fns) (i := ⟨(o : Int), a, n, tx⟩) (o := o) rfl (by omega) (by omega) (by omega) ho1 ho2)
        obtain ⟨v, s0, s1, s2, s3⟩ := HE.out.rows o ho1 ho2
        obtain ⟨ad, c, rfl⟩ := s3.sl
        have hoi : (o : Int) < 17 := by omega
        have hon : o < 17 := by omega
        clear h8 h9 h12 s0 s2 s3
        go_wp2_with fail
        go_ret
        exact ⟨by rw [HN.out]; rfl, HLO.out⟩
end Go.Proofs.YtfndbnbnimhnaaaGreatDoor.C
/-! A row of shapes in a block of one's own. -/
namespace Go.Proofs.YtfndbnbnimhnaaaGreatDoor.C
open Go.RowKit
set_option maxRecDepth 20000
def ShRow (W : World) (g n : Nat) (A : Nat → Sh) : Prop := ∃ cur : Array Value, W.heap[g]? = some (.cells cur 125 (0, 0)) ∧ cur.size = n * 3 ∧ ∀ i, i < n → ∃ a b, cur[i * 3]? = some (.int .i64 ((A i).st : Nat)) ∧ cur[i * 3 + 1]? = some a ∧ cur[i * 3 + 2]? = some b ∧ IntRow W a (A i).sl ∧ IntRow W b (A i).sk
theorem ShRow.lt {W : World} {g n : Nat} {A : Nat → Sh} (h : ShRow W g n A) : g < W.heap.size := by
  obtain ⟨cur, e, _⟩ := h
  exact lt_hp e
theorem ShRow.keep {W V : World} {g n : Nat} {A : Nat → Sh} (h : ShRow W g n A) (hg : V.heap[g]? = W.heap[g]?) (hk : ∀ (k : Nat) (cur : Array Value), W.heap[k]? = some (.cells cur 3 (0, 0)) → V.heap[k]? = W.heap[k]?) : ShRow V g n A := by
  obtain ⟨cur, e, hz, h1⟩ := h
  refine ⟨cur, hg.trans e, hz, fun i hi => ?_⟩
  obtain ⟨a, b, e0, e1, e2, r1, r2⟩ := h1 i hi
  exact ⟨a, b, e0, e1, e2, r1.keep hk, r2.keep hk⟩
theorem ShRow.next {W V : World} {g n : Nat} {A : Nat → Sh} (h : ShRow W g n A) (hb : Below W.heap.size W V) : ShRow V g n A := h.keep (hb.block g h.lt) fun k _ hk => hb.block k (lt_hp hk)
theorem ShRow.at {W : World} {g n : Nat} {A : Nat → Sh} (h : ShRow W g n A) {i : Nat} (hi : i < n) : ∃ a1 c1 a2 c2, W.cell? ⟨g, i * 3, none⟩ = some (.int .i64 ((A i).st : Nat)) ∧ W.cell? ⟨g, i * 3 + 1, none⟩ = some (.slice a1 (A i).sl.length c1) ∧ W.cell? ⟨g, i * 3 + 2, none⟩ = some (.slice a2 (A i).sk.length c2) ∧ IntRow W (.slice a1 (A i).sl.length c1) (A i).sl ∧ IntRow W (.slice a2 (A i).sk.length c2) (A i).sk ∧ W.frozen? ⟨g, i * 3, none⟩ = false ∧ W.frozen? ⟨g, i * 3 + 1, none⟩ = false ∧ W.frozen? ⟨g, i * 3 + 2, none⟩ = false := by
  obtain ⟨cur, e, hz, h1⟩ := h
  obtain ⟨a, b, e0, e1, e2, r1, r2⟩ := h1 i hi
  obtain ⟨a1, c1, rfl⟩ := r1.sl
  obtain ⟨a2, c2, rfl⟩ := r2.sl
  exact ⟨a1, c1, a2, c2, (cell_hp e _).trans e0, (cell_hp e _).trans e1, (cell_hp e _).trans e2, r1, r2, frozen_hp e _, frozen_hp e _, frozen_hp e _⟩
theorem set_cells {W : World} {g : Nat} {cur : Array Value} {t : TypeId} (h : W.heap[g]? = some (.cells cur t (0, 0))) (j : Nat) (v : Value) : (W.setCell ⟨g, j, none⟩ v).heap[g]? = some (.cells (cur.setIfInBounds j v) t (0, 0)) := by
  unfold World.setCell
  simp only [Array.getElem?_modify, h]
  simp
/-- One place is written. -/
theorem ShRow.set {W : World} {g n : Nat} {A : Nat → Sh} (h : ShRow W g n A) {i : Nat} (hi : i < n) {s : Sh} {a b : Value} (ha : IntRow W a s.sl) (hb : IntRow W b s.sk) : ShRow (((W.setCell ⟨g, i * 3, none⟩ (.int .i64 (s.st : Nat))).setCell ⟨g, i * 3 + 1, none⟩ a).setCell ⟨g, i * 3 + 2, none⟩ b) g n (upd A i s) := by
  obtain ⟨cur, e, hz, h1⟩ := h
  have hk : ∀ (k : Nat) (cu : Array Value), W.heap[k]? = some (.cells cu 3 (0, 0)) → (((W.setCell ⟨g, i * 3, none⟩ (.int .i64 (s.st : Nat))).setCell ⟨g, i * 3 + 1, none⟩ a).setCell ⟨g, i * 3 + 2, none⟩ b).heap[k]? = W.heap[k]? := fun k cu hk => by
    have hne : ¬ k = g := fun ek => by subst ek; rw [e] at hk; simp at hk
    rw [set_other _ _ _ _ _ hne, set_other _ _ _ _ _ hne, set_other _ _ _ _ _ hne]
  refine ⟨_, set_cells (set_cells (set_cells e _ _) _ _) _ _, by simp [hz], fun q hq => ?_⟩
  by_cases hqi : q = i
  · subst hqi
    rw [upd_at]
    refine ⟨a, b, ?_, ?_, ?_, ha.keep hk, hb.keep hk⟩
    · rw [Array.getElem?_setIfInBounds_ne (by omega), Array.getElem?_setIfInBounds_ne (by omega), Array.getElem?_setIfInBounds_self_of_lt (by omega)]
    · rw [Array.getElem?_setIfInBounds_ne (by omega), Array.getElem?_setIfInBounds_self_of_lt (by simp; omega)]
    · rw [Array.getElem?_setIfInBounds_self_of_lt (by simp; omega)]
  · rw [upd_ne _ _ hqi]
    obtain ⟨x, y, e0, e1, e2, r1, r2⟩ := h1 q hq
    refine ⟨x, y, ?_, ?_, ?_, r1.keep hk, r2.keep hk⟩
    · rw [Array.getElem?_setIfInBounds_ne (by omega), Array.getElem?_setIfInBounds_ne (by omega), Array.getElem?_setIfInBounds_ne (by omega)]; exact e0
    · rw [Array.getElem?_setIfInBounds_ne (by omega), Array.getElem?_setIfInBounds_ne (by omega), Array.getElem?_setIfInBounds_ne (by omega)]; exact e1
    · rw [Array.getElem?_setIfInBounds_ne (by omega), Array.getElem?_setIfInBounds_ne (by omega), Array.getElem?_setIfInBounds_ne (by omega)]; exact e2
/-- What is written into a block of shapes is seen nowhere else. -/
theorem set3_other {W : World} {g k : Nat} (h : ¬ k = g) (x y z : Nat) (a b c : Value) : (((W.setCell ⟨g, x, none⟩ a).setCell ⟨g, y, none⟩ b).setCell ⟨g, z, none⟩ c).heap[k]? = W.heap[k]? := by
  rw [set_other _ _ _ _ _ h, set_other _ _ _ _ _ h, set_other _ _ _ _ _ h]
theorem made3 (a b c : Value) : ∀ (n i : Nat), i < n → (madeCells #[a, b, c] (n * 3))[i * 3]? = some a ∧ (madeCells #[a, b, c] (n * 3))[i * 3 + 1]? = some b ∧ (madeCells #[a, b, c] (n * 3))[i * 3 + 2]? = some c := by
  intro n i hi
  have key : ∀ k, k < n * 3 → (madeCells #[a, b, c] (n * 3))[k]? = some ((#[a, b, c] : Array Value)[k % 3]!) := fun k hk => by
    unfold madeCells
    simp [hk]
  refine ⟨?_, ?_, ?_⟩
  · rw [key _ (by omega), show i * 3 % 3 = 0 by omega]; rfl
  · rw [key _ (by omega), show (i * 3 + 1) % 3 = 1 by omega]; rfl
  · rw [key _ (by omega), show (i * 3 + 2) % 3 = 2 by omega]; rfl
/-- Made anew: nothing is known of any place. -/
theorem ShRow.made {W : World} {B g n : Nat} (h : W.ownsRow B 125 3 (.slice (some ⟨g, 0, none⟩) n n) n (madeCells #[.int .i64 0, .slice none 0 0, .slice none 0 0] (n * 3)).toList) : ShRow W g n fun _ => bot := by
  obtain ⟨h1, ⟨h2, _⟩ | ⟨k, c, cur, e, hb, h4, h5, h6, h7, h8⟩⟩ := h
  · cases h2
  · injection e with e1 _ e3
    injection e1 with e1
    injection e1 with e1
    subst e1 e3
    have hcur : cur.size = n * 3 := by rw [h7]
    have hcells : cur.toList = (madeCells #[.int .i64 0, .slice none 0 0, .slice none 0 0] (n * 3)).toList := by
      rw [← h8, List.take_of_length_le (by simp [hcur])]
    have hcc : cur = madeCells #[.int .i64 0, .slice none 0 0, .slice none 0 0] (n * 3) := by
      apply Array.ext'
      exact hcells
    refine ⟨cur, h4, hcur, fun i hi => ?_⟩
    obtain ⟨m0, m1, m2⟩ := made3 (.int .i64 0) (.slice none 0 0) (.slice none 0 0) n i hi
    rw [hcc]
    exact ⟨_, _, m0, m1, m2, IntRow.nil _, IntRow.nil _⟩
end Go.Proofs.YtfndbnbnimhnaaaGreatDoor.C
