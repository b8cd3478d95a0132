import Derived.OwnWalk
import Derived.Deep.LoopGhost
import Derived.Test.YtcjgcipacfcjnaaGreatDoorJ15
namespace Go.Proofs.YtcjgcipacfcjnaaGreatDoor.C
open Go.RowKit
set_option maxRecDepth 20000
theorem behind_top {fns : List Fn} {f : Fn} {p : Nat} {s : Sh} (h : ¬ s.st = 1) : behind fns f p s = top := by
 unfold behind
 rw [if_neg fun h9 => h h9.1]
set_option maxHeartbeats 1000000 in
theorem beh_2 {fns : List Fn} {f : Fn} {p : Nat} {s : Sh} {w : World} {cv pv iv x y : Value} (h1 : FnsRow w cv fns) (h2 : IntRow w pv f.params) (h3 : InsRow w iv f.ins) (h4 : IntRow w x s.sl) (h5 : IntRow w y s.sk) (hp : p < f.ins.length) (h2s : s.st = 2) :
  Calls Tryz.prog 65 #[.agg #[cv], .agg #[.string f.name, pv, .int .i64 f.result, .int .i64 f.slots, iv], .int .i64 p, .agg #[.int .i64 2, x, y]] w (BehEnd fns f p s w) := by
 have HT := hid (behind_top (fns := fns) (f := f) (p := p) (s := s) (by omega))
 obtain ⟨a0, c0, rfl⟩ := h1.sl
 obtain ⟨a1, c1, rfl⟩ := h2.sl
 obtain ⟨gI, cI, rfl, hgI, hcI⟩ := h3.at hp
 obtain ⟨a4, c4, rfl⟩ := h4.sl
 obtain ⟨a5, c5, rfl⟩ := h5.sl
 obtain ⟨d0, d1, d2, d3⟩ := hcI p hp
 obtain ⟨i, hi⟩ : ∃ i, f.ins.getD p in0 = i := ⟨_, rfl⟩
 rw [hi] at d0 d1 d2 d3
 clear h1 h2 h3 h4 h5 hcI hi h2s
 have hpi : (p : Int) < (f.ins.length : Int) := by omega
 go_enter Tryz.func65, Tryz.ntmps65
 go_upto_region 1 with fail
 obtain ⟨t0, t1, t2, t3, hlo, hz⟩ := four w (.cells #[.slice a0 fns.length c0] 29) (fbox f (.slice a1 f.params.length c1) (.slice (some ⟨gI, 0, none⟩) f.ins.length cI)) (sbox 2 (.slice a4 s.sl.length c4) (.slice a5 s.sk.length c5)) (sbox 0 (.slice none 0 0) (.slice none 0 0))
 obtain ⟨W4, hW4⟩ : ∃ W, ((((w.alloc (.cells #[.slice a0 fns.length c0] 29)).alloc (fbox f (.slice a1 f.params.length c1) (.slice (some ⟨gI, 0, none⟩) f.ins.length cI))).alloc (sbox 2 (.slice a4 s.sl.length c4) (.slice a5 s.sk.length c5))).alloc (sbox 0 (.slice none 0 0) (.slice none 0 0))) = W := ⟨_, rfl⟩
 rw [hW4] at t0 t1 t2 t3 hlo hz
 unfold fbox sbox at hW4
 rw [hW4]
 clear hW4
 obtain ⟨v0, v1, v2, v3, v4⟩ := fx t1
 have d0 := (hlo.cell (p := ⟨gI, p * 4, none⟩) hgI).trans d0
 have d1 := (hlo.cell (p := ⟨gI, p * 4 + 1, none⟩) hgI).trans d1
 have d2 := (hlo.cell (p := ⟨gI, p * 4 + 2, none⟩) hgI).trans d2
 have d3 := (hlo.cell (p := ⟨gI, p * 4 + 3, none⟩) hgI).trans d3
 have k1 : Below W4.heap.size W4 (W4.alloc (ibox i)) := (Below.refl _ _).alloc (Nat.le_refl _) _
 have k2 : Below (W4.alloc (ibox i)).heap.size (W4.alloc (ibox i)) ((W4.alloc (ibox i)).alloc (sbox 2 (.slice none 0 0) (.slice none 0 0))) := (Below.refl _ _).alloc (Nat.le_refl _) _
 have k12 := k1.trans (k2.mono k1.size)
 have HLO := hid (hlo.trans (k12.mono hlo.size))
 have e2 := hp_next t2 k12
 have e3 := hp_next t3 k12
 have e5 := heap_alloc_new (W4.alloc (ibox i)) (sbox 2 (.slice none 0 0) (.slice none 0 0))
 have s5 : (W4.alloc (ibox i)).heap.size = w.heap.size + 1 + 1 + 1 + 1 + 1 := by simp [hz]
 rw [s5] at e5
 clear t0 t1 t2 t3 hlo k1 k2 k12
 go_upto_region 3 with fail
 obtain ⟨W6, hW6⟩ : ∃ W, (W4.alloc (ibox i)).alloc (sbox 2 (.slice none 0 0) (.slice none 0 0)) = W := ⟨_, rfl⟩
 rw [hW6] at HLO e2 e3 e5
 unfold ibox sbox at hW6
 rw [hW6]
 clear hW6 hz d0 d1 d2 d3 v0 v1 v2 v3 v4 s5
 obtain ⟨s0, s1, s2, _, _, _⟩ := six_s e2
 obtain ⟨r0, r1, r2, q0, q1, q2⟩ := six_s e3
 obtain ⟨x0, x1, x2, _, _, _⟩ := six_s e5
 clear e2 e3 e5
 go_wp2
 exact bodyPost_ret (v := .agg #[.int .i64 2, .slice none 0 0, .slice none 0 0]) (by simp [results, Tryz.results65, go_sem, r0, r1, r2]) rfl (beh_top HLO.out (by omega) HT.out _ _ _)
theorem beh_any {fns : List Fn} {f : Fn} {p : Nat} {s : Sh} {w : World} {cv fv sv : Value} (h1 : FnsRow w cv fns) (h2 : FnV w fv f) (h3 : ShV w sv s) (hF : ∀ g ∈ fns, FnR fns g) (hf : FnR fns f) (hp : p < f.ins.length) (hs : OkSh f.S s) (h0 : ¬ s.st = 0) :
  Calls Tryz.prog 65 #[.agg #[cv], fv, .int .i64 p, sv] w (BehEnd fns f p s w) := by
 obtain ⟨pv, iv, rfl, r1, r2⟩ := h2
 obtain ⟨x, y, rfl, r3, r4⟩ := h3
 have hsl := hf.slots
 rcases ok_st hs with h | h | h
 ·exact absurd h h0
 ·have q := ok_known hs h
  obtain ⟨st, sl, sk⟩ := s
  dsimp only at h q r3 r4 ⊢
  subst h
  exact beh_1 h1 r1 r2 r3 r4 hF hf hp (by rw [q.1]; unfold Fn.S; omega) q.2.2.1 q.2.2.2
 ·have := beh_2 h1 r1 r2 r3 r4 hp h
  rw [h]
  exact this
def ShRow (W : World) (g n : Nat) (A : Nat → Sh) : Prop := ∃ cur : Array Value, W.heap[g]? = some (.cells cur 125 (0, 0)) ∧ cur.size = n * 3 ∧ ∀ i, i < n → ∃ a b, cur[i * 3]? = some (.int .i64 ((A i).st : Nat)) ∧ cur[i * 3 + 1]? = some a ∧ cur[i * 3 + 2]? = some b ∧ IntRow W a (A i).sl ∧ IntRow W b (A i).sk
theorem ShRow.lt {W : World} {g n : Nat} {A : Nat → Sh} (h : ShRow W g n A) : g < W.heap.size := by
 obtain ⟨cur, e, _⟩ := h
 exact lt_hp e
theorem ShRow.keep {W V : World} {g n : Nat} {A : Nat → Sh} (h : ShRow W g n A) (hg : V.heap[g]? = W.heap[g]?) (hk : ∀ (k : Nat) (cur : Array Value), W.heap[k]? = some (.cells cur 3 (0, 0)) → V.heap[k]? = W.heap[k]?) : ShRow V g n A := by
 obtain ⟨cur, e, hz, h1⟩ := h
 refine ⟨cur, hg.trans e, hz, fun i hi => ?_⟩
 obtain ⟨a, b, e0, e1, e2, r1, r2⟩ := h1 i hi
 exact ⟨a, b, e0, e1, e2, r1.keep hk, r2.keep hk⟩
theorem ShRow.next {W V : World} {g n : Nat} {A : Nat → Sh} (h : ShRow W g n A) (hb : Below W.heap.size W V) : ShRow V g n A := h.keep (hb.block g h.lt) fun k _ hk => hb.block k (lt_hp hk)
theorem ShRow.at {W : World} {g n : Nat} {A : Nat → Sh} (h : ShRow W g n A) {i : Nat} (hi : i < n) : ∃ a1 c1 a2 c2, W.cell? ⟨g, i * 3, none⟩ = some (.int .i64 ((A i).st : Nat)) ∧ W.cell? ⟨g, i * 3 + 1, none⟩ = some (.slice a1 (A i).sl.length c1) ∧ W.cell? ⟨g, i * 3 + 2, none⟩ = some (.slice a2 (A i).sk.length c2) ∧ IntRow W (.slice a1 (A i).sl.length c1) (A i).sl ∧ IntRow W (.slice a2 (A i).sk.length c2) (A i).sk ∧ W.frozen? ⟨g, i * 3, none⟩ = false ∧ W.frozen? ⟨g, i * 3 + 1, none⟩ = false ∧ W.frozen? ⟨g, i * 3 + 2, none⟩ = false := by
 obtain ⟨cur, e, hz, h1⟩ := h
 obtain ⟨a, b, e0, e1, e2, r1, r2⟩ := h1 i hi
 obtain ⟨a1, c1, rfl⟩ := r1.sl
 obtain ⟨a2, c2, rfl⟩ := r2.sl
 exact ⟨a1, c1, a2, c2, (cell_hp e _).trans e0, (cell_hp e _).trans e1, (cell_hp e _).trans e2, r1, r2, frozen_hp e _, frozen_hp e _, frozen_hp e _⟩
theorem set_cells {W : World} {g : Nat} {cur : Array Value} {t : TypeId} (h : W.heap[g]? = some (.cells cur t (0, 0))) (j : Nat) (v : Value) : (W.setCell ⟨g, j, none⟩ v).heap[g]? = some (.cells (cur.setIfInBounds j v) t (0, 0)) := by
 unfold World.setCell
 simp only [Array.getElem?_modify, h]
 simp
theorem ShRow.set {W : World} {g n : Nat} {A : Nat → Sh} (h : ShRow W g n A) {i : Nat} (hi : i < n) {s : Sh} {a b : Value} (ha : IntRow W a s.sl) (hb : IntRow W b s.sk) : ShRow (((W.setCell ⟨g, i * 3, none⟩ (.int .i64 (s.st : Nat))).setCell ⟨g, i * 3 + 1, none⟩ a).setCell ⟨g, i * 3 + 2, none⟩ b) g n (upd A i s) := by
 obtain ⟨cur, e, hz, h1⟩ := h
 have hk : ∀ (k : Nat) (cu : Array Value), W.heap[k]? = some (.cells cu 3 (0, 0)) → (((W.setCell ⟨g, i * 3, none⟩ (.int .i64 (s.st : Nat))).setCell ⟨g, i * 3 + 1, none⟩ a).setCell ⟨g, i * 3 + 2, none⟩ b).heap[k]? = W.heap[k]? := fun k cu hk => by
  have hne : ¬ k = g := fun ek => by subst ek; rw [e] at hk; simp at hk
  rw [set_other _ _ _ _ _ hne, set_other _ _ _ _ _ hne, set_other _ _ _ _ _ hne]
 refine ⟨_, set_cells (set_cells (set_cells e _ _) _ _) _ _, by simp [hz], fun q hq => ?_⟩
 by_cases hqi : q = i
 ·subst hqi
  rw [upd_at]
  refine ⟨a, b, ?_, ?_, ?_, ha.keep hk, hb.keep hk⟩
  ·rw [Array.getElem?_setIfInBounds_ne (by omega), Array.getElem?_setIfInBounds_ne (by omega), Array.getElem?_setIfInBounds_self_of_lt (by omega)]
  ·rw [Array.getElem?_setIfInBounds_ne (by omega), Array.getElem?_setIfInBounds_self_of_lt (by simp; omega)]
  ·rw [Array.getElem?_setIfInBounds_self_of_lt (by simp; omega)]
 ·rw [upd_ne _ _ hqi]
  obtain ⟨x, y, e0, e1, e2, r1, r2⟩ := h1 q hq
  refine ⟨x, y, ?_, ?_, ?_, r1.keep hk, r2.keep hk⟩
  ·rw [Array.getElem?_setIfInBounds_ne (by omega), Array.getElem?_setIfInBounds_ne (by omega), Array.getElem?_setIfInBounds_ne (by omega)]; exact e0
  ·rw [Array.getElem?_setIfInBounds_ne (by omega), Array.getElem?_setIfInBounds_ne (by omega), Array.getElem?_setIfInBounds_ne (by omega)]; exact e1
  ·rw [Array.getElem?_setIfInBounds_ne (by omega), Array.getElem?_setIfInBounds_ne (by omega), Array.getElem?_setIfInBounds_ne (by omega)]; exact e2
theorem set3_other {W : World} {g k : Nat} (h : ¬ k = g) (x y z : Nat) (a b c : Value) : (((W.setCell ⟨g, x, none⟩ a).setCell ⟨g, y, none⟩ b).setCell ⟨g, z, none⟩ c).heap[k]? = W.heap[k]? := by
 rw [set_other _ _ _ _ _ h, set_other _ _ _ _ _ h, set_other _ _ _ _ _ h]
theorem made3 (a b c : Value) : ∀ (n i : Nat), i < n → (madeCells #[a, b, c] (n * 3))[i * 3]? = some a ∧ (madeCells #[a, b, c] (n * 3))[i * 3 + 1]? = some b ∧ (madeCells #[a, b, c] (n * 3))[i * 3 + 2]? = some c := by
 intro n i hi
 have key : ∀ k, k < n * 3 → (madeCells #[a, b, c] (n * 3))[k]? = some ((#[a, b, c] : Array Value)[k % 3]!) := fun k hk => by
  unfold madeCells
  simp [hk]
 refine ⟨?_, ?_, ?_⟩
 ·rw [key _ (by omega), show i * 3 % 3 = 0 by omega]; rfl
 ·rw [key _ (by omega), show (i * 3 + 1) % 3 = 1 by omega]; rfl
 ·rw [key _ (by omega), show (i * 3 + 2) % 3 = 2 by omega]; rfl
theorem ShRow.made {W : World} {B g n : Nat} (h : W.ownsRow B 125 3 (.slice (some ⟨g, 0, none⟩) n n) n (madeCells #[.int .i64 0, .slice none 0 0, .slice none 0 0] (n * 3)).toList) : ShRow W g n fun _ => bot := by
 obtain ⟨h1, ⟨h2, _⟩ | ⟨k, c, cur, e, hb, h4, h5, h6, h7, h8⟩⟩ := h
 ·cases h2
 ·injection e with e1 _ e3
  injection e1 with e1
  injection e1 with e1
  subst e1 e3
  have hcur : cur.size = n * 3 := by rw [h7]
  have hcells : cur.toList = (madeCells #[.int .i64 0, .slice none 0 0, .slice none 0 0] (n * 3)).toList := by
   rw [← h8, List.take_of_length_le (by simp [hcur])]
  have hcc : cur = madeCells #[.int .i64 0, .slice none 0 0, .slice none 0 0] (n * 3) := by
   apply Array.ext'
   exact hcells
  refine ⟨cur, h4, hcur, fun i hi => ?_⟩
  obtain ⟨m0, m1, m2⟩ := made3 (.int .i64 0) (.slice none 0 0) (.slice none 0 0) n i hi
  rw [hcc]
  exact ⟨_, _, m0, m1, m2, IntRow.nil _, IntRow.nil _⟩
def ShpEnd (fns : List Fn) (f : Fn) (w : World) (e : Ending) (w' : World) : Prop := ∃ g A, e = .returned (.slice (some ⟨g, 0, none⟩) f.ins.length f.ins.length) ∧ w.heap.size ≤ g ∧ ShRow w' g f.ins.length A ∧ Closed fns f A ∧ Low fns f A ∧ Below w.heap.size w w'
theorem IntRow.nil_keep {W V : World} {v : Value} (h : IntRow W v []) : IntRow V v [] := by
 obtain ⟨ad, c, e, h1, h2, _⟩ := h
 exact ⟨ad, c, e, h1, h2, .inl rfl⟩
theorem ShRow.keep0 {W V : World} {g n : Nat} (h : ShRow W g n fun _ => bot) (hg : V.heap[g]? = W.heap[g]?) : ShRow V g n fun _ => bot := by
 obtain ⟨cur, e, hz, h1⟩ := h
 refine ⟨cur, hg.trans e, hz, fun i hi => ?_⟩
 obtain ⟨a, b, e0, e1, e2, r1, r2⟩ := h1 i hi
 exact ⟨a, b, e0, e1, e2, IntRow.nil_keep r1, IntRow.nil_keep r2⟩
theorem own_neS {W : World} {B n g : Nat} {v : Value} {xs : List Value} (h : W.ownsRow B 3 1 v n xs) {cs : Array Value} {t : TypeId} (ht : ¬ t = 3) (e : W.heap[g]? = some (.cells cs t (0, 0))) : some g ≠ v.ownBlock := fun hh => by
 obtain ⟨_, ⟨rfl, _⟩ | ⟨k, cap, cur, rfl, _, hc, _⟩⟩ := h
 ·simp [Value.ownBlock] at hh
 ·simp [Value.ownBlock] at hh
  subst hh
  rw [e] at hc
  simp at hc
  exact ht hc.2
structure FI (f : Fn) (w : World) (cv pv iv : Value) (b7 : Nat) (ov : Value) (m : Nat) (W : World) : Prop where
 lo : Below w.heap.size w W
 e0 : W.heap[w.heap.size]? = some (.cells #[cv] 29)
 e1 : W.heap[w.heap.size + 1]? = some (fbox f pv iv)
 row : ShRow W (w.heap.size + 1 + 1) f.ins.length fun _ => bot
 e7 : W.heap[b7]? = some (sbox 1 ov (.slice none 0 0))
 gt : w.heap.size + 1 + 1 < b7
 own : W.ownsRow (w.heap.size + 1 + 1 + 1) 3 1 ov m ((f.params ++ List.replicate (m - f.params.length) 0).map fun x => Value.int .i64 x)
theorem FI.next {f : Fn} {w : World} {cv pv iv : Value} {b7 : Nat} {ov : Value} {m : Nat} {W V : World} (h : FI f w cv pv iv b7 ov m W) (hb : Below W.heap.size W V) : FI f w cv pv iv b7 ov m V :=
 ⟨h.lo.trans (hb.mono h.lo.size), hp_next h.e0 hb, hp_next h.e1 hb, h.row.next hb, hp_next h.e7 hb, h.gt, own_next h.own hb⟩
theorem FI.more {f : Fn} {w : World} {cv pv iv : Value} {b7 : Nat} {ov : Value} {m : Nat} {W V : World} (h : FI f w cv pv iv b7 ov m W) (hm : f.params.length ≤ m) {v' : Value} (hg : W.grownBy V ov.ownBlock) (ho : V.ownsRow (w.heap.size + 1 + 1 + 1) 3 1 v' (m + 1) ((f.params ++ List.replicate (m - f.params.length) 0).map (fun x => Value.int .i64 x) ++ [.int .i64 0])) : FI f w cv pv iv b7 v' (m + 1) (V.setCell ⟨b7, 1, none⟩ v') := by
 have hk : ∀ i, i < w.heap.size + 1 + 1 + 1 → i < W.heap.size → V.heap[i]? = W.heap[i]? := fun i hi hz => hg.block i hz (own_ne h.own hi)
 have z7 := lt_hp h.e7
 have hgt := h.gt
 have hsz := h.lo.size
 have e7 : V.heap[b7]? = some (sbox 1 ov (.slice none 0 0)) := (hg.block b7 z7 (own_neS h.own (by decide) h.e7)).trans h.e7
 refine ⟨set_lo ⟨hg.os.trans h.lo.os, hg.tape.trans h.lo.tape, hg.output.trans h.lo.output, Nat.le_trans h.lo.size hg.size, fun i hi => (hk i (by omega) (by omega)).trans (h.lo.block i hi)⟩ _ _ (by omega) _, ?_, ?_, ?_, set1_box e7 _, hgt, ?_⟩
 ·rw [set_other _ _ _ _ _ (by omega), hk _ (by omega) (lt_hp h.e0)]; exact h.e0
 ·rw [set_other _ _ _ _ _ (by omega), hk _ (by omega) (lt_hp h.e1)]; exact h.e1
 ·exact h.row.keep0 (by rw [set_other _ _ _ _ _ (by omega), hk _ (by omega) h.row.lt])
 ·apply own_setS _ e7
  have e : m + 1 - f.params.length = m - f.params.length + 1 := by omega
  rw [e, List.replicate_succ', ← List.append_assoc, List.map_append]
  exact ho
theorem own_base {W : World} {B B' n : Nat} {v : Value} {xs : List Value} {e : TypeId} {k : Nat} (h : W.ownsRow B e k v n xs) (hB : B' ≤ B) : W.ownsRow B' e k v n xs := by
 obtain ⟨h1, h2 | ⟨g, cap, cur, a, b, c⟩⟩ := h
 ·exact ⟨h1, .inl h2⟩
 ·exact ⟨h1, .inr ⟨g, cap, cur, a, by omega, c⟩⟩
theorem FI.start {f : Fn} {w : World} {cv pv iv : Value} {ov : Value} {W3 W5 : World} (lo : Below w.heap.size w W3) (e0 : W3.heap[w.heap.size]? = some (.cells #[cv] 29)) (e1 : W3.heap[w.heap.size + 1]? = some (fbox f pv iv)) (row : ShRow W3 (w.heap.size + 1 + 1) f.ins.length fun _ => bot) (b5 : Below W3.heap.size W3 W5) (ho : W5.ownsRow W3.heap.size 3 1 ov f.params.length (f.params.map fun x => Value.int .i64 x)) : FI f w cv pv iv W5.heap.size ov f.params.length (W5.alloc (sbox 1 ov (.slice none 0 0))) := by
 have b6 : Below W5.heap.size W5 (W5.alloc (sbox 1 ov (.slice none 0 0))) := (Below.refl _ _).alloc (Nat.le_refl _) _
 have b56 : Below W3.heap.size W3 (W5.alloc (sbox 1 ov (.slice none 0 0))) := b5.trans (b6.mono b5.size)
 have := row.lt
 have := b5.size
 refine ⟨lo.trans (b56.mono lo.size), hp_next e0 b56, hp_next e1 b56, row.next b56, heap_alloc_new _ _, by omega, ?_⟩
 rw [Nat.sub_self, List.replicate_zero, List.append_nil]
 exact own_base (own_next ho b6) (by omega)
structure SW (f : Fn) (w : World) (cv pv iv : Value) (A : Nat → Sh) (W : World) : Prop where
 lo : Below w.heap.size w W
 e0 : W.heap[w.heap.size]? = some (.cells #[cv] 29)
 e1 : W.heap[w.heap.size + 1]? = some (fbox f pv iv)
 row : ShRow W (w.heap.size + 1 + 1) f.ins.length A
theorem SW.next {f : Fn} {w : World} {cv pv iv : Value} {A : Nat → Sh} {W V : World} (h : SW f w cv pv iv A W) (hb : Below W.heap.size W V) : SW f w cv pv iv A V :=
 ⟨h.lo.trans (hb.mono h.lo.size), hp_next h.e0 hb, hp_next h.e1 hb, h.row.next hb⟩
theorem SW.set {f : Fn} {w : World} {cv pv iv : Value} {A : Nat → Sh} {W : World} (h : SW f w cv pv iv A W) {i : Nat} (hi : i < f.ins.length) {s : Sh} {a b : Value} (ha : IntRow W a s.sl) (hb : IntRow W b s.sk) : SW f w cv pv iv (upd A i s) (((W.setCell ⟨w.heap.size + 1 + 1, i * 3, none⟩ (.int .i64 (s.st : Nat))).setCell ⟨w.heap.size + 1 + 1, i * 3 + 1, none⟩ a).setCell ⟨w.heap.size + 1 + 1, i * 3 + 2, none⟩ b) :=
 ⟨set_lo (set_lo (set_lo h.lo _ _ (by omega) _) _ _ (by omega) _) _ _ (by omega) _, by rw [set3_other (by omega)]; exact h.e0, by rw [set3_other (by omega)]; exact h.e1, h.row.set hi ha hb⟩
theorem FI.fin {f : Fn} {w : World} {cv pv iv : Value} {b7 : Nat} {ov : Value} {m : Nat} {W : World} (h : FI f w cv pv iv b7 ov m W) (hm : m = f.S) (hn : 0 < f.ins.length) (hl : f.params.length ≤ m) : SW f w cv pv iv (upd (fun _ => bot) 0 (first f)) (((W.setCell ⟨w.heap.size + 1 + 1, 0, none⟩ (.int .i64 1)).setCell ⟨w.heap.size + 1 + 1, 1, none⟩ ov).setCell ⟨w.heap.size + 1 + 1, 2, none⟩ (.slice none 0 0)) := by
 have h1 : SW f w cv pv iv (fun _ => bot) W := ⟨h.lo, h.e0, h.e1, h.row⟩
 have := h1.set (i := 0) hn (s := first f) (a := ov) (b := .slice none 0 0) (by
  subst hm
  have ho := h.own
  have e : (f.params ++ List.replicate (f.S - f.params.length) 0 : List Int).length = f.S := by simp; omega
  apply IntRow.own (B := w.heap.size + 1 + 1 + 1)
  show W.ownsRow _ _ _ _ (f.params ++ List.replicate (f.S - f.params.length) 0 : List Int).length _
  rw [e]
  exact ho) (IntRow.nil _)
 have h9 : (((first f).st : Nat) : Int) = 1 := rfl
 rw [h9] at this
 simpa using this
theorem set3_box {W : World} {g : Nat} {st : Int} {x y : Value} (e : W.heap[g]? = some (sbox st x y)) (st' : Int) (q r : Value) : (((W.setCell ⟨g, 0, none⟩ (.int .i64 st')).setCell ⟨g, 1, none⟩ q).setCell ⟨g, 2, none⟩ r).heap[g]? = some (sbox st' q r) := by
 unfold World.setCell
 simp only [Array.getElem?_modify, e]
 simp [sbox]
structure BS (s : Sh) (b : Nat) (x y : Value) (W : World) : Prop where
 e : W.heap[b]? = some (sbox s.st x y)
 r1 : IntRow W x s.sl
 r2 : IntRow W y s.sk
theorem BS.next {s : Sh} {b : Nat} {x y : Value} {W V : World} (h : BS s b x y W) (hb : Below W.heap.size W V) : BS s b x y V := ⟨hp_next h.e hb, h.r1.next hb, h.r2.next hb⟩
theorem box_late {s : Sh} {x y : Value} {W : World} (h1 : IntRow W x s.sl) (h2 : IntRow W y s.sk) : BS s W.heap.size x y (W.alloc (sbox s.st x y)) :=
 have b : Below W.heap.size W (W.alloc (sbox s.st x y)) := (Below.refl _ _).alloc (Nat.le_refl _) _
 ⟨heap_alloc_new _ _, h1.next b, h2.next b⟩
theorem box_early {s : Sh} {x y x0 y0 : Value} {st0 : Int} {W : World} {g : Nat} (e : W.heap[g]? = some (sbox st0 x0 y0)) (h1 : IntRow W x s.sl) (h2 : IntRow W y s.sk) : BS s g x y (((W.setCell ⟨g, 0, none⟩ (.int .i64 (s.st : Nat))).setCell ⟨g, 1, none⟩ x).setCell ⟨g, 2, none⟩ y) :=
 ⟨set3_box e _ _ _, h1.set3 e _ _ _, h2.set3 e _ _ _⟩
theorem SW.set3 {f : Fn} {w : World} {cv pv iv : Value} {A : Nat → Sh} {W : World} (h : SW f w cv pv iv A W) {g : Nat} {st0 : Int} {x0 y0 : Value} (e : W.heap[g]? = some (sbox st0 x0 y0)) (hg : w.heap.size + 1 + 1 < g) (p q r : Value) : SW f w cv pv iv A (((W.setCell ⟨g, 0, none⟩ p).setCell ⟨g, 1, none⟩ q).setCell ⟨g, 2, none⟩ r) :=
 ⟨set_lo (set_lo (set_lo h.lo _ _ (by omega) _) _ _ (by omega) _) _ _ (by omega) _, by rw [set3_other (by omega)]; exact h.e0, by rw [set3_other (by omega)]; exact h.e1, h.row.keep (set3_other (by omega) _ _ _ _ _ _) fun k cur hk => set3_other (fun ek => by subst ek; rw [e] at hk; simp [sbox] at hk) _ _ _ _ _ _⟩
structure KS (f : Fn) (w : World) (cv pv iv : Value) (A : Nat → Sh) (s : Sh) (b : Nat) (x y gv : Value) (l : List Int) (W : World) : Prop where
 sw : SW f w cv pv iv A W
 bs : BS s b x y W
 gr : IntRow W gv l
 gt : w.heap.size + 1 + 1 < b
theorem KS.next {f : Fn} {w : World} {cv pv iv : Value} {A : Nat → Sh} {s : Sh} {b : Nat} {x y gv : Value} {l : List Int} {W V : World} (h : KS f w cv pv iv A s b x y gv l W) (hb : Below W.heap.size W V) : KS f w cv pv iv A s b x y gv l V := ⟨h.sw.next hb, h.bs.next hb, h.gr.next hb, h.gt⟩
theorem KS.set3 {f : Fn} {w : World} {cv pv iv : Value} {A : Nat → Sh} {s : Sh} {b : Nat} {x y gv : Value} {l : List Int} {W : World} (h : KS f w cv pv iv A s b x y gv l W) {g : Nat} {st0 : Int} {x0 y0 : Value} (e : W.heap[g]? = some (sbox st0 x0 y0)) (hg : w.heap.size + 1 + 1 < g) (hne : ¬ b = g) (p q r : Value) : KS f w cv pv iv A s b x y gv l (((W.setCell ⟨g, 0, none⟩ p).setCell ⟨g, 1, none⟩ q).setCell ⟨g, 2, none⟩ r) :=
 ⟨h.sw.set3 e hg _ _ _, ⟨by rw [set3_other hne]; exact h.bs.e, h.bs.r1.set3 e _ _ _, h.bs.r2.set3 e _ _ _⟩, h.gr.set3 e _ _ _, h.gt⟩
theorem KS.put {f : Fn} {w : World} {cv pv iv : Value} {A : Nat → Sh} {s : Sh} {b : Nat} {x y gv : Value} {l : List Int} {W : World} (h : KS f w cv pv iv A s b x y gv l W) {i : Nat} (hi : i < f.ins.length) {z : Sh} {p q : Value} (hp : IntRow W p z.sl) (hq : IntRow W q z.sk) : KS f w cv pv iv (upd A i z) s b x y gv l (((W.setCell ⟨w.heap.size + 1 + 1, i * 3, none⟩ (.int .i64 (z.st : Nat))).setCell ⟨w.heap.size + 1 + 1, i * 3 + 1, none⟩ p).setCell ⟨w.heap.size + 1 + 1, i * 3 + 2, none⟩ q) := by
 have hk : ∀ (k : Nat) (cu : Array Value), W.heap[k]? = some (.cells cu 3 (0, 0)) → (((W.setCell ⟨w.heap.size + 1 + 1, i * 3, none⟩ (.int .i64 (z.st : Nat))).setCell ⟨w.heap.size + 1 + 1, i * 3 + 1, none⟩ p).setCell ⟨w.heap.size + 1 + 1, i * 3 + 2, none⟩ q).heap[k]? = W.heap[k]? := fun k cu hk => set3_other (fun ek => by
  subst ek
  obtain ⟨cur, e, _⟩ := h.sw.row
  rw [e] at hk
  simp at hk) _ _ _ _ _ _
 have hgt := h.gt
 exact ⟨h.sw.set hi hp hq, ⟨by rw [set3_other (by omega)]; exact h.bs.e, h.bs.r1.keep hk, h.bs.r2.keep hk⟩, h.gr.keep hk, h.gt⟩
def S14 (f : Fn) (w : World) (cv pv iv : Value) (j : Nat) (s : Sh) (a1 : Option Addr) (c1 : Nat) (a2 : Option Addr) (c2 : Nat) (V : World) : Prop :=
 V.cell? ⟨w.heap.size, 0, none⟩ = some cv ∧ V.cell? ⟨w.heap.size + 1, 0, none⟩ = some (.string f.name) ∧ V.cell? ⟨w.heap.size + 1, 1, none⟩ = some pv ∧ V.cell? ⟨w.heap.size + 1, 2, none⟩ = some (.int .i64 f.result) ∧ V.cell? ⟨w.heap.size + 1, 3, none⟩ = some (.int .i64 f.slots) ∧ V.cell? ⟨w.heap.size + 1, 4, none⟩ = some iv ∧
 V.cell? ⟨w.heap.size + 1 + 1, j * 3, none⟩ = some (.int .i64 (s.st : Nat)) ∧ V.cell? ⟨w.heap.size + 1 + 1, j * 3 + 1, none⟩ = some (.slice a1 s.sl.length c1) ∧ V.cell? ⟨w.heap.size + 1 + 1, j * 3 + 2, none⟩ = some (.slice a2 s.sk.length c2)
theorem S14.of {f : Fn} {w : World} {cv pv iv : Value} {A : Nat → Sh} {W V : World} (h : SW f w cv pv iv A W) {j : Nat} {s : Sh} {a1 : Option Addr} {c1 : Nat} {a2 : Option Addr} {c2 : Nat} (_hj : j < f.ins.length) (hV : Below W.heap.size W V) (u0 : W.cell? ⟨w.heap.size + 1 + 1, j * 3, none⟩ = some (.int .i64 (s.st : Nat))) (u1 : W.cell? ⟨w.heap.size + 1 + 1, j * 3 + 1, none⟩ = some (.slice a1 s.sl.length c1)) (u2 : W.cell? ⟨w.heap.size + 1 + 1, j * 3 + 2, none⟩ = some (.slice a2 s.sk.length c2)) : S14 f w cv pv iv j s a1 c1 a2 c2 V := by
 obtain ⟨v0, v1, v2, v3, v4⟩ := fx (h.next hV).e1
 have hl := h.row.lt
 exact ⟨cx (h.next hV).e0, v0, v1, v2, v3, v4, (hV.cell (p := ⟨w.heap.size + 1 + 1, j * 3, none⟩) hl).trans u0, (hV.cell (p := ⟨w.heap.size + 1 + 1, j * 3 + 1, none⟩) hl).trans u1, (hV.cell (p := ⟨w.heap.size + 1 + 1, j * 3 + 2, none⟩) hl).trans u2⟩
theorem upd_self (A : Nat → Sh) (g : Nat) : upd A g (A g) = A := by
 funext q
 unfold upd
 split
 ·rename_i h; rw [h]
 ·rfl
theorem KInv.both {fns : List Fn} {f : Fn} {A0 A : Nat → Sh} {i k : Nat} {s : Sh} {again ch : Bool} (h : KInv fns f A0 A i k s again) {g : Nat} (hg : (goes (f.ins.getD i in0) i)[k]? = some g) (hgn : g < f.ins.length) (hch : ch = true ↔ ¬ join (A g) s = A g) : KInv fns f A0 (upd A g (join (A g) s)) i (k + 1) s (again || ch) := by
 cases ch with
 | false =>
  have e : join (A g) s = A g := Decidable.byContradiction fun h9 => by
   have := hch.2 h9
   cases this
  have := h.same hg hgn e
  rw [Bool.or_false, e, upd_self]
  exact this
 | true =>
  have := h.up hg hgn (hch.1 rfl)
  rw [Bool.or_true]
  exact this
theorem nums_get {l : List Nat} {z g : Nat} (h : l[z]? = some g) : (nums l).getD z 0 = (g : Int) := by
 unfold nums
 rw [List.getD_eq_getElem?_getD, List.getElem?_map, h]
 rfl
theorem nums_length (l : List Nat) : (nums l).length = l.length := by unfold nums; rw [List.length_map]
theorem goes_few (i : In) (j : Nat) : (goes i j).length ≤ 2 := by unfold goes; (repeat' split) <;> simp
end Go.Proofs.YtcjgcipacfcjnaaGreatDoor.C
