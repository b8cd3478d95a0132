import Derived.Test.YtcjgcipacfcjnaaGreatDoorJ36
import Derived.Test.YtcjgcipacfcjnaaGreatDoorJ39
import Derived.Test.YtcjgcipacfcjnaaGreatDoorJ33
namespace Go.Proofs.YtcjgcipacfcjnaaGreatDoor.C.D
open Go.RowKit
set_option maxRecDepth 20000
def SerF {X : Type} (F : X → List UInt8) (l : List X) : List UInt8 := nb l.length ++ l.flatMap F
structure SI {X : Type} (F : X → List UInt8) (P : X → Prop) (s : ByteArray) (p many : Nat) (l : List X) (q : Nat) : Prop where
 le : l.length ≤ many
 all : ∀ x ∈ l, P x
 fr : Fr (nb many ++ l.flatMap F) ((bts s).drop p)
 q : q = p + (nb many ++ l.flatMap F).length
theorem SI.start {X : Type} {F : X → List UInt8} {P : X → Prop} {s : ByteArray} {p many q : Nat} (h : Fr (nb many) ((bts s).drop p)) (hq : q = p + (nb many).length) : SI F P s p many [] q :=
 ⟨Nat.zero_le _, fun _ hx => (by cases hx), by simpa using h, by simpa using hq⟩
theorem SI.more {X : Type} {F : X → List UInt8} {P : X → Prop} {s : ByteArray} {p many q q' : Nat} {l : List X} {x : X} (h : SI F P s p many l q) (hlt : l.length < many) (hx : P x) (hf : Fr (F x) ((bts s).drop q)) (hq : q' = q + (F x).length) : SI F P s p many (l ++ [x]) q' := by
 have e : nb many ++ (l ++ [x]).flatMap F = (nb many ++ l.flatMap F) ++ F x := by simp
 refine ⟨by simp; omega, fun y hy => ?_, by rw [e]; exact fr_join h.fr h.q hf, by rw [e, List.length_append, hq, h.q]; omega⟩
 rcases List.mem_append.1 hy with hy | hy
 ·exact h.all y hy
 ·simp at hy
  subst hy
  exact hx
theorem SI.no {X : Type} {F : X → List UInt8} {P : X → Prop} {s : ByteArray} {p many q : Nat} {l : List X} (hF : Pre F P) (h : SI F P s p many l q) (hlt : l.length < many) (hno : ∀ x, P x → ¬ Fr (F x) ((bts s).drop q)) (m : List X) (hm : ∀ x ∈ m, P x) : ¬ Fr (SerF F m) ((bts s).drop p) := fun hf => by
 obtain ⟨r0, e0⟩ := h.fr
 obtain ⟨r1, e1⟩ := hf
 have e2 : (bts s).drop q = r0 := by rw [h.q, ← List.drop_drop, e0, List.drop_left]
 unfold SerF at e1
 rw [e0, List.append_assoc, List.append_assoc] at e1
 obtain ⟨e3, e4⟩ := nb_pre _ _ _ _ e1
 obtain ⟨y, hy, hyf⟩ := flat_no hF h.all hm (by omega) rfl ⟨r1, e4⟩
 exact hno y hy (by rw [e2]; exact hyf)
theorem SI.done {X : Type} {F : X → List UInt8} {P : X → Prop} {s : ByteArray} {p many q : Nat} {l : List X} (h : SI F P s p many l q) (hl : ¬ l.length < many) : Fr (SerF F l) ((bts s).drop p) ∧ q = p + (SerF F l).length := by
 have e : l.length = many := by have := h.le; omega
 unfold SerF
 rw [e]
 exact ⟨h.fr, h.q⟩
theorem ser_no {X : Type} {F : X → List UInt8} {s : ByteArray} {p : Nat} (h : ∀ n, n ≤ 200000 → ¬ Fr (nb n) ((bts s).drop p)) (m : List X) (hm : m.length ≤ 200000) : ¬ Fr (SerF F m) ((bts s).drop p) := fun hf => h m.length hm (fr_at hf).1
theorem SI.small {X : Type} {F : X → List UInt8} {P : X → Prop} {s : ByteArray} {p many q : Nat} {l : List X} (h : SI F P s p many l q) (hm : many ≤ 200000) : l.length ≤ 200000 := Nat.le_trans h.le hm
structure FnE where
 f : Fn
 pv : Value
 iv : Value
 lo : Nat
 hi : Nat
def fne0 : FnE := ⟨fn0, .slice none 0 0, .slice none 0 0, 0, 0⟩
def cellsE (L : List FnE) : List Value := L.flatMap fun x => [.string x.f.name, x.pv, .int .i64 x.f.result, .int .i64 x.f.slots, x.iv]
structure RowE (W : World) (x : FnE) : Prop where
 p : OwnI x.lo W x.pv x.f.params
 i : OwnN x.lo W x.iv x.f.ins
 ph : ∀ g, x.pv.ownBlock = some g → g < x.hi
 ih : ∀ g, x.iv.ownBlock = some g → g < x.hi
structure OwnE (B : Nat) (W : World) (v : Value) (L : List FnE) : Prop where
 row : W.ownsRow B 57 5 v L.length (cellsE L)
 ins : ∀ x ∈ L, B ≤ x.lo ∧ x.hi ≤ W.heap.size ∧ RowE W x
 asc : L.Pairwise fun x y => x.hi ≤ y.lo
theorem OwnE.nil (B : Nat) (W : World) : OwnE B W (.slice none 0 0) [] := ⟨⟨rfl, .inl ⟨rfl, rfl⟩⟩, fun x hx => (by cases hx), List.Pairwise.nil⟩
theorem RowE.keep {W V : World} {x : FnE} (h : RowE W x) (hk : ∀ (g : Nat) (cur : Array Value) (t : Nat), x.lo ≤ g → (t = 3 ∨ t = 84) → W.heap[g]? = some (.cells cur t (0, 0)) → V.heap[g]? = W.heap[g]?) : RowE V x :=
 ⟨own_keepR h.p fun g cur hb hc => hk g cur _ hb (.inl rfl) hc, own_keepR h.i fun g cur hb hc => hk g cur _ hb (.inr rfl) hc, h.ph, h.ih⟩
theorem OwnE.keep {B : Nat} {W V : World} {v : Value} {L : List FnE} (h : OwnE B W v L) (hs : W.heap.size ≤ V.heap.size) (hk : ∀ (g : Nat) (cur : Array Value) (t : Nat), B ≤ g → (t = 57 ∨ t = 3 ∨ t = 84) → W.heap[g]? = some (.cells cur t (0, 0)) → V.heap[g]? = W.heap[g]?) : OwnE B V v L :=
 ⟨own_keepR h.row fun g cur hb hc => hk g cur _ hb (.inl rfl) hc, fun x hx => ⟨(h.ins x hx).1, Nat.le_trans (h.ins x hx).2.1 hs, (h.ins x hx).2.2.keep fun g cur t hb ht hc => hk g cur t (Nat.le_trans (h.ins x hx).1 hb) (.inr ht) hc⟩, h.asc⟩
theorem OwnE.next {B : Nat} {W V : World} {v : Value} {L : List FnE} (h : OwnE B W v L) (hb : Below W.heap.size W V) : OwnE B V v L := h.keep hb.size fun g _ _ _ _ hc => hb.block g (lt_hp hc)
theorem OwnE.grow {B d : Nat} {W V : World} {v : Value} {L : List FnE} (h : OwnE B W v L) (hg : W.grownBy V (some d)) (hd : d < B) : OwnE B V v L := h.keep hg.size fun g _ _ hb _ hc => hg.block g (lt_hp hc) fun e => by injection e with e; omega
theorem OwnE.setT {B j t : Nat} {W : World} {v : Value} {L : List FnE} {cs : Array Value} (h : OwnE B W v L) (hc : W.heap[j]? = some (.cells cs t (0, 0))) (hne : ¬ t = 57 ∧ ¬ t = 3 ∧ ¬ t = 84) (i : Nat) (u : Value) : OwnE B (W.setCell ⟨j, i, none⟩ u) v L :=
 h.keep (by simp [World.setCell]) fun g cur t' _ ht hg => set_other _ _ _ _ _ fun ee => by
  subst ee
  rw [hc] at hg
  injection hg with hg
  injection hg with _ hg _
  subst hg
  rcases ht with ht | ht | ht
  ·exact hne.1 ht
  ·exact hne.2.1 ht
  ·exact hne.2.2 ht
theorem OwnE.sl {B : Nat} {W : World} {v : Value} {L : List FnE} (h : OwnE B W v L) : ∃ ad c, v = .slice ad L.length c := own_slN h.row
theorem own_hi {B e k n : Nat} {W : World} {v : Value} {xs : List Value} (h : W.ownsRow B e k v n xs) : ∀ g, v.ownBlock = some g → g < W.heap.size := fun g hg => by
 obtain ⟨_, ⟨rfl, _⟩ | ⟨g', cap, cur, rfl, _, hc, _⟩⟩ := h
 ·cases hg
 ·simp [Value.ownBlock] at hg
  subst hg
  exact lt_hp hc
theorem OwnE.more {B d : Nat} {W1 W2 W3 W4 : World} {v v' pv iv : Value} {L : List FnE} {f : Fn} (h : OwnE B W1 v L) (hB : B ≤ W1.heap.size) (hg : W1.grownBy W2 (some d)) (hd : d < B) (hp : OwnI W1.heap.size W2 pv f.params) (hi : OwnN W1.heap.size W2 iv f.ins) (h3 : Below W2.heap.size W2 W3) (h4 : W3.grownBy W4 v.ownBlock) (ho : W4.ownsRow B 57 5 v' (L.length + 1) (cellsE L ++ [.string f.name, pv, .int .i64 f.result, .int .i64 f.slots, iv])) :
  OwnE B W4 v' (L ++ [⟨f, pv, iv, W1.heap.size, W2.heap.size⟩]) := by
 have hL3 := (h.grow hg hd).next h3
 have hkey : ∀ (g : Nat) (cur : Array Value) (t : Nat), (t = 3 ∨ t = 84) → W3.heap[g]? = some (.cells cur t (0, 0)) → W4.heap[g]? = W3.heap[g]? := fun g cur t ht hc => h4.block g (lt_hp hc) fun ee => by
  obtain ⟨_, ⟨rfl, _⟩ | ⟨g', cap, cu, rfl, _, hc', _⟩⟩ := hL3.row
  ·cases ee
  ·simp [Value.ownBlock] at ee
   subst ee
   rw [hc] at hc'
   injection hc' with hc'
   injection hc' with _ hc' _
   subst hc'
   rcases ht with ht | ht <;> revert ht <;> decide
 have hs24 : W2.heap.size ≤ W4.heap.size := Nat.le_trans h3.size h4.size
 refine ⟨?_, fun x hx => ?_, ?_⟩
 ·have e : cellsE (L ++ [⟨f, pv, iv, W1.heap.size, W2.heap.size⟩]) = cellsE L ++ [.string f.name, pv, .int .i64 f.result, .int .i64 f.slots, iv] := by simp [cellsE]
  rw [e, List.length_append]
  exact ho
 ·rcases List.mem_append.1 hx with hx | hx
  ·obtain ⟨a1, a2, a3⟩ := hL3.ins x hx
   exact ⟨a1, Nat.le_trans a2 h4.size, a3.keep fun g cur t _ ht hc => hkey g cur t ht hc⟩
  ·simp at hx
   subst hx
   refine ⟨hB, hs24, own_keepR (own_next hp h3) fun g cur _ hc => hkey g cur _ (.inl rfl) hc, own_keepR (own_next hi h3) fun g cur _ hc => hkey g cur _ (.inr rfl) hc, own_hi hp, own_hi hi⟩
 ·refine List.pairwise_append.2 ⟨h.asc, List.pairwise_singleton _ _, fun x hx y hy => ?_⟩
  simp at hy
  subst hy
  exact (h.ins x hx).2.1
theorem cellsE_get : ∀ (L : List FnE) (i : Nat), i < L.length → (cellsE L)[i * 5]? = some (.string (L.getD i fne0).f.name) ∧ (cellsE L)[i * 5 + 1]? = some (L.getD i fne0).pv ∧ (cellsE L)[i * 5 + 2]? = some (.int .i64 (L.getD i fne0).f.result) ∧ (cellsE L)[i * 5 + 3]? = some (.int .i64 (L.getD i fne0).f.slots) ∧ (cellsE L)[i * 5 + 4]? = some (L.getD i fne0).iv
 | [], _, h => absurd h (Nat.not_lt_zero _)
 | x :: l, 0, _ => ⟨rfl, rfl, rfl, rfl, rfl⟩
 | x :: l, i + 1, h => by
  have := cellsE_get l i (by simp at h; omega)
  have e : (i + 1) * 5 = i * 5 + 1 + 1 + 1 + 1 + 1 := by omega
  rw [e]
  exact this
theorem getD_memE {L : List FnE} {j : Nat} (h : j < L.length) : L.getD j fne0 ∈ L := by
 rw [List.getD_eq_getElem?_getD, List.getElem?_eq_getElem h]
 exact List.getElem_mem h
theorem OwnE.rows {B : Nat} {W : World} {v : Value} {L : List FnE} (h : OwnE B W v L) : FnsRow W v (L.map FnE.f) := by
 obtain ⟨ad, c, rfl⟩ := h.sl
 have hr := h.row
 cases ad with
 | none =>
  obtain ⟨_, ⟨hn, e⟩ | ⟨g', cap', cur, ev, _⟩⟩ := hr
  ·injection hn with _ e1 e2
   have : L = [] := List.eq_nil_of_length_eq_zero e
   subst this
   exact ⟨none, c, rfl, by simp, by unfold maxLen; omega, .inl rfl⟩
  ·cases ev
 | some ad =>
  obtain ⟨_, ⟨hn, e⟩ | ⟨g', cap', cur, ev, _⟩⟩ := id hr
  ·cases hn
  ·injection ev with e1 _ e2
   injection e1 with e1
   subst e1 e2
   obtain ⟨cur, hc, _, h1, h2, _, h3⟩ := own_get hr
   refine ⟨_, _, by rw [List.length_map], by rw [List.length_map]; exact h1, h2, .inr ⟨g', rfl, lt_hp hc, fun i hi => ?_⟩⟩
   rw [List.length_map] at hi
   obtain ⟨a0, a1, a2, a3, a4⟩ := cellsE_get L i hi
   have eg : (L.map FnE.f).getD i fn0 = (L.getD i fne0).f := by simp [List.getD_eq_getElem?_getD, hi]
   have hin := (h.ins _ (getD_memE hi)).2.2
   rw [eg]
   exact ⟨_, _, (cell_hp hc _).trans ((h3 _ (by omega)).trans a0), (cell_hp hc _).trans ((h3 _ (by omega)).trans a1), (cell_hp hc _).trans ((h3 _ (by omega)).trans a2), (cell_hp hc _).trans ((h3 _ (by omega)).trans a3), (cell_hp hc _).trans ((h3 _ (by omega)).trans a4), IntRow.own hin.p, InsRow.own hin.i⟩
def RcAns (s : ByteArray) (o : Option (List Fn)) : Prop :=
 match o with
 | some fns => Chk fns 0 0 0 ∧ (∀ f ∈ fns, FnS f) ∧ fns.length ≤ 60 ∧ formF fns = bts s ∧ s.size ≤ 200000
 | none => ∀ fns, Chk fns 0 0 0 → (∀ f ∈ fns, FnS f) → fns.length ≤ 60 → s.size ≤ 200000 → ¬ formF fns = bts s
theorem RcAns.uniq {s : ByteArray} {o o' : Option (List Fn)} (h : RcAns s o) (h' : RcAns s o') : o = o' := by
 cases o with
 | none =>
  cases o' with
  | none => rfl
  | some m => exact absurd h'.2.2.2.1 (h m h'.1 h'.2.1 h'.2.2.1 h'.2.2.2.2)
 | some l =>
  cases o' with
  | none => exact absurd h.2.2.2.1 (h' l h.1 h.2.1 h.2.2.1 h.2.2.2.2)
  | some m => rw [form_inj (fun f hf => FnS.w (h.2.1 f hf)) (fun f hf => FnS.w (h'.2.1 f hf)) (h.2.2.2.1.trans h'.2.2.2.1.symm)]
end Go.Proofs.YtcjgcipacfcjnaaGreatDoor.C.D
