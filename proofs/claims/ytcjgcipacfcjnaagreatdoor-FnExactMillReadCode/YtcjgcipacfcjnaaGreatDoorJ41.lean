import Derived.Laws.IdiomStrings
import Derived.Test.YtcjgcipacfcjnaaGreatDoorJ40
import Derived.Test.YtcjgcipacfcjnaaGreatDoorJ13
namespace Go.Proofs.YtcjgcipacfcjnaaGreatDoor.C.D
open Go.RowKit
set_option maxRecDepth 20000
structure CX (w : World) (v : Value) (W : World) : Prop where
 lo : Below w.heap.size w W
 e0 : W.heap[w.heap.size]? = some (.cells #[.slice none 0 0] 29 (0, 0))
 e1 : W.heap[w.heap.size + 2]? = some (.cells #[v] 29 (0, 0))
theorem grown_lo' {w W V : World} {B d : Nat} (h : Below B w W) (hg : W.grownBy V (some d)) (hB : B ≤ W.heap.size) (hd : B ≤ d) : Below B w V := h.grown hg hB fun q e => by injection e with e; omega
theorem CX.grow {w W V : World} {v : Value} (h : CX w v W) (hg : W.grownBy V (some (w.heap.size + 1))) : CX w v V :=
 ⟨grown_lo' h.lo hg h.lo.size (by omega), grown_hp hg h.e0 (by omega), grown_hp hg h.e1 (by omega)⟩
theorem CX.next {w W V : World} {v : Value} (h : CX w v W) (hb : Below W.heap.size W V) : CX w v V := h.grow (grown_of _ hb)
theorem CX.own {w W V : World} {v u : Value} {e k m : Nat} {ys : List Value} (h : CX w v W) (ho : W.ownsRow (w.heap.size + 3) e k u m ys) (hg : W.grownBy V u.ownBlock) : CX w v V := by
 have key : ∀ i, i < w.heap.size + 3 → i < W.heap.size → V.heap[i]? = W.heap[i]? := fun i hi hl => hg.block i hl fun ee => by have := ho.lt i ee.symm; omega
 exact ⟨h.lo.grown hg h.lo.size fun q e => by have := ho.lt q e; omega, (key _ (by omega) (lt_hp h.e0)).trans h.e0, (key _ (by omega) (lt_hp h.e1)).trans h.e1⟩
theorem CX.set {w W : World} {v : Value} (h : CX w v W) (x : Value) : CX w x (W.setCell ⟨w.heap.size + 2, 0, none⟩ x) :=
 ⟨set_lo h.lo _ _ (by omega) _, (set_other _ _ _ _ _ (by omega)).trans h.e0, (by have := h.e1; unfold World.setCell; simp only [Array.getElem?_modify, this]; simp)⟩
def Can (s : ByteArray) (ys : List Fn) : Prop := (∀ f ∈ ys, FnS f) ∧ ys.length ≤ 60 ∧ formF ys = bts s
theorem fns_drop {l : List Fn} {j : Nat} (h : j < l.length) : fnsF (l.drop j) = fnF (l.getD j fn0) ++ fnsF (l.drop (j + 1)) := by
 have e9 : l.getD j fn0 = l[j] := by rw [List.getD_eq_getElem?_getD, List.getElem?_eq_getElem h]; rfl
 rw [List.drop_eq_getElem_cons h, e9]
 simp only [fnsF, List.flatMap_cons]
theorem wSFn_app (l : List Fn) (x : Fn) : R.wSFn (l ++ [x]) (l ++ [x]).length = R.wSFn l l.length + 1 + R.wFn x := by
 have h1 : ∀ n, n ≤ l.length → R.wSFn (l ++ [x]) n = R.wSFn l n := fun n => by
  induction n with
  | zero => intro _; rfl
  | succ n ih =>
   intro hn
   simp only [R.wSFn]
   rw [ih (by omega), List.getD_eq_getElem?_getD, List.getElem?_append_left (by omega), ← List.getD_eq_getElem?_getD]
 have e : (l ++ [x]).length = l.length + 1 := by simp
 rw [e]
 simp only [R.wSFn]
 rw [h1 _ (Nat.le_refl _), List.getD_eq_getElem?_getD, List.getElem?_append_right (Nat.le_refl _)]
 simp
structure CI (s : ByteArray) (w : World) (L : List FnE) (v : Value) (m q : Nat) (c : Bool) (W : World) : Prop where
 cx : CX w v W
 own : OwnE (w.heap.size + 3) W v L
 sz : w.heap.size + 3 ≤ W.heap.size
 ds : DS W (w.heap.size + 1) s q c
 le : q ≤ s.size
 few : L.length + m ≤ 60
 n64 : ∀ x ∈ L, ∀ z ∈ x.f.ins, -9223372036854775808 ≤ z.n ∧ z.n ≤ 9223372036854775807
 wt : Wt false 5 (R.wSFn (L.map FnE.f) (L.map FnE.f).length) q c
 sg : ∀ ys, Can s ys → c = false ∧ L.map FnE.f = ys.take L.length ∧ L.length + m = ys.length ∧ Fr (fnsF (ys.drop L.length)) ((bts s).drop q)
theorem CI.step {s : ByteArray} {w : World} {L : List FnE} {v v9 pv iv : Value} {f : Fn} {m q q' : Nat} {c' : Bool} {W1 W W2 W3 W9 : World} (h : CI s w L v (m + 1) q false W1) (hw : Below W1.heap.size W1 W) (hx : CX w v W9) (hg : W.grownBy W2 (some (w.heap.size + 1))) (hp : OwnI W.heap.size W2 pv f.params) (hi : OwnN W.heap.size W2 iv f.ins) (h3 : Below W2.heap.size W2 W3) (h4 : W3.grownBy W9 v.ownBlock) (ho : W9.ownsRow (w.heap.size + 3) 57 5 v9 (L.length + 1) (cellsE L ++ [.string f.name, pv, .int .i64 f.result, .int .i64 f.slots, iv]))
  (hn : ∀ z ∈ f.ins, -9223372036854775808 ≤ z.n ∧ z.n ≤ 9223372036854775807) (hwt : Wt false q (R.wFn f) q' c') (hd : DS W9 (w.heap.size + 1) s q' c') (h2 : q' ≤ s.size) (hsg : Sg s q false q' c' (fun _ => []) (fun y => f = y)) : CI s w (L ++ [⟨f, pv, iv, W.heap.size, W2.heap.size⟩]) v9 m q' c' (W9.setCell ⟨w.heap.size + 2, 0, none⟩ v9) := by
 have hl : (L ++ [(⟨f, pv, iv, W.heap.size, W2.heap.size⟩ : FnE)]).length = L.length + 1 := by simp
 have hmap : (L ++ [(⟨f, pv, iv, W.heap.size, W2.heap.size⟩ : FnE)]).map FnE.f = L.map FnE.f ++ [f] := by simp
 have hB := Nat.le_trans h.sz hw.size
 have hown := (h.own.next hw).more hB hg (by omega) hp hi h3 h4 ho
 refine ⟨hx.set _, hown.setT hx.e1 (by decide) 0 _, by rw [set_size]; exact Nat.le_trans hB (Nat.le_trans hg.size (Nat.le_trans h3.size h4.size)), hd.setO (by omega) _ _, h2, by rw [hl]; have := h.few; omega, fun x hx z hz => ?_, ?_, fun ys hy => ?_⟩
 ·rcases List.mem_append.1 hx with hx | hx
  ·exact h.n64 x hx z hz
  ·simp at hx
   subst hx
   exact hn z hz
 ·rw [hmap, wSFn_app]
  have a1 := h.wt.1 rfl
  have a2 := hwt.2
  refine ⟨fun e => ⟨rfl, ?_⟩, ?_⟩
  ·have := (hwt.1 e).2
   omega
  ·omega
 ·obtain ⟨_, b2, b3, b4⟩ := h.sg ys hy
  have hlt : L.length < ys.length := by omega
  rw [fns_drop hlt] at b4
  have b5 := fr_at b4
  have hmem : ys.getD L.length fn0 ∈ ys := by rw [List.getD_eq_getElem?_getD, List.getElem?_eq_getElem hlt]; exact List.getElem_mem hlt
  obtain ⟨d1, d2, _, d4⟩ := hsg _ rfl (hy.1 _ hmem) b5.1
  have d5 : q' = q + (fnF (ys.getD L.length fn0)).length := by simpa using d4
  refine ⟨d1, ?_, by rw [hl]; omega, by rw [hl, d5]; exact b5.2⟩
  rw [hmap, hl, take_fn hlt, b2, d2]
theorem lit_five (W : World) (t : TypeId) (a b c e f : Value) : ∀ j u, ([a, b, c, e, f] : List Value)[j]? = some u → (W.alloc (.cells #[a, b, c, e, f] t)).cell? ((⟨W.heap.size, 0, none⟩ : Addr).add j) = some u := fun j u hj => by
 match j, hj with
 | 0, hj => simp at hj; subst hj; simp [Addr.add]
 | 1, hj => simp at hj; subst hj; simp [Addr.add]
 | 2, hj => simp at hj; subst hj; simp [Addr.add]
 | 3, hj => simp at hj; subst hj; simp [Addr.add]
 | 4, hj => simp at hj; subst hj; simp [Addr.add]
theorem one_five (s : ByteArray) (a1 : Option Addr) (l1 c1 : Nat) (r sl : Int) (a2 : Option Addr) (l2 c2 : Nat) : ∀ u ∈ ([Value.string s, .slice a1 l1 c1, .int .i64 r, .int .i64 sl, .slice a2 l2 c2] : List Value), u.oneCell' = true := fun u hu => by
 simp at hu
 rcases hu with rfl | rfl | rfl | rfl | rfl <;> rfl
def RcEnd (s : ByteArray) (w : World) (e : Ending) (w' : World) : Prop := ∃ (o : Option (List Fn)) (v : Value), e = .returned (.tuple #[.agg #[v], .bool o.isSome]) ∧ RcAns s o ∧ FnsRow w' v (o.getD []) ∧ Below w.heap.size w w'
theorem rc_none {s : ByteArray} {w W : World} (h : RcAns s none) (hb : Below w.heap.size w W) : RcEnd s w (.returned (.tuple #[.agg #[.slice none 0 0], .bool false])) W :=
 ⟨none, _, rfl, h, ⟨none, 0, rfl, Nat.le_refl _, by unfold maxLen; omega, .inl rfl⟩, hb⟩
theorem can_size {s : ByteArray} {ys : List Fn} (h : Can s ys) : 6 ≤ s.size ∧ (bts s).take 5 = begF ∧ Fr (nb ys.length ++ fnsF ys) ((bts s).drop 5) := by
 have h1 := h.2.2
 unfold formF at h1
 have h2 := congrArg List.length h1
 have h3 := nb_ne ys.length
 have h4 : 0 < (nb ys.length).length := List.length_pos_iff.2 h3
 simp only [List.length_append, bts_len] at h2
 have h5 : begF.length = 5 := rfl
 refine ⟨by omega, ?_, ?_⟩
 ·rw [← h1]
  exact List.take_left' h5
 ·exact ⟨[], by rw [← h1, List.drop_left' h5, List.append_nil]⟩
theorem getD_memX {X : Type} {l : List X} {d : X} {j : Nat} (h : j < l.length) : l.getD j d ∈ l := by
 rw [List.getD_eq_getElem?_getD, List.getElem?_eq_getElem h]
 exact List.getElem_mem h
theorem CI.code {s : ByteArray} {w : World} {L : List FnE} {v : Value} {m q : Nat} {c : Bool} {W : World} (h : CI s w L v m q c W) (hs : s.size ≤ 200000) : CodeS (L.map FnE.f) ∧ R.wSFn (L.map FnE.f) (L.map FnE.f).length ≤ 1048576 := by
 have hw : R.wSFn (L.map FnE.f) (L.map FnE.f).length ≤ 1048576 := by have := h.wt.2; have := h.le; omega
 refine ⟨⟨fun j hj => ?_, fun j hj p hp => ?_⟩, hw⟩
 ·have h1 := R.wSFn_at (L.map FnE.f) hj
  simp only [R.wFn] at h1
  unfold maxLen
  omega
 ·rw [List.length_map] at hj
  have e : (L.map FnE.f).getD j fn0 = (L.getD j fne0).f := by simp [List.getD_eq_getElem?_getD, hj]
  rw [e] at hp ⊢
  exact h.n64 _ (getD_memE hj) _ (getD_memX hp)
theorem CI.bad {s : ByteArray} {w : World} {L : List FnE} {v : Value} {m q : Nat} {W : World} (h : CI s w L v m q true W) : RcAns s none := fun ys _ a b _ e => by
 have := (h.sg ys ⟨a, b, e⟩).1
 cases this
theorem CI.ans {s t : ByteArray} {w : World} {L : List FnE} {v : Value} {q : Nat} {W : World} (h : CI s w L v 0 q false W) (hs : s.size ≤ 200000) (h6 : 6 ≤ s.size) (ht : WcAns (L.map FnE.f) t) : (t = s → RcAns s (some (L.map FnE.f))) ∧ (¬ t = s → RcAns s none) := by
 obtain ⟨cc, k, i, hc, rfl⟩ := ht
 constructor
 ·intro e
  by_cases hif : cc = 0 ∧ (formF (L.map FnE.f)).length ≤ 200000
  ·rw [if_pos hif] at e
   obtain ⟨rfl, hl⟩ := hif
   have hn : ∀ f ∈ L.map FnE.f, ∀ x ∈ f.ins, -9223372036854775808 ≤ x.n ∧ x.n ≤ 9223372036854775807 := fun f hf x hx => by
    obtain ⟨z, hz, rfl⟩ := List.mem_map.1 hf
    exact h.n64 z hz x hx
   have hS := fnS_of hc rfl hn
   have h0 : Chk (L.map FnE.f) 0 0 0 := by
    cases hc with
    | plain c k i h h1 => exact absurd rfl h1
    | ok h h1 => exact .ok h h1
   refine ⟨h0, hS.2, hS.1, ?_, hs⟩
   rw [← e]
   unfold bts
   simp
  ·rw [if_neg hif] at e
   rw [← e] at h6
   have : (⟨#[]⟩ : ByteArray).size = 0 := rfl
   omega
 ·intro hne ys h1 h2 h3 _ h5
  obtain ⟨_, b2, b3, _⟩ := h.sg ys ⟨h2, h3, h5⟩
  have e1 : L.length = ys.length := by omega
  rw [e1, List.take_length] at b2
  rw [b2] at hne hc
  have e0 := (hc.uniq h1).1
  have e2 : (formF ys).length ≤ 200000 := by rw [h5, bts_len]; exact hs
  rw [if_pos ⟨e0, e2⟩] at hne
  exact hne (bytes_eq (by simpa [bts] using h5))
set_option maxHeartbeats 8000000 in
theorem specRead_any (s : ByteArray) (w : World) (hs : s.size ≤ 1048576) :
  Calls Tryz.prog 10 #[.string s] w (RcEnd s w) := by
 have HB0 : Hid (Below w.heap.size w (w.alloc (.cells #[.slice none 0 0] 29))) := hid ((Below.refl _ _).alloc (Nat.le_refl _) _)
 have HE0 : Hid ((w.alloc (.cells #[.slice none 0 0] 29)).heap[w.heap.size]? = some (.cells #[.slice none 0 0] 29 (0, 0))) := hid (heap_alloc_new _ _)
 by_cases h6 : 6 ≤ s.size
 ·have h6i : ¬ (s.size : Int) < 6 := by omega
  by_cases h2 : s.size ≤ 200000
  ·have h2i : ¬ (s.size : Int) > 200000 := by omega
   have h5 : 5 ≤ s.size := by omega
   have hexl : (s.extract 0 5).toList = (bts s).take 5 := by rw [Lib.extract_toList]; rfl
   cases hbb : ((s.extract 0 5).toList == [109, 105, 108, 108, 49]) with
   | false =>
    have HNO : Hid (RcAns s none) := hid fun ys _ a b c e => by
     have h9 := (can_size ⟨a, b, e⟩).2.1
     rw [hexl, h9] at hbb
     cases hbb
    have hbn : (!(s.extract 0 5).toList == [109, 105, 108, 108, 49]) = true := by rw [hbb]; rfl
    have r0 := cell_hp HE0.out 0
    have f0 := frozen_hp HE0.out 0
    clear hexl hbb
    go_enter Tryz.func10, Tryz.ntmps10
    go_wp2
    exact bodyPost_ret (v := .tuple #[.agg #[.slice none 0 0], .bool false]) (by simp [results, Tryz.results10, go_sem, r0]) rfl (rc_none HNO.out HB0.out)
   | true =>
    have hbn : (!(s.extract 0 5).toList == [109, 105, 108, 108, 49]) = false := by rw [hbb]; rfl
    have HBG : Hid ((bts s).take 5 = begF) := hid (by
     rw [hexl] at hbb
     exact eq_of_beq hbb)
    clear hexl hbb
    go_enter Tryz.func10, Tryz.ntmps10
    go_upto_region 5 with fail
    clear hbn
    have HW1 : Hid (CX w (.slice none 0 0) (((w.alloc (.cells #[.slice none 0 0] 29)).alloc (.cells #[.string s, .int .i64 5, .bool false] 64)).alloc (.cells #[.slice none 0 0] 29)) ∧ DS (((w.alloc (.cells #[.slice none 0 0] 29)).alloc (.cells #[.string s, .int .i64 5, .bool false] 64)).alloc (.cells #[.slice none 0 0] 29)) (w.heap.size + 1) s 5 false ∧ w.heap.size + 3 ≤ (((w.alloc (.cells #[.slice none 0 0] 29)).alloc (.cells #[.string s, .int .i64 5, .bool false] 64)).alloc (.cells #[.slice none 0 0] 29)).heap.size) := hid (by
     obtain ⟨t0, t1, t2⟩ := three w (.cells #[.slice none 0 0] 29) (.cells #[.string s, .int .i64 5, .bool false] 64) (.cells #[.slice none 0 0] 29)
     exact ⟨⟨((HB0.out.alloc (by simp) _).alloc (by simp; omega) _), t0, t2⟩, t1, by simp⟩)
    obtain ⟨W1, hW1⟩ : ∃ W, ((w.alloc (.cells #[.slice none 0 0] 29)).alloc (.cells #[.string s, .int .i64 5, .bool false] 64)).alloc (.cells #[.slice none 0 0] 29) = W := ⟨_, rfl⟩
    rw [hW1] at HW1 ⊢
    clear hW1 HB0 HE0
    have HN2 := hid (small_any (M := 60) HW1.out.2.1 h5 h2 (by omega))
    go_wp2_with fail
    refine HN2.out.mono ?_
    rintro e w2 ⟨n2, q2, b2, rfl, hn2, hd2, h21, h22, h23, h24, hg2, hm2⟩
    have HCI : Hid (CI s w [] (.slice none 0 0) n2 q2 b2 w2) := hid (by
     refine ⟨HW1.out.1.grow hg2, OwnE.nil _ _, Nat.le_trans HW1.out.2.2 hg2.size, hd2, h22, by simpa using hn2, (fun x hx => by cases hx), ⟨fun e => ⟨rfl, by have := (h23 e).2; simpa [R.wSFn] using this⟩, by simp [R.wSFn]; omega⟩, fun ys hy => ?_⟩
     have h9 := fr_at (can_size hy).2.2
     have h10 := hm2 ys.length rfl hy.2.1 h9.1
     exact ⟨h10.2.2, by simp, by simp; omega, by rw [h10.2.1]; simpa using h9.2⟩)
    clear hd2 hg2 hm2 h23 HN2 HW1
    obtain ⟨i0, hi, hz0, hz1, hz2⟩ := info_fn
    have HHI := hid (And.intro hi (And.intro hz0 (And.intro hz1 hz2)))
    clear hi hz0 hz1 hz2
    go_wp2_with fail
    go_loopw [6] (fun n wr => ∃ (m : Nat) (L : List FnE) (v : Value) (q : Nat) (c : Bool), n = .int .i64 m ∧ CI s w L v m q c wr) (fun n _ => (intOf n).toNat)
    case atStart => exact ⟨n2, [], _, q2, b2, rfl, HCI.out⟩
    case round =>
     obtain ⟨m, L, v, q, c, rfl, hci⟩ := hrel
     have HP := hid hci
     obtain ⟨ad, cp, rfl⟩ := hci.own.sl
     obtain ⟨_, _, k2, _, _⟩ := hci.ds.c
     have hfew := hci.few
     have hle := hci.le
     clear hci HCI
     by_cases hgo : 0 < m ∧ c = false
     ·obtain ⟨hm0, rfl⟩ := hgo
      obtain ⟨m', rfl⟩ : ∃ m', m = m' + 1 := ⟨m - 1, by omega⟩
      have hm1 : (0 : Int) < ((m' + 1 : Nat) : Int) := by omega
      have HG : Hid (∀ V, wr.grownBy V (some (w.heap.size + 1)) → V.cell? ⟨w.heap.size + 1 + 1, 0, none⟩ = some (.slice ad L.length cp) ∧ V.frozen? ⟨w.heap.size + 1 + 1, 0, none⟩ = false) := hid fun V hV => ⟨cell_hp (HP.out.cx.grow hV).e1 0, frozen_hp (HP.out.cx.grow hV).e1 0⟩
      obtain ⟨p5, z5⟩ := HG.out _ (grown_refl _ _)
      obtain ⟨p6, z6⟩ := HG.out _ (grown_drew (grown_refl _ _))
      go_wp2_with fail
      go_region_law (first
       | (refine step_entR rfl (f := 26) (vals := #[.pointer (some ⟨w.heap.size + 1, 0, none⟩)]) (by kernel_rfl) (fn_anyD HP.out.ds.drew hle h2) ?_; intro e w8 hq8; obtain ⟨f8, pv8, iv8, q8, c8, rfl, hp8, hi8, hn8, hw8, hd8, h82, hg8, hs8⟩ := hq8; have HP8 := hid hp8; have HI8 := hid hi8; obtain ⟨pa, pc, rfl⟩ := hp8.sl; obtain ⟨ia, ic, rfl⟩ := hi8.sl; refine ⟨_, rfl, ?_⟩; have HG8 : Hid (wr.drew.grownBy w8 (some (w.heap.size + 1))) := hid hg8; have HG8R : Hid (wr.grownBy w8 (some (w.heap.size + 1))) := hid (grown_trans (grown_drew (grown_refl _ _)) hg8); have HB8 : Hid (Below w8.heap.size w8 (w8.alloc (.cells #[.string f8.name, .slice pa f8.params.length pc, .int .i64 f8.result, .int .i64 f8.slots, .slice ia f8.ins.length ic] 57))) := hid ((Below.refl _ _).alloc (Nat.le_refl _) _); have HG8A := hid (grown_below HG8R.out HB8.out); obtain ⟨p8, z8⟩ := HG.out _ HG8R.out; obtain ⟨p8a, z8a⟩ := HG.out _ HG8A.out; have HD8 := hid hd8; have HS8 := hid hs8; have HN8 := hid hn8; have HW8 := hid hw8; clear hd8 hg8 hs8 hn8 hw8 hp8 hi8)
       | (refine step_appR rfl (.tmp 39) (.tmp 42) 27 rfl (w.heap.size + 3) 57 i0 (.agg #[.string ⟨#[]⟩, .slice none 0 0, .int .i64 0, .int .i64 0, .slice none 0 0]) 5 80 Tryz.underlying27 HHI.out.1 HHI.out.2.1 HHI.out.2.2.1 HHI.out.2.2.2 rfl (by decide) (.slice ad L.length cp) L.length (cellsE L) (by simp [Act.eval]) (own_growD HP.out.own.row HG8A.out (by omega)) ⟨w8.heap.size, 0, none⟩ 1 1 [.string f8.name, .slice pa f8.params.length pc, .int .i64 f8.result, .int .i64 f8.slots, .slice ia f8.ins.length ic] (by simp [Act.eval]) rfl (lit_five _ _ _ _ _ _ _) (one_five _ _ _ _ _ _ _ _ _) (by unfold maxLen; omega) (by omega) (Nat.le_trans HP.out.sz HG8A.out.size) ?_; intro v9 w9 o9 g9; have HO9 := hid o9; have HG9 := hid g9; have HX9 := hid ((HP.out.cx.grow HG8A.out).own (own_growD HP.out.own.row HG8A.out (by omega)) g9); have HD9 : Hid (DS w9 (w.heap.size + 1) s q8 c8) := hid (box_other (HD8.out.next HB8.out) (own_growD HP.out.own.row HG8A.out (by omega)) (by decide) g9); obtain ⟨a9, c9, rfl⟩ := own_slN o9; have p9 := cell_hp HX9.out.e1 0; have z9 := frozen_hp HX9.out.e1 0; clear o9 g9))
      all_goals
       have HN9 := hid (HP.out.step (Below.refl _ _).drew HX9.out HG8.out HP8.out HI8.out HB8.out HG9.out HO9.out HN8.out HW8.out HD9.out h82 HS8.out)
       go_wp2
       go_roundw
       case rel => exact ⟨m', _, _, q8, c8, by go_num, HN9.out⟩
       case measure => simp [intOf]
     ·obtain ⟨r0, f0⟩ : wr.cell? ⟨w.heap.size, 0, none⟩ = some (.slice none 0 0) ∧ wr.frozen? ⟨w.heap.size, 0, none⟩ = false := ⟨cell_hp HP.out.cx.e0 0, frozen_hp HP.out.cx.e0 0⟩
      cases c with
      | true =>
       have HNO := hid HP.out.bad
       have HLO : Hid (∀ u, Below w.heap.size w (wr.setCell ⟨w.heap.size, 0, none⟩ u)) := hid fun u => set_lo HP.out.cx.lo _ _ (Nat.le_refl _) _
       by_cases hm : 0 < m
       ·have hmi : (0 : Int) < (m : Int) := by omega
        go_wp2
        exact bodyPost_ret (v := .tuple #[.agg #[.slice none 0 0], .bool false]) (by simp [results, Tryz.results10, go_sem, r0]) rfl (rc_none HNO.out (HLO.out _))
       ·obtain rfl : m = 0 := by omega
        go_wp2
        exact bodyPost_ret (v := .tuple #[.agg #[.slice none 0 0], .bool false]) (by simp [results, Tryz.results10, go_sem, r0]) rfl (rc_none HNO.out (HLO.out _))
      | false =>
       obtain rfl : m = 0 := by
        rcases Nat.eq_zero_or_pos m with h | h
        ·exact h
        ·exact absurd ⟨h, rfl⟩ hgo
       clear hgo
       have HCO := hid (HP.out.code h2)
       have HWR := hid (specWrite_any HP.out.own.rows HCO.out.1 HCO.out.2)
       have p5 : wr.cell? ⟨w.heap.size + 1 + 1, 0, none⟩ = some (.slice ad L.length cp) := cell_hp HP.out.cx.e1 0
       go_wp2_with fail
       refine HWR.out.mono ?_
       rintro e w4 ⟨t, rfl, hans, hb4⟩
       have HAN := hid (HP.out.ans h2 h6 hans)
       have HC4 := hid (HP.out.cx.next hb4)
       have HR4 := hid (HP.out.own.next hb4)
       clear hans hb4 r0 f0 p5 k2 HWR
       have p5 : w4.cell? ⟨w.heap.size + 1 + 1, 0, none⟩ = some (.slice ad L.length cp) := cell_hp HC4.out.e1 0
       obtain ⟨r0, f0⟩ : w4.cell? ⟨w.heap.size, 0, none⟩ = some (.slice none 0 0) ∧ w4.frozen? ⟨w.heap.size, 0, none⟩ = false := ⟨cell_hp HC4.out.e0 0, frozen_hp HC4.out.e0 0⟩
       have HLO : Hid (∀ u, Below w.heap.size w (w4.setCell ⟨w.heap.size, 0, none⟩ u)) := hid fun u => set_lo HC4.out.lo _ _ (Nat.le_refl _) _
       cases hts : (t.toList == s.toList) with
       | true =>
        have htn : (!t.toList == s.toList) = false := by rw [hts]; rfl
        have HA : Hid (RcAns s (some (L.map FnE.f))) := hid (HAN.out.1 (bytes_eq (by have := eq_of_beq hts; rw [Lib.toList_data, Lib.toList_data] at this; exact this)))
        have HFR : Hid (∀ u, FnsRow (w4.setCell ⟨w.heap.size, 0, none⟩ u) (.slice ad L.length cp) (L.map FnE.f)) := hid fun u => (HR4.out.setT HC4.out.e0 (by decide) 0 u).rows
        clear hts HAN
        go_wp2
        exact bodyPost_ret (v := .tuple #[.agg #[.slice ad L.length cp], .bool true]) (by simp [results, Tryz.results10, go_sem, r0]) rfl ⟨some (L.map FnE.f), _, rfl, HA.out, HFR.out _, HLO.out _⟩
       | false =>
        have htn : (!t.toList == s.toList) = true := by rw [hts]; rfl
        have HNO : Hid (RcAns s none) := hid (HAN.out.2 fun e => by rw [e] at hts; simp at hts)
        clear hts HAN
        go_wp2
        exact bodyPost_ret (v := .tuple #[.agg #[.slice none 0 0], .bool false]) (by simp [results, Tryz.results10, go_sem, r0]) rfl (rc_none HNO.out (HLO.out _))
  ·have HNO : Hid (RcAns s none) := hid fun ys _ a b c e => h2 c
   have h2i : (s.size : Int) > 200000 := by omega
   have r0 := cell_hp HE0.out 0
   have f0 := frozen_hp HE0.out 0
   go_enter Tryz.func10, Tryz.ntmps10
   go_wp2
   exact bodyPost_ret (v := .tuple #[.agg #[.slice none 0 0], .bool false]) (by simp [results, Tryz.results10, go_sem, r0]) rfl (rc_none HNO.out HB0.out)
 ·have HNO : Hid (RcAns s none) := hid fun ys _ a b c e => h6 (can_size ⟨a, b, e⟩).1
  have h6i : (s.size : Int) < 6 := by omega
  have r0 := cell_hp HE0.out 0
  have f0 := frozen_hp HE0.out 0
  go_enter Tryz.func10, Tryz.ntmps10
  go_wp2
  exact bodyPost_ret (v := .tuple #[.agg #[.slice none 0 0], .bool false]) (by simp [results, Tryz.results10, go_sem, r0]) rfl (rc_none HNO.out HB0.out)
end Go.Proofs.YtcjgcipacfcjnaaGreatDoor.C.D
namespace Go.Proofs.YtcjgcipacfcjnaaGreatDoor.C
open Go.RowKit
set_option maxRecDepth 20000
def decF : Nat → Nat → List UInt8 → List UInt8
 | 0, _, acc => acc
 | f + 1, k, acc => if k = 0 then acc else decF f (k / 10) ((48 + k % 10).toUInt8 :: acc)
def mtxt (k : Nat) : ByteArray := ⟨(109 :: decF k k []).toArray⟩
theorem conv_one (W : World) (d : Int) (b : UInt8) (hd : (b.toNat : Int) = d) : (convert 39 9 (.slice (some ⟨W.heap.size, 0, none⟩) 1 1)).run Tryz.prog (W.alloc (.cells #[.int .u8 d] 5)) = .ok (.string ⟨[b].toArray⟩) (W.alloc (.cells #[.int .u8 d] 5)) := by
 refine run_convert_bytes_back (W.alloc (.cells #[.int .u8 d] 5)) 39 9 5 ⟨W.heap.size, 0, none⟩ 1 [b] Tryz.underlying39 Tryz.underlying5 Tryz.underlying9 ?_
 intro j hj
 obtain rfl : j = 0 := by simpa using hj
 have h := R.row_cell (heap_alloc_new W (.cells #[.int .u8 d] 5)) 0
 subst hd
 exact h
theorem cons_bytes (b : UInt8) (acc : List UInt8) : ((⟨#[b]⟩ : ByteArray) ++ ⟨acc.toArray⟩) = ⟨(b :: acc).toArray⟩ := by
 apply ByteArray.ext
 rw [ByteArray.data_append]
 simp
theorem digit_byte (j : Nat) : (((48 + j % 10).toUInt8).toNat : Int) = 48 + (j : Int) % 10 := by
 have h : (48 + j % 10) < 256 := by omega
 simp [Nat.mod_eq_of_lt h]
set_option maxRecDepth 20000 in
set_option maxHeartbeats 100000000 in
theorem markText_any (k : Nat) (w : World) (h0 : 0 < k) (h1 : k ≤ 10000000) :
  Calls Tryz.prog 56 #[.int .i64 k] w fun e w' => e = .returned (.string (mtxt k)) ∧ Below w.heap.size w w' := by
 go_enter Tryz.func56, Tryz.ntmps56
 go_wp2
 go_loopw [0, 3] (fun i o wr => ∃ (j f : Nat) (acc : List UInt8), i = .int .i64 j ∧ j ≤ f ∧ acc.length + j ≤ k ∧ o = .string ⟨acc.toArray⟩ ∧ Below w.heap.size w wr ∧ decF f j acc = decF k k []) (fun i _ _ => (intOf i).toNat)
 case atStart => exact ⟨k, k, [], rfl, Nat.le_refl _, by simp, rfl, Below.refl _ _, rfl⟩
 case round =>
  obtain ⟨j, f, acc, rfl, hf, hj, rfl, hb, hd⟩ := hrel
  have HD := hid hd
  have HB := hid hb
  clear hd hb
  have hal : acc.length ≤ 10000000 := by omega
  by_cases hj0 : 0 < j
  ·obtain ⟨f, rfl⟩ : ∃ f', f = f' + 1 := ⟨f - 1, by omega⟩
   have hconv := conv_one wr (48 + (j : Int) % 10) (48 + j % 10).toUInt8 (digit_byte j)
   have NX : Hid (decF f (j / 10) ((48 + j % 10).toUInt8 :: acc) = decF k k []) := by
    show _ = _; rw [← HD.out]; simp only [decF]; rw [if_neg (by omega)]
   generalize (48 + j % 10).toUInt8 = b at *
   go_wp2
   go_roundw
   case rel => exact ⟨j / 10, f, b :: acc, by go_num, by omega, by simp; omega, by rw [cons_bytes], HB.out.alloc HB.out.size _, NX.out⟩
   case measure => simp [intOf]; omega
  ·have HE : Hid (decF k k [] = acc) := by
    show _ = _; rw [← HD.out]
    obtain rfl : j = 0 := by omega
    cases f <;> rfl
   go_wp2
   go_ret
   exact ⟨by unfold mtxt; rw [HE.out, ← cons_bytes]; rfl, HB.out⟩
theorem markText_int (a : Int) (k : Nat) (w : World) (he : a = k) (h0 : 0 < k) (h1 : k ≤ 10000000) :
  Calls Tryz.prog 56 #[.int .i64 a] w fun e w' => e = .returned (.string (mtxt k)) ∧ Below w.heap.size w w' := by
 subst he
 exact markText_any k w h0 h1
end Go.Proofs.YtcjgcipacfcjnaaGreatDoor.C
