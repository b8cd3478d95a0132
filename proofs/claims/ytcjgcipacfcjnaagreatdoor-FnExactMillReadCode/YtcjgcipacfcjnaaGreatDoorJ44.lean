import Derived.Deep.DeepCutAuto
import Derived.Test.YtcjgcipacfcjnaaGreatDoorJ42
namespace Go.Proofs.YtcjgcipacfcjnaaGreatDoor.C.D
open Go.RowKit
set_option maxRecDepth 20000
abbrev numF : Int → List UInt8 := fun k => nb (uOf k)
theorem fnF_ser (y : Fn) : fnF y = tb y.name ++ (SerF numF y.params ++ (nb (uOf y.result) ++ (nb (uOf y.slots) ++ (SerF insF y.ins ++ [])))) := by
 simp [fnF, hdF, SerF, parF, inssF]
theorem fr_stage {A B R : List UInt8} {s : ByteArray} {p q : Nat} (h : Fr A ((bts s).drop p)) (hq : q = p + A.length) (k : Fr (B ++ R) ((bts s).drop p)) : ∃ x, A ++ (bts s).drop q = B ++ (R ++ x) := by
 obtain ⟨y, hy⟩ := h
 obtain ⟨x, hx⟩ := k
 have e : (bts s).drop q = y := by rw [hq, ← List.drop_drop, hy, List.drop_left]
 exact ⟨x, by rw [e, ← hy, hx, List.append_assoc]⟩
theorem ser_pre {X : Type} {F : X → List UInt8} {P : X → Prop} (hF : Pre F P) {l m : List X} {r r' : List UInt8} (hl : ∀ x ∈ l, P x) (hm : ∀ x ∈ m, P x) (h : SerF F l ++ r = SerF F m ++ r') : l = m ∧ r = r' := by
 unfold SerF at h
 rw [List.append_assoc, List.append_assoc] at h
 obtain ⟨e1, h⟩ := nb_pre _ _ _ _ h
 exact flat_pre hF l m r r' e1 hl hm h
def PS (s : ByteArray) (p q : Nat) (rm : Fn → List UInt8) (E : Fn → Prop) : Prop := ∀ y, FnW y → Fr (fnF y) ((bts s).drop p) → E y ∧ Fr (rm y) ((bts s).drop q)
theorem PS.text {s : ByteArray} {p q : Nat} {nm : ByteArray} (h : Fr (tb nm) ((bts s).drop p)) (hq : q = p + (tb nm).length) : PS s p q (fun y => SerF numF y.params ++ (nb (uOf y.result) ++ (nb (uOf y.slots) ++ (SerF insF y.ins ++ [])))) (fun y => y.name = nm) := fun y _ hf => by
 rw [fnF_ser] at hf
 obtain ⟨x, hx⟩ := fr_stage h hq hf
 obtain ⟨e1, e2⟩ := tb_pre hx
 exact ⟨e1.symm, x, e2⟩
theorem PS.num {s : ByteArray} {p q q' n : Nat} {rm : Fn → List UInt8} {E : Fn → Prop} {f : Fn → Int} (h : PS s p q (fun y => nb (uOf (f y)) ++ rm y) E) (hf : ∀ y, FnW y → 0 ≤ f y ∧ f y ≤ 200000) (hn : Fr (nb n) ((bts s).drop q)) (hq : q' = q + (nb n).length) : PS s p q' rm (fun y => E y ∧ f y = n) := fun y hy hyf => by
 obtain ⟨h1, h2⟩ := h y hy hyf
 obtain ⟨x, hx⟩ := fr_stage hn hq h2
 obtain ⟨e1, e2⟩ := nb_pre _ _ _ _ hx
 have := hf y hy
 exact ⟨⟨h1, by rw [e1]; unfold uOf; omega⟩, x, e2⟩
theorem PS.ser {X : Type} {F : X → List UInt8} {P : X → Prop} (hF : Pre F P) {s : ByteArray} {p q q' : Nat} {l : List X} {rm : Fn → List UInt8} {E : Fn → Prop} {f : Fn → List X} (h : PS s p q (fun y => SerF F (f y) ++ rm y) E) (hf : ∀ y, FnW y → ∀ x ∈ f y, P x) (hl : ∀ x ∈ l, P x) (hn : Fr (SerF F l) ((bts s).drop q)) (hq : q' = q + (SerF F l).length) : PS s p q' rm (fun y => E y ∧ f y = l) := fun y hy hyf => by
 obtain ⟨h1, h2⟩ := h y hy hyf
 obtain ⟨x, hx⟩ := fr_stage hn hq h2
 obtain ⟨e1, e2⟩ := ser_pre hF hl (hf y hy) hx
 exact ⟨⟨h1, e1.symm⟩, x, e2⟩
theorem PS.noNum {s : ByteArray} {p q : Nat} {rm : Fn → List UInt8} {E : Fn → Prop} {f : Fn → Int} (h : PS s p q (fun y => nb (uOf (f y)) ++ rm y) E) (hf : ∀ y, FnW y → 0 ≤ f y ∧ f y ≤ 200000) (hn : ∀ n, n ≤ 200000 → ¬ Fr (nb n) ((bts s).drop q)) (y : Fn) (hy : FnW y) : ¬ Fr (fnF y) ((bts s).drop p) := fun hyf =>
 hn (uOf (f y)) (by have := hf y hy; unfold uOf; omega) (fr_at (h y hy hyf).2).1
theorem PS.noSer {X : Type} {F : X → List UInt8} {P : X → Prop} {s : ByteArray} {p q : Nat} {rm : Fn → List UInt8} {E : Fn → Prop} {f : Fn → List X} (h : PS s p q (fun y => SerF F (f y) ++ rm y) E) (hf : ∀ y, FnW y → (∀ x ∈ f y, P x) ∧ (f y).length ≤ 200000) (hn : ∀ l : List X, (∀ x ∈ l, P x) → l.length ≤ 200000 → ¬ Fr (SerF F l) ((bts s).drop q)) (y : Fn) (hy : FnW y) : ¬ Fr (fnF y) ((bts s).drop p) := fun hyf =>
 hn (f y) (hf y hy).1 (hf y hy).2 (fr_at (h y hy hyf).2).1
structure FX (w : World) (r : Nat) (nm : ByteArray) (pv : Value) (a b : Int) (iv : Value) (W : World) : Prop where
 gr : w.grownBy W (some r)
 e : W.heap[w.heap.size]? = some (gbox nm pv a b iv)
 dl : r < w.heap.size
theorem FX.grow {w W V : World} {r : Nat} {nm : ByteArray} {pv iv : Value} {a b : Int} (h : FX w r nm pv a b iv W) (hg : W.grownBy V (some r)) : FX w r nm pv a b iv V :=
 ⟨grown_trans h.gr hg, grown_hp hg h.e (by have := h.dl; omega), h.dl⟩
theorem FX.set0 {w W : World} {r : Nat} {nm : ByteArray} {pv iv : Value} {a b : Int} (h : FX w r nm pv a b iv W) (x : ByteArray) : FX w r x pv a b iv (W.setCell ⟨w.heap.size, 0, none⟩ (.string x)) :=
 ⟨grown_hi h.gr (Nat.le_refl _) _ _, (by have := h.e; unfold World.setCell; simp only [Array.getElem?_modify, this]; simp [gbox]), h.dl⟩
theorem FX.set1 {w W : World} {r : Nat} {nm : ByteArray} {pv iv : Value} {a b : Int} (h : FX w r nm pv a b iv W) (x : Value) : FX w r nm x a b iv (W.setCell ⟨w.heap.size, 1, none⟩ x) :=
 ⟨grown_hi h.gr (Nat.le_refl _) _ _, (by have := h.e; unfold World.setCell; simp only [Array.getElem?_modify, this]; simp [gbox]), h.dl⟩
theorem FX.set2 {w W : World} {r : Nat} {nm : ByteArray} {pv iv : Value} {a b : Int} (h : FX w r nm pv a b iv W) (x : Int) : FX w r nm pv x b iv (W.setCell ⟨w.heap.size, 2, none⟩ (.int .i64 x)) :=
 ⟨grown_hi h.gr (Nat.le_refl _) _ _, (by have := h.e; unfold World.setCell; simp only [Array.getElem?_modify, this]; simp [gbox]), h.dl⟩
theorem FX.set3 {w W : World} {r : Nat} {nm : ByteArray} {pv iv : Value} {a b : Int} (h : FX w r nm pv a b iv W) (x : Int) : FX w r nm pv a x iv (W.setCell ⟨w.heap.size, 3, none⟩ (.int .i64 x)) :=
 ⟨grown_hi h.gr (Nat.le_refl _) _ _, (by have := h.e; unfold World.setCell; simp only [Array.getElem?_modify, this]; simp [gbox]), h.dl⟩
theorem FX.set4 {w W : World} {r : Nat} {nm : ByteArray} {pv iv : Value} {a b : Int} (h : FX w r nm pv a b iv W) (x : Value) : FX w r nm pv a b x (W.setCell ⟨w.heap.size, 4, none⟩ x) :=
 ⟨grown_hi h.gr (Nat.le_refl _) _ _, (by have := h.e; unfold World.setCell; simp only [Array.getElem?_modify, this]; simp [gbox]), h.dl⟩
theorem own_base {W : World} {B B' e k n : Nat} {v : Value} {xs : List Value} (h : W.ownsRow B e k v n xs) (hb : B' ≤ B) : W.ownsRow B' e k v n xs := by
 obtain ⟨h1, h2 | ⟨g, cap, cur, a, b, r⟩⟩ := h
 ·exact ⟨h1, .inl h2⟩
 ·exact ⟨h1, .inr ⟨g, cap, cur, a, Nat.le_trans hb b, r⟩⟩
def IFnEnd (s : ByteArray) (r p : Nat) (w : World) (e : Ending) (w' : World) : Prop := ∃ q, RS w' r s q ∧ p ≤ q ∧ q ≤ s.size ∧ w.grownBy w' (some r) ∧ ((∃ (x : Fn) (pa : Option Addr) (pn pc : Nat) (ia : Option Addr) (im ic : Nat), e = .returned (.tuple #[.agg #[.string x.name, .slice pa pn pc, .int .i64 x.result, .int .i64 x.slots, .slice ia im ic], .nilIface]) ∧ OwnI w.heap.size w' (.slice pa pn pc) x.params ∧ OwnN w.heap.size w' (.slice ia im ic) x.ins ∧ FnW x ∧ q = p + (fnF x).length ∧ Fr (fnF x) ((bts s).drop p)) ∨ ∃ (nm : ByteArray) (pa : Option Addr) (pn pc : Nat) (rr sl : Int) (ia : Option Addr) (im ic : Nat) (a : Int) (t : TypeId) (u : Value), e = .returned (.tuple #[.agg #[.string nm, .slice pa pn pc, .int .i64 rr, .int .i64 sl, .slice ia im ic], .iface 70 (.agg #[.int .i64 a, .iface t u])]) ∧ ∀ y, FnW y → ¬ Fr (fnF y) ((bts s).drop p))
abbrev fst5 (w W : World) (v0 v1 v2 v3 v4 : Value) : World := ((((W.setCell ⟨w.heap.size, 0, none⟩ v0).setCell ⟨w.heap.size, 1, none⟩ v1).setCell ⟨w.heap.size, 2, none⟩ v2).setCell ⟨w.heap.size, 3, none⟩ v3).setCell ⟨w.heap.size, 4, none⟩ v4
theorem ifn_world {s : ByteArray} {r q : Nat} {w W : World} {nm : ByteArray} {pv iv : Value} {a b : Int} (h : FX w r nm pv a b iv W) (hd : RS W r s q) (v0 v1 v2 v3 v4 : Value) : RS (fst5 w W v0 v1 v2 v3 v4) r s q ∧ w.grownBy (fst5 w W v0 v1 v2 v3 v4) (some r) := by
 have hl := h.dl
 exact ⟨((((hd.setO (by omega) _ _).setO (by omega) _ _).setO (by omega) _ _).setO (by omega) _ _).setO (by omega) _ _, grown_hi (grown_hi (grown_hi (grown_hi (grown_hi h.gr (Nat.le_refl _) _ _) (Nat.le_refl _) _ _) (Nat.le_refl _) _ _) (Nat.le_refl _) _ _) (Nat.le_refl _) _ _⟩
theorem ifn_own {w W : World} {r : Nat} {nm : ByteArray} {pv iv : Value} {a b : Int} (h : FX w r nm pv a b iv W) {t k n B : Nat} {v : Value} {xs : List Value} (hne : ¬ 57 = t) (ho : W.ownsRow B t k v n xs) (v0 v1 v2 v3 v4 : Value) : (fst5 w W v0 v1 v2 v3 v4).ownsRow B t k v n xs :=
 own_keepR ho fun x cur _ hx => by
  have e0 := h.e
  have hxe : ¬ x = w.heap.size := fun e => by
   subst e
   rw [e0] at hx
   injection hx with hx
   injection hx with _ hx _
   exact hne hx
  unfold fst5
  rw [set_other _ _ _ _ _ hxe, set_other _ _ _ _ _ hxe, set_other _ _ _ _ _ hxe, set_other _ _ _ _ _ hxe, set_other _ _ _ _ _ hxe]
theorem ifn_bad {s : ByteArray} {r p q : Nat} {w W : World} {nm : ByteArray} {pa ia : Option Addr} {pn pc im ic : Nat} {a b : Int} (h : FX w r nm (.slice pa pn pc) a b (.slice ia im ic) W) (hd : RS W r s q) (h1 : p ≤ q) (h2 : q ≤ s.size) (hm : ∀ y, FnW y → ¬ Fr (fnF y) ((bts s).drop p)) (a9 : Int) (t9 : TypeId) (u9 v0 v1 v2 v3 v4 : Value) :
  IFnEnd s r p w (.returned (.tuple #[.agg #[.string nm, .slice pa pn pc, .int .i64 a, .int .i64 b, .slice ia im ic], .iface 70 (.agg #[.int .i64 a9, .iface t9 u9])])) (fst5 w W v0 v1 v2 v3 v4) :=
 ⟨q, (ifn_world h hd v0 v1 v2 v3 v4).1, h1, h2, (ifn_world h hd v0 v1 v2 v3 v4).2, .inr ⟨nm, pa, pn, pc, a, b, ia, im, ic, a9, t9, u9, rfl, hm⟩⟩
theorem ifn_ok {s : ByteArray} {r p q : Nat} {w W : World} {x : Fn} {pa ia : Option Addr} {pn pc im ic : Nat} (h : FX w r x.name (.slice pa pn pc) x.result x.slots (.slice ia im ic) W) (hd : RS W r s q) (h1 : p ≤ q) (h2 : q ≤ s.size) (hp : OwnI w.heap.size W (.slice pa pn pc) x.params) (hi : OwnN w.heap.size W (.slice ia im ic) x.ins) (hm : FnW x ∧ q = p + (fnF x).length ∧ Fr (fnF x) ((bts s).drop p)) (v0 v1 v2 v3 v4 : Value) :
  IFnEnd s r p w (.returned (.tuple #[.agg #[.string x.name, .slice pa pn pc, .int .i64 x.result, .int .i64 x.slots, .slice ia im ic], .nilIface])) (fst5 w W v0 v1 v2 v3 v4) :=
 ⟨q, (ifn_world h hd v0 v1 v2 v3 v4).1, h1, h2, (ifn_world h hd v0 v1 v2 v3 v4).2, .inl ⟨x, pa, pn, pc, ia, im, ic, rfl, ifn_own h (by decide) hp v0 v1 v2 v3 v4, ifn_own h (by decide) hi v0 v1 v2 v3 v4, hm⟩⟩
set_option maxHeartbeats 8000000 in
theorem iFn_any {s : ByteArray} {r p : Nat} {w : World} (h : RS w r s p) (hev : EnvF w) (hf : FarG r) (hp : p ≤ s.size) (hs : s.size ≤ 200000) :
  Calls Tryz.prog 51 #[.pointer (some ⟨r, 0, none⟩)] w (IFnEnd s r p w) := by
 have HB0 : Hid (Below w.heap.size w (w.alloc (gbox ⟨#[]⟩ (.slice none 0 0) 0 0 (.slice none 0 0)))) := hid ((Below.refl _ _).alloc (Nat.le_refl _) _)
 have HX0 : Hid (FX w r ⟨#[]⟩ (.slice none 0 0) 0 0 (.slice none 0 0) (w.alloc (gbox ⟨#[]⟩ (.slice none 0 0) 0 0 (.slice none 0 0)))) := hid ⟨grown_of r HB0.out, heap_alloc_new _ _, lt_hp h⟩
 have HEV := hid (hev.next HB0.out)
 have HF := hid hf
 have HRL := hid (lt_hp h)
 have HLT : Hid (¬ r = w.heap.size) := hid (by have := lt_hp h; omega)
 have HN := hid (iText_any (h.next HB0.out) HEV.out hf hp hs)
 clear h hev hf
 obtain ⟨W0, hW0⟩ : ∃ W, w.alloc (gbox ⟨#[]⟩ (.slice none 0 0) 0 0 (.slice none 0 0)) = W := ⟨_, rfl⟩
 rw [hW0] at HX0 HEV HN
 unfold gbox at hW0
 go_enter Tryz.func51, Tryz.ntmps51
 go_wp2_with fail
 clear hW0
 refine HN.out.mono ?_
 rintro e w1 ⟨q1, hd1, h11, h12, hg1, hc1⟩
 have HD1 := hid hd1
 have HX1 := hid (HX0.out.grow hg1)
 have HE1 := hid (HEV.out.grow hg1 HF.out)
 have HLE1 : Hid (p ≤ q1) := hid (by exact h11)
 obtain ⟨b0, b1, b2, b3, b4⟩ := gbox_c HX1.out.e
 obtain ⟨f0, f1, f2, f3, f4⟩ := gbox_f HX1.out.e
 clear hd1 hg1 HN HX0
 rcases hc1 with ⟨nm, rfl, hnm, hq, hfr⟩ | ⟨x0, a9, t9, u9, rfl, hno⟩
 ·have HQ1 := hid hq
  have HFR1 := hid hfr
  clear hq hfr
  have HS1 := hid (PS.text HFR1.out HQ1.out)
  go_upto_region 2 with fail
  have HX1s := hid (HX1.out.set0 nm)
  have HD1s := hid (HD1.out.setO HLT.out 0 (.string nm))
  have HE1s := hid (HE1.out.set HF.out (Nat.le_of_lt HRL.out) 0 (.string nm))
  obtain ⟨w1s, hw1s⟩ : ∃ W, w1.setCell ⟨w.heap.size, 0, none⟩ (.string nm) = W := ⟨_, rfl⟩
  rw [hw1s] at HX1s HD1s HE1s ⊢
  clear hw1s b0 b1 b2 b3 b4 f0 f1 f2 f3 f4 HX1 HD1 HE1
  have HN := hid (iSerI_any HD1s.out HE1s.out HF.out h12 hs)
  go_wp2_with fail
  refine HN.out.mono ?_
  rintro e w2 ⟨q2, hd2, h21, h22, hg2, hc2⟩
  have HD2 := hid hd2
  have HX2 := hid (HX1s.out.grow hg2)
  have HE2 := hid (HE1s.out.grow hg2 HF.out)
  have HLE2 : Hid (p ≤ q2) := hid (by have := HLE1.out; omega)
  obtain ⟨b0, b1, b2, b3, b4⟩ := gbox_c HX2.out.e
  obtain ⟨f0, f1, f2, f3, f4⟩ := gbox_f HX2.out.e
  have HGS2 : Hid (w.heap.size ≤ w1s.heap.size) := hid HX1s.out.gr.size
  clear hd2 HN HX1s HD1s
  rcases hc2 with ⟨pv, l, rfl, hown, hall, hlen2, hq, hfr⟩ | ⟨a9, t9, u9, rfl, hno⟩
  ·have HQ2 := hid hq
   have HFR2 := hid hfr
   have HALL2 := hid hall
   have HOW2 := hid (own_base hown HGS2.out)
   obtain ⟨pa, pc, rfl⟩ := hown.sl
   clear hall hown
   clear hq hfr
   have HS2 := hid (HS1.out.ser num_pre (f := fun y => y.params) (fun y hy x hx => hy.params x hx) HALL2.out HFR2.out HQ2.out)
   go_upto_region 4 with fail
   have HX2s := hid (HX2.out.set1 (.slice pa l.length pc))
   have HD2s := hid (HD2.out.setO HLT.out 1 (.slice pa l.length pc))
   have HE2s := hid (HE2.out.set HF.out (Nat.le_of_lt HRL.out) 1 (.slice pa l.length pc))
   have HO2s : Hid (OwnI w.heap.size (w2.setCell ⟨w.heap.size, 1, none⟩ (.slice pa l.length pc)) (.slice pa l.length pc) l) := hid (own_setT HOW2.out HX2.out.e (by decide) 1 (.slice pa l.length pc))
   obtain ⟨w2s, hw2s⟩ : ∃ W, w2.setCell ⟨w.heap.size, 1, none⟩ (.slice pa l.length pc) = W := ⟨_, rfl⟩
   rw [hw2s] at HX2s HD2s HE2s HO2s ⊢
   clear hw2s b0 b1 b2 b3 b4 f0 f1 f2 f3 f4 HX2 HD2 HE2 HOW2 HGS2 hg2
   have HN := hid (iSize_any HD2s.out HE2s.out HF.out h22 hs)
   go_wp2_with fail
   refine HN.out.mono ?_
   rintro e w3 ⟨q3, hd3, h31, h32, hg3, hc3⟩
   have HD3 := hid hd3
   have HX3 := hid (HX2s.out.grow hg3)
   have HE3 := hid (HE2s.out.grow hg3 HF.out)
   have HO3 := hid (own_growD HO2s.out hg3 HRL.out)
   have HLE3 : Hid (p ≤ q3) := hid (by have := HLE2.out; omega)
   obtain ⟨b0, b1, b2, b3, b4⟩ := gbox_c HX3.out.e
   obtain ⟨f0, f1, f2, f3, f4⟩ := gbox_f HX3.out.e
   clear hd3 hg3 HN HX2s HD2s
   rcases hc3 with ⟨n2, rfl, hn2, hq, hfr⟩ | ⟨m, a9, t9, u9, rfl, hno⟩
   ·have HQ3 := hid hq
    have HFR3 := hid hfr
    clear hq hfr
    have HS3 := hid (HS2.out.num (f := fun y => y.result) (fun y hy => hy.result) HFR3.out HQ3.out)
    go_upto_region 6 with fail
    have HX3s := hid (HX3.out.set2 (n2 : Int))
    have HD3s := hid (HD3.out.setO HLT.out 2 (.int .i64 (n2 : Int)))
    have HE3s := hid (HE3.out.set HF.out (Nat.le_of_lt HRL.out) 2 (.int .i64 (n2 : Int)))
    have HO3s : Hid (OwnI w.heap.size (w3.setCell ⟨w.heap.size, 2, none⟩ (.int .i64 (n2 : Int))) (.slice pa l.length pc) l) := hid (own_setT HO3.out HX3.out.e (by decide) 2 (.int .i64 (n2 : Int)))
    obtain ⟨w3s, hw3s⟩ : ∃ W, w3.setCell ⟨w.heap.size, 2, none⟩ (.int .i64 (n2 : Int)) = W := ⟨_, rfl⟩
    rw [hw3s] at HX3s HD3s HE3s HO3s ⊢
    clear hw3s b0 b1 b2 b3 b4 f0 f1 f2 f3 f4 HX3 HD3 HE3 HO3
    have HN := hid (iSize_any HD3s.out HE3s.out HF.out h32 hs)
    go_wp2_with fail
    refine HN.out.mono ?_
    rintro e w4 ⟨q4, hd4, h41, h42, hg4, hc4⟩
    have HD4 := hid hd4
    have HX4 := hid (HX3s.out.grow hg4)
    have HE4 := hid (HE3s.out.grow hg4 HF.out)
    have HO4 := hid (own_growD HO3s.out hg4 HRL.out)
    have HLE4 : Hid (p ≤ q4) := hid (by have := HLE3.out; omega)
    obtain ⟨b0, b1, b2, b3, b4⟩ := gbox_c HX4.out.e
    obtain ⟨f0, f1, f2, f3, f4⟩ := gbox_f HX4.out.e
    clear hd4 hg4 HN HX3s HD3s
    rcases hc4 with ⟨n3, rfl, hn3, hq, hfr⟩ | ⟨m, a9, t9, u9, rfl, hno⟩
    ·have HQ4 := hid hq
     have HFR4 := hid hfr
     clear hq hfr
     have HS4 := hid (HS3.out.num (f := fun y => y.slots) (fun y hy => hy.slots) HFR4.out HQ4.out)
     go_upto_region 8 with fail
     have HX4s := hid (HX4.out.set3 (n3 : Int))
     have HD4s := hid (HD4.out.setO HLT.out 3 (.int .i64 (n3 : Int)))
     have HE4s := hid (HE4.out.set HF.out (Nat.le_of_lt HRL.out) 3 (.int .i64 (n3 : Int)))
     have HO4s : Hid (OwnI w.heap.size (w4.setCell ⟨w.heap.size, 3, none⟩ (.int .i64 (n3 : Int))) (.slice pa l.length pc) l) := hid (own_setT HO4.out HX4.out.e (by decide) 3 (.int .i64 (n3 : Int)))
     obtain ⟨w4s, hw4s⟩ : ∃ W, w4.setCell ⟨w.heap.size, 3, none⟩ (.int .i64 (n3 : Int)) = W := ⟨_, rfl⟩
     rw [hw4s] at HX4s HD4s HE4s HO4s ⊢
     clear hw4s b0 b1 b2 b3 b4 f0 f1 f2 f3 f4 HX4 HD4 HE4 HO4
     have HN := hid (iSerN_any HD4s.out HE4s.out HF.out h42 hs)
     go_wp2_with fail
     refine HN.out.mono ?_
     rintro e w5 ⟨q5, hd5, h51, h52, hg5, hc5⟩
     have HD5 := hid hd5
     have HX5 := hid (HX4s.out.grow hg5)
     have HE5 := hid (HE4s.out.grow hg5 HF.out)
     have HO5 := hid (own_growD HO4s.out hg5 HRL.out)
     have HLE5 : Hid (p ≤ q5) := hid (by have := HLE4.out; omega)
     obtain ⟨b0, b1, b2, b3, b4⟩ := gbox_c HX5.out.e
     obtain ⟨f0, f1, f2, f3, f4⟩ := gbox_f HX5.out.e
     have HGS5 : Hid (w.heap.size ≤ w4s.heap.size) := hid HX4s.out.gr.size
     clear hd5 HN HX4s HD4s
     rcases hc5 with ⟨iv, li, rfl, hown, hall, hlen5, hq, hfr⟩ | ⟨a9, t9, u9, rfl, hno⟩
     ·have HQ5 := hid hq
      have HFR5 := hid hfr
      have HALL5 := hid hall
      have HOW5 := hid (own_base hown HGS5.out)
      obtain ⟨ia, ic, rfl⟩ := hown.sl
      clear hall hown
      clear hq hfr
      go_upto_region 10 with fail
      have HX5s := hid (HX5.out.set4 (.slice ia li.length ic))
      have HD5s := hid (HD5.out.setO HLT.out 4 (.slice ia li.length ic))
      have HE5s := hid (HE5.out.set HF.out (Nat.le_of_lt HRL.out) 4 (.slice ia li.length ic))
      have HO5s : Hid (OwnI w.heap.size (w5.setCell ⟨w.heap.size, 4, none⟩ (.slice ia li.length ic)) (.slice pa l.length pc) l) := hid (own_setT HO5.out HX5.out.e (by decide) 4 (.slice ia li.length ic))
      have HP5s : Hid (OwnN w.heap.size (w5.setCell ⟨w.heap.size, 4, none⟩ (.slice ia li.length ic)) (.slice ia li.length ic) li) := hid (own_setT HOW5.out HX5.out.e (by decide) 4 (.slice ia li.length ic))
      obtain ⟨w5s, hw5s⟩ : ∃ W, w5.setCell ⟨w.heap.size, 4, none⟩ (.slice ia li.length ic) = W := ⟨_, rfl⟩
      rw [hw5s] at HX5s HD5s HE5s HO5s HP5s ⊢
      clear hw5s b0 b1 b2 b3 b4 f0 f1 f2 f3 f4 HX5 HD5 HE5 HO5 HOW5 HGS5 hg5
      obtain ⟨b0, b1, b2, b3, b4⟩ := gbox_c HX5s.out.e
      obtain ⟨f0, f1, f2, f3, f4⟩ := gbox_f HX5s.out.e
      have HFIN := hid (ifn_ok (x := ⟨nm, l, n2, n3, li⟩) (p := p) HX5s.out HD5s.out HLE5.out h52 HO5s.out HP5s.out ?_)
      ·go_wp2
       exact bodyPost_ret (v := .tuple #[.agg #[.string nm, .slice pa l.length pc, .int .i64 (n2 : Int), .int .i64 (n3 : Int), .slice ia li.length ic], .nilIface]) (by simp [results, Tryz.results51, go_sem, b0, b1, b2, b3, b4]) rfl (HFIN.out _ _ _ _ _)
      ·have e := fnF_ser ⟨nm, l, n2, n3, li⟩
       dsimp only at e
       rw [uOf_nat n2 hn2, uOf_nat n3 hn3] at e
       have k5 : Fr (SerF insF li ++ []) ((bts s).drop q4) := by rw [List.append_nil]; exact HFR5.out
       have k4 := fr_join HFR4.out HQ4.out k5
       have k3 := fr_join HFR3.out HQ3.out k4
       have k2 := fr_join HFR2.out HQ2.out k3
       have k1 := fr_join HFR1.out HQ1.out k2
       refine ⟨⟨hnm, hlen2, fun x hx => HALL2.out x hx, ⟨by dsimp only; omega, by dsimp only; omega⟩, ⟨by dsimp only; omega, by dsimp only; omega⟩, hlen5, HALL5.out⟩, ?_, ?_⟩
       ·have z1 := HQ1.out
        have z2 : q2 = q1 + (SerF numF l).length := HQ2.out
        have z3 := HQ3.out
        have z4 := HQ4.out
        have z5 := HQ5.out
        rw [e]
        simp only [List.length_append, List.length_nil]
        omega
       ·rw [e]; exact k1
     ·have HNO : Hid (∀ y, FnW y → ¬ Fr (fnF y) ((bts s).drop p)) := hid (HS4.out.noSer (P := InW) (f := fun y => y.ins) (fun y hy => ⟨hy.ins, hy.many⟩) hno)
      clear hno HGS5 hg5
      go_upto_region 10 with fail
      have HXb := hid (HX5.out.set4 (.slice none 0 0))
      have HDb := hid (HD5.out.setO HLT.out 4 (.slice none 0 0))
      obtain ⟨wb, hwb⟩ : ∃ W, w5.setCell ⟨w.heap.size, 4, none⟩ (.slice none 0 0) = W := ⟨_, rfl⟩
      rw [hwb] at HXb HDb ⊢
      clear hwb b0 b1 b2 b3 b4 f0 f1 f2 f3 f4
      obtain ⟨b0, b1, b2, b3, b4⟩ := gbox_c HXb.out.e
      obtain ⟨f0, f1, f2, f3, f4⟩ := gbox_f HXb.out.e
      go_wp2
      exact bodyPost_ret (v := .tuple #[.agg #[.string nm, .slice pa l.length pc, .int .i64 (n2 : Int), .int .i64 (n3 : Int), .slice none 0 0], .iface 70 (.agg #[.int .i64 a9, .iface t9 u9])]) (by simp [results, Tryz.results51, go_sem, b0, b1, b2, b3, b4]) rfl (ifn_bad HXb.out HDb.out HLE5.out h52 HNO.out _ _ _ _ _ _ _ _)
    ·have HNO : Hid (∀ y, FnW y → ¬ Fr (fnF y) ((bts s).drop p)) := hid (HS3.out.noNum (f := fun y => y.slots) (fun y hy => hy.slots) hno)
     clear hno
     go_upto_region 8 with fail
     have HXb := hid (HX4.out.set3 m)
     have HDb := hid (HD4.out.setO HLT.out 3 (.int .i64 m))
     obtain ⟨wb, hwb⟩ : ∃ W, w4.setCell ⟨w.heap.size, 3, none⟩ (.int .i64 m) = W := ⟨_, rfl⟩
     rw [hwb] at HXb HDb ⊢
     clear hwb b0 b1 b2 b3 b4 f0 f1 f2 f3 f4
     obtain ⟨b0, b1, b2, b3, b4⟩ := gbox_c HXb.out.e
     obtain ⟨f0, f1, f2, f3, f4⟩ := gbox_f HXb.out.e
     go_wp2
     exact bodyPost_ret (v := .tuple #[.agg #[.string nm, .slice pa l.length pc, .int .i64 (n2 : Int), .int .i64 m, .slice none 0 0], .iface 70 (.agg #[.int .i64 a9, .iface t9 u9])]) (by simp [results, Tryz.results51, go_sem, b0, b1, b2, b3, b4]) rfl (ifn_bad HXb.out HDb.out HLE4.out h42 HNO.out _ _ _ _ _ _ _ _)
   ·have HNO : Hid (∀ y, FnW y → ¬ Fr (fnF y) ((bts s).drop p)) := hid (HS2.out.noNum (f := fun y => y.result) (fun y hy => hy.result) hno)
    clear hno
    go_upto_region 6 with fail
    have HXb := hid (HX3.out.set2 m)
    have HDb := hid (HD3.out.setO HLT.out 2 (.int .i64 m))
    obtain ⟨wb, hwb⟩ : ∃ W, w3.setCell ⟨w.heap.size, 2, none⟩ (.int .i64 m) = W := ⟨_, rfl⟩
    rw [hwb] at HXb HDb ⊢
    clear hwb b0 b1 b2 b3 b4 f0 f1 f2 f3 f4
    obtain ⟨b0, b1, b2, b3, b4⟩ := gbox_c HXb.out.e
    obtain ⟨f0, f1, f2, f3, f4⟩ := gbox_f HXb.out.e
    go_wp2
    exact bodyPost_ret (v := .tuple #[.agg #[.string nm, .slice pa l.length pc, .int .i64 m, .int .i64 0, .slice none 0 0], .iface 70 (.agg #[.int .i64 a9, .iface t9 u9])]) (by simp [results, Tryz.results51, go_sem, b0, b1, b2, b3, b4]) rfl (ifn_bad HXb.out HDb.out HLE3.out h32 HNO.out _ _ _ _ _ _ _ _)
  ·have HNO : Hid (∀ y, FnW y → ¬ Fr (fnF y) ((bts s).drop p)) := hid (HS1.out.noSer (P := NumW) (f := fun y => y.params) (fun y hy => ⟨fun x hx => hy.params x hx, hy.few⟩) hno)
   clear hno HGS2 hg2
   go_upto_region 4 with fail
   have HXb := hid (HX2.out.set1 (.slice none 0 0))
   have HDb := hid (HD2.out.setO HLT.out 1 (.slice none 0 0))
   obtain ⟨wb, hwb⟩ : ∃ W, w2.setCell ⟨w.heap.size, 1, none⟩ (.slice none 0 0) = W := ⟨_, rfl⟩
   rw [hwb] at HXb HDb ⊢
   clear hwb b0 b1 b2 b3 b4 f0 f1 f2 f3 f4
   obtain ⟨b0, b1, b2, b3, b4⟩ := gbox_c HXb.out.e
   obtain ⟨f0, f1, f2, f3, f4⟩ := gbox_f HXb.out.e
   go_wp2
   exact bodyPost_ret (v := .tuple #[.agg #[.string nm, .slice none 0 0, .int .i64 0, .int .i64 0, .slice none 0 0], .iface 70 (.agg #[.int .i64 a9, .iface t9 u9])]) (by simp [results, Tryz.results51, go_sem, b0, b1, b2, b3, b4]) rfl (ifn_bad HXb.out HDb.out HLE2.out h22 HNO.out _ _ _ _ _ _ _ _)
 ·have HNO : Hid (∀ y, FnW y → ¬ Fr (fnF y) ((bts s).drop p)) := hid fun y hy hyf => hno y.name hy.name (fr_at (by rw [fnF_ser] at hyf; exact hyf)).1
  clear hno
  go_upto_region 2 with fail
  have HXb := hid (HX1.out.set0 x0)
  have HDb := hid (HD1.out.setO HLT.out 0 (.string x0))
  obtain ⟨wb, hwb⟩ : ∃ W, w1.setCell ⟨w.heap.size, 0, none⟩ (.string x0) = W := ⟨_, rfl⟩
  rw [hwb] at HXb HDb ⊢
  clear hwb b0 b1 b2 b3 b4 f0 f1 f2 f3 f4
  obtain ⟨b0, b1, b2, b3, b4⟩ := gbox_c HXb.out.e
  obtain ⟨f0, f1, f2, f3, f4⟩ := gbox_f HXb.out.e
  go_wp2
  exact bodyPost_ret (v := .tuple #[.agg #[.string x0, .slice none 0 0, .int .i64 0, .int .i64 0, .slice none 0 0], .iface 70 (.agg #[.int .i64 a9, .iface t9 u9])]) (by simp [results, Tryz.results51, go_sem, b0, b1, b2, b3, b4]) rfl (ifn_bad HXb.out HDb.out HLE1.out h12 HNO.out _ _ _ _ _ _ _ _)
structure MN (g cap K j : Nat) (W : World) : Prop where
 e : ∃ cu : Array Value, W.heap[g]? = some (.cells cu 84 (0, 0)) ∧ cu.size = cap * 4 ∧ ∀ i, i < j → cu[i * 4]? = some (.int .i64 (K + 4 * i : Nat)) ∧ cu[i * 4 + 1]? = some (.int .i64 (K + 4 * i + 1 : Nat)) ∧ cu[i * 4 + 2]? = some (.int .i64 (K + 4 * i + 2 : Nat)) ∧ cu[i * 4 + 3]? = some (.string (mtxt (K + 4 * i + 3)))
theorem MN.next {g cap K j : Nat} {W V : World} (h : MN g cap K j W) (hb : Below W.heap.size W V) : MN g cap K j V := by
 obtain ⟨cu, e, h1, h2⟩ := h.e
 exact ⟨cu, hp_next e hb, h1, h2⟩
theorem MN.set {g cap K j i : Nat} {W : World} (h : MN g cap K j W) (hi : j * 4 ≤ i) (v : Value) : MN g cap K j (W.setCell ⟨g, i, none⟩ v) := by
 obtain ⟨cu, e, h1, h2⟩ := h.e
 refine ⟨_, R.set_at (i := i) v e, by rw [Array.size_setIfInBounds]; exact h1, fun z hz => ?_⟩
 obtain ⟨a, b, c, d⟩ := h2 z hz
 rw [Array.getElem?_setIfInBounds_ne (by omega), Array.getElem?_setIfInBounds_ne (by omega), Array.getElem?_setIfInBounds_ne (by omega), Array.getElem?_setIfInBounds_ne (by omega)]
 exact ⟨a, b, c, d⟩
theorem MN.room {g cap K j i : Nat} {W : World} (h : MN g cap K j W) (hi : i < cap * 4) : (∃ v, W.cell? ⟨g, i, none⟩ = some v) ∧ W.frozen? ⟨g, i, none⟩ = false := by
 obtain ⟨cu, e, h1, _⟩ := h.e
 exact R.row_room e (by omega)
theorem MN.more {g cap K j : Nat} {W : World} (h : MN g cap K j W) (hj : j < cap) (c0 : W.cell? ⟨g, j * 4, none⟩ = some (.int .i64 (K + 4 * j : Nat))) (c1 : W.cell? ⟨g, j * 4 + 1, none⟩ = some (.int .i64 (K + 4 * j + 1 : Nat))) (c2 : W.cell? ⟨g, j * 4 + 2, none⟩ = some (.int .i64 (K + 4 * j + 2 : Nat))) (c3 : W.cell? ⟨g, j * 4 + 3, none⟩ = some (.string (mtxt (K + 4 * j + 3)))) : MN g cap K (j + 1) W := by
 obtain ⟨cu, e, h1, h2⟩ := h.e
 refine ⟨cu, e, h1, fun i hi => ?_⟩
 by_cases hij : i < j
 ·exact h2 i hij
 ·obtain rfl : i = j := by omega
  rw [R.row_cell e] at c0 c1 c2 c3
  exact ⟨c0, c1, c2, c3⟩
theorem cell_ne {W : World} {g i k : Nat} {v : Value} (h : ¬ i = k) : (W.setCell ⟨g, i, none⟩ v).cell? ⟨g, k, none⟩ = W.cell? ⟨g, k, none⟩ := World.cell?_setCell_other _ _ _ _ (fun e => h (by injection e))
theorem cell_eq {W : World} {g i : Nat} {u v : Value} (h : W.cell? ⟨g, i, none⟩ = some u) : (W.setCell ⟨g, i, none⟩ v).cell? ⟨g, i, none⟩ = some v := World.cell?_setCell_same _ _ _ h
theorem MN.lt {g cap K j : Nat} {W : World} (h : MN g cap K j W) : g < W.heap.size := by
 obtain ⟨cu, e, _⟩ := h.e
 exact lt_hp e
set_option maxHeartbeats 8000000 in
theorem markN_row {g n cap K : Nat} (w : World) (hn : n ≤ 200000) (hcap : n ≤ cap) (hK : 0 < K) (hK2 : K ≤ 5000000) (h : MN g cap K 0 w) :
  Calls Tryz.prog 58 #[.slice (some ⟨g, 0, none⟩) n cap, .int .i64 K] w fun e w' => e = .returned (.int .i64 (K + 4 * n : Nat)) ∧ w.grownBy w' (some g) ∧ MN g cap K n w' := by
 have HG0 := hid h
 clear h
 go_enter Tryz.func58, Tryz.ntmps58
 go_wp2
 go_loopw [1, 5] (fun k i wr => ∃ (j : Nat), i = .int .i64 j ∧ k = .int .i64 (K + 4 * j : Nat) ∧ j ≤ n ∧ w.grownBy wr (some g) ∧ MN g cap K j wr) (fun _ i _ => n - (intOf i).toNat)
 case atStart => exact ⟨0, rfl, rfl, Nat.zero_le _, grown_refl _ _, HG0.out⟩
 case round =>
  obtain ⟨j, rfl, rfl, hj, hgw, hh⟩ := hrel
  have HG := hid hgw
  have HH := hid hh
  clear hgw hh HG0
  by_cases hlt : j < n
  ·have HJC : Hid (j < cap) := hid (by omega)
   obtain ⟨M, hM⟩ : ∃ M, K + 4 * j = M := ⟨_, rfl⟩
   have HM := hid hM
   have hMa : 0 < M := by omega
   have hMb : M ≤ 9500000 := by omega
   rw [hM]
   clear hM
   obtain ⟨⟨v0, x0⟩, f0⟩ := HH.out.room (i := j * 4) (by omega)
   go_upto_region 6 with fail
   have HG1 := hid (grown_set HG.out (j * 4) (.int .i64 M))
   have HH1 := hid (HH.out.set (i := j * 4) (Nat.le_refl _) (.int .i64 M))
   have HC1 : Hid ((wr.setCell ⟨g, j * 4, none⟩ (.int .i64 M)).cell? ⟨g, j * 4, none⟩ = some (.int .i64 M)) := hid (cell_eq x0)
   obtain ⟨W1, hW1⟩ : ∃ W, wr.setCell ⟨g, j * 4, none⟩ (.int .i64 M) = W := ⟨_, rfl⟩
   rw [hW1] at HG1 HH1 HC1 ⊢
   clear hW1 x0 f0
   obtain ⟨⟨v1, x1⟩, f1⟩ := HH1.out.room (i := j * 4 + 1) (by omega)
   go_upto_region 8 with fail
   have HG2 := hid (grown_set HG1.out (j * 4 + 1) (.int .i64 ((M : Int) + 1)))
   have HH2 := hid (HH1.out.set (i := j * 4 + 1) (by omega) (.int .i64 ((M : Int) + 1)))
   have HC2 : Hid ((W1.setCell ⟨g, j * 4 + 1, none⟩ (.int .i64 ((M : Int) + 1))).cell? ⟨g, j * 4, none⟩ = some (.int .i64 M) ∧ (W1.setCell ⟨g, j * 4 + 1, none⟩ (.int .i64 ((M : Int) + 1))).cell? ⟨g, j * 4 + 1, none⟩ = some (.int .i64 ((M : Int) + 1))) := hid ⟨(cell_ne (by omega)).trans HC1.out, cell_eq x1⟩
   obtain ⟨W2, hW2⟩ : ∃ W, W1.setCell ⟨g, j * 4 + 1, none⟩ (.int .i64 ((M : Int) + 1)) = W := ⟨_, rfl⟩
   rw [hW2] at HG2 HH2 HC2 ⊢
   clear hW2 x1 f1
   obtain ⟨⟨v2, x2⟩, f2⟩ := HH2.out.room (i := j * 4 + 2) (by omega)
   go_upto_region 10 with fail
   have HG3 := hid (grown_set HG2.out (j * 4 + 2) (.int .i64 ((M : Int) + 1 + 1)))
   have HH3 := hid (HH2.out.set (i := j * 4 + 2) (by omega) (.int .i64 ((M : Int) + 1 + 1)))
   have HC3 : Hid ((W2.setCell ⟨g, j * 4 + 2, none⟩ (.int .i64 ((M : Int) + 1 + 1))).cell? ⟨g, j * 4, none⟩ = some (.int .i64 M) ∧ (W2.setCell ⟨g, j * 4 + 2, none⟩ (.int .i64 ((M : Int) + 1 + 1))).cell? ⟨g, j * 4 + 1, none⟩ = some (.int .i64 ((M : Int) + 1)) ∧ (W2.setCell ⟨g, j * 4 + 2, none⟩ (.int .i64 ((M : Int) + 1 + 1))).cell? ⟨g, j * 4 + 2, none⟩ = some (.int .i64 ((M : Int) + 1 + 1))) := hid ⟨(cell_ne (by omega)).trans HC2.out.1, (cell_ne (by omega)).trans HC2.out.2, cell_eq x2⟩
   obtain ⟨W3, hW3⟩ : ∃ W, W2.setCell ⟨g, j * 4 + 2, none⟩ (.int .i64 ((M : Int) + 1 + 1)) = W := ⟨_, rfl⟩
   rw [hW3] at HG3 HH3 HC3 ⊢
   clear hW3 x2 f2
   go_upto_region 11 with (go_at_call 56; refine (markText_int _ (M + 3) _ (by omega) (by omega) (by omega)).mono ?_; rintro e w4 ⟨rfl, hb4⟩; have HG4 := hid (grown_below HG3.out hb4); have HH4 := hid (HH3.out.next hb4); have HC4 : Hid (w4.cell? ⟨g, j * 4, none⟩ = some (.int .i64 M) ∧ w4.cell? ⟨g, j * 4 + 1, none⟩ = some (.int .i64 ((M : Int) + 1)) ∧ w4.cell? ⟨g, j * 4 + 2, none⟩ = some (.int .i64 ((M : Int) + 1 + 1))) := hid ⟨(hb4.cell (p := ⟨g, _, none⟩) HH3.out.lt).trans HC3.out.1, (hb4.cell (p := ⟨g, _, none⟩) HH3.out.lt).trans HC3.out.2.1, (hb4.cell (p := ⟨g, _, none⟩) HH3.out.lt).trans HC3.out.2.2⟩; obtain ⟨⟨v4, x4⟩, f4⟩ := HH4.out.room (i := j * 4 + 3) (by omega); clear hb4)
   have HG5 := hid (grown_set HG4.out (j * 4 + 3) (.string (mtxt (M + 3))))
   have HH5 : Hid (MN g cap K (j + 1) (w4.setCell ⟨g, j * 4 + 3, none⟩ (.string (mtxt (M + 3))))) := hid (by
    have e := HM.out
    refine (HH4.out.set (i := j * 4 + 3) (by omega) (.string (mtxt (M + 3)))).more HJC.out ?_ ?_ ?_ ?_
    ·rw [e]; exact (cell_ne (by omega)).trans HC4.out.1
    ·rw [e]; exact (cell_ne (by omega)).trans HC4.out.2.1
    ·rw [e]; exact (cell_ne (by omega)).trans HC4.out.2.2
    ·rw [e]; exact cell_eq x4)
   have HKE : Hid (K + 4 * (j + 1) = M + 4) := hid (by have := HM.out; omega)
   clear x4 f4
   go_wp2
   go_roundw
   case rel => exact ⟨j + 1, by go_num, (by rw [HKE.out]; go_num), by omega, HG5.out, HH5.out⟩
   case measure => simp [intOf]; omega
  ·obtain rfl : j = n := by omega
   go_wp2
   go_ret
   exact ⟨rfl, HG.out, HH.out⟩
set_option maxHeartbeats 8000000 in
theorem heldN_row {g n cap K : Nat} (w : World) (hn : n ≤ 200000) (hK : 0 < K) (hK2 : K ≤ 5000000) (h : MN g cap K n w) :
  Calls Tryz.prog 60 #[.slice (some ⟨g, 0, none⟩) n cap, .int .i64 K] w fun e w' => e = .returned (.int .i64 (K + 4 * n : Nat)) ∧ Below w.heap.size w w' := by
 have HG0 := hid h
 clear h
 go_enter Tryz.func60, Tryz.ntmps60
 go_wp2
 go_loopw [1, 5] (fun k i wr => ∃ j : Nat, i = .int .i64 j ∧ k = .int .i64 (K + 4 * j : Nat) ∧ j ≤ n ∧ Below w.heap.size w wr) (fun _ i _ => n - (intOf i).toNat)
 case atStart => exact ⟨0, rfl, rfl, Nat.zero_le _, Below.refl _ _⟩
 case round =>
  obtain ⟨j, rfl, rfl, hj, hb⟩ := hrel
  have HB := hid hb
  clear hb
  by_cases hlt : j < n
  ·have HC : Hid (∀ V, Below w.heap.size w V → V.cell? ⟨g, j * 4, none⟩ = some (.int .i64 (K + 4 * j : Nat)) ∧ V.cell? ⟨g, j * 4 + 1, none⟩ = some (.int .i64 (K + 4 * j + 1 : Nat)) ∧ V.cell? ⟨g, j * 4 + 2, none⟩ = some (.int .i64 (K + 4 * j + 2 : Nat)) ∧ V.cell? ⟨g, j * 4 + 3, none⟩ = some (.string (mtxt (K + 4 * j + 3)))) := hid fun V hV => by
    obtain ⟨cu, e, _, h2⟩ := (HG0.out.next hV).e
    obtain ⟨a, b, c, d⟩ := h2 j hlt
    exact ⟨(R.row_cell e _).trans a, (R.row_cell e _).trans b, (R.row_cell e _).trans c, (R.row_cell e _).trans d⟩
   have HT2 : Hid (∀ (a : Int) (V : World), a = (K + 4 * j + 3 : Nat) → Calls Tryz.prog 56 #[.int .i64 a] V fun e w' => e = .returned (.string (mtxt (K + 4 * j + 3))) ∧ Below V.heap.size V w') := hid fun a V h => markText_int a _ V h (by omega) (by omega)
   obtain ⟨t2, ht2⟩ : ∃ t, mtxt (K + 4 * j + 3) = t := ⟨_, rfl⟩
   rw [ht2] at HC HT2
   clear ht2
   have e2 : (t2.toList != t2.toList) = false := by simp
   obtain ⟨M, hM⟩ : ∃ M, K + 4 * j = M := ⟨_, rfl⟩
   have HM := hid hM
   have hMb : M ≤ 9500000 := by omega
   rw [hM] at HC HT2 ⊢
   have HKE : Hid (K + 4 * (j + 1) = M + 4) := hid (by omega)
   clear hM
   obtain ⟨c0, c1, c2, _⟩ := HC.out _ HB.out
   have z0 : ((M : Int) != (M : Int)) = false := by simp
   have z1 : (((M + 1 : Nat) : Int) != (M : Int) + 1) = false := by simp
   have z2 : (((M + 2 : Nat) : Int) != (M : Int) + 1 + 1) = false := by simp; omega
   have A3 := fun p : R.Gr wr => (HC.out _ (HB.out.trans (p.h.mono HB.out.size))).2.2.2
   go_wp2_with fail
   have hne2 : Nonempty (R.Gr wr) := ⟨⟨wr, Below.refl _ _⟩⟩
   refine R.wp_region_gr (by kernel_rfl) (by kernel_rfl) ?_
   repeat (go_big_quiet_step (first | (go_at_call 56; refine R.Calls.gr_of (v := .string t2) fun hpw => ?_; exact HT2.out _ _ (by omega))))
   refine wpQuiet_nil ?_
   intro _ hw'
   obtain ⟨pw, rfl⟩ := hw'
   have HB4 := hid (HB.out.trans (pw.h.mono HB.out.size))
   clear A3 hne2 c0 c1 c2
   go_wp2
   go_roundw
   case rel => exact ⟨j + 1, by go_num, (by rw [HKE.out]; go_num), by omega, HB4.out⟩
   case measure => simp [intOf]; omega
  ·obtain rfl : j = n := by omega
   go_wp2
   go_ret
   exact ⟨rfl, HB.out⟩
end Go.Proofs.YtcjgcipacfcjnaaGreatDoor.C.D
