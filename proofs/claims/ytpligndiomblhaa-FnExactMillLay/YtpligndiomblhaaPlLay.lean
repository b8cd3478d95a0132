import Derived.Test.YtpligndiomblhaaPlMap
import Derived.Deep.DeepCutAuto
import Derived.Deep.RegionLaw
/-! A file laid into a box. -/
namespace Go.Proofs.Ytpligndiomblhaa.P
open Go.RowKit
open Go.Proofs.Ytpligndiomblhaa.R (hid set_other Fl fl0 lt_hp hp_next B1 row_cell set_at below_drewN)
set_option maxRecDepth 20000
/-- Where a name belongs. -/
def atN (ns : List ByteArray) (t : ByteArray) : Nat := Lib.bsGo (fun j => Op.bytesLess (ns.getD j ⟨#[]⟩).toList t.toList) ns.length 0 ns.length
def thereN (ns : List ByteArray) (t : ByteArray) : Prop := atN ns t < ns.length ∧ ns.getD (atN ns t) ⟨#[]⟩ = t
instance (ns : List ByteArray) (t : ByteArray) : Decidable (thereN ns t) := instDecidableAnd
def putN (ns : List ByteArray) (t : ByteArray) : List ByteArray := if thereN ns t then ns else insAt ns (atN ns t) t
theorem own_form {W : World} {B n : Nat} {e : TypeId} {v : Value} {xs : List Value} (h : W.ownsRow B e 1 v n xs) : ∃ ad c, v = .slice ad n c := by
  obtain ⟨_, ⟨rfl, rfl⟩ | ⟨g, cap, cur, rfl, _⟩⟩ := h
  · exact ⟨none, 0, rfl⟩
  · exact ⟨_, cap, rfl⟩
theorem step_enter {P : Program} {ops : Array Oper} {o : Oper} {a : Act} {w : World} {K : Act → World → Prop} {Q : Exit → Act → World → Prop} {E : Prop} (hg : o.guard = none) {f : FuncId} {vals : Array Value}
    (hx : (execOp a.eval o).run P w = .ok (.enter f vals) w) {Q' : Ending → World → Prop} (hc : Calls P f vals w Q') (h : ∀ e w', Q' e w' → ∃ v, e = .returned v ∧ K (a.put o.dst v) w') :
    if Region.wanted o (yielded ops a.tmps) = true then Oper.wp P o a w K Q else E := by
  have hw : Region.wanted o (yielded ops a.tmps) = true := by simp [Region.wanted, hg]
  rw [if_pos hw]
  unfold Oper.wp
  rw [hx, Oper.upon_enter]
  refine hc.mono fun e w' hq => ?_
  obtain ⟨v, rfl, hk⟩ := h e w' hq
  exact hk
theorem bsGo_le (p : Nat → Bool) : ∀ (g lo hi : Nat), lo ≤ hi → Lib.bsGo p g lo hi ≤ hi := by
  intro g
  induction g with
  | zero => intro lo hi h1; simp [Lib.bsGo]; omega
  | succ g ih =>
    intro lo hi h1
    by_cases hlt : lo < hi
    · simp only [Lib.bsGo, hlt, if_true]
      split
      · exact ih _ _ (by omega)
      · exact Nat.le_trans (ih _ _ (by omega)) (by omega)
    · simp [Lib.bsGo, hlt]; omega
theorem atN_le (ns : List ByteArray) (t : ByteArray) : atN ns t ≤ ns.length := bsGo_le _ _ _ _ (Nat.zero_le _)
/-- What lay does to the box. -/
def LayEnd (B b : Nat) (ns : List ByteArray) (f : ByteArray → Option Fl) (k m : Nat) (x : Fl) (w : World) (e : Ending) (w' : World) : Prop := e = .returned (.tuple #[]) ∧ (∃ v', Bx B b (putN ns x.name) (setF f x) (k + 1) v' m w') ∧ Below B w w'
theorem own_ty {W : World} {B n : Nat} {v : Value} {xs : List Value} {g : Nat} {o : Obj} (h : W.ownsRow B 9 1 v n xs) (hg : W.heap[g]? = some o) (ho : ∀ cs fr, ¬ o = .cells cs 9 fr) : some g ≠ v.ownBlock := fun e => by
  obtain ⟨_, ⟨rfl, _⟩ | ⟨g', cap, cur, rfl, _, hc, _⟩⟩ := h
  · cases e
  · simp [Value.ownBlock] at e
    subst e
    rw [hc] at hg
    injection hg with hg
    exact ho _ _ hg.symm
theorem own_lt {W : World} {B n : Nat} {v : Value} {xs : List Value} (h : W.ownsRow B 9 1 v n xs) {g : Nat} (e : v.ownBlock = some g) : B ≤ g ∧ g < W.heap.size := by
  obtain ⟨_, ⟨rfl, _⟩ | ⟨g', cap, cur, rfl, hB, hc, _⟩⟩ := h
  · cases e
  · simp [Value.ownBlock] at e
    subst e
    exact ⟨hB, lt_hp hc⟩
/-- The map's part of laying. -/
theorem Bx.store {B b : Nat} {ns : List ByteArray} {f : ByteArray → Option Fl} {k m : Nat} {v : Value} {W V : World} {x : Fl} (h : Bx B b ns f k v m W) (hm : MapF V m (k + 1) (setF f x)) (hg : W.grownBy V (some m)) : Bx B b ns (setF f x) (k + 1) v m V := by
  obtain ⟨es, c, ho⟩ := h.mp.obj
  have hbm : ¬ b = m := fun e => by
    have h1 := h.e
    rw [e, ho] at h1
    cases h1
  refine ⟨(hg.block b (lt_hp h.e) (fun e => hbm (Option.some.inj e))).trans h.e, ?_, hm, h.lb, h.lm⟩
  obtain ⟨h1, h2 | ⟨g, cap, cur, a, b', c', d⟩⟩ := h.own
  · exact ⟨h1, .inl h2⟩
  · refine ⟨h1, .inr ⟨g, cap, cur, a, b', ?_, d⟩⟩
    have hgm : ¬ g = m := fun e => by rw [e, ho] at c'; cases c'
    exact (hg.block g (lt_hp c') (fun e => hgm (Option.some.inj e))).trans c'
theorem grown_below {B : Nat} {W V : World} {o : Option Nat} (hg : W.grownBy V o) (hB : B ≤ W.heap.size) (ho : ∀ k, o = some k → B ≤ k) : Below B W V :=
  ⟨hg.os, hg.tape, hg.output, hg.size, fun i hi => hg.block i (by omega) (fun e => by have := ho i e.symm; omega)⟩
theorem find_any {W : World} {B : Nat} {v : Value} {l : List ByteArray} (x : ByteArray) (hown : W.ownsRow B 9 1 v l.length (l.map fun x => Value.string x)) (hl : l.length ≤ 1000) {b : Bool} (hb : decide (thereN l x) = b) {I : Nat} (hI : atN l x = I) :
    Calls Try.prog 59 #[v, .string x] W fun e w' => ∃ q, e = .returned (.tuple #[.int .i64 (I : Nat), .bool b]) ∧ w' = W.drewN q := by
  subst hb hI
  refine (search_any x hown (by omega)).mono ?_
  rintro e w' ⟨q, rfl, rfl⟩
  exact ⟨q, rfl, rfl⟩
/-- The names' part of laying. -/
theorem Bx.named {B b : Nat} {ns ns' : List ByteArray} {f : ByteArray → Option Fl} {k m : Nat} {v v' : Value} {W V : World} (h : Bx B b ns f k v m W) (ho : V.ownsRow B 9 1 v' ns'.length (ns'.map fun x => Value.string x)) (hg : W.grownBy V v.ownBlock) : Bx B b ns' f k v' m (V.setCell ⟨b, 0, none⟩ v') := by
  obtain ⟨es, c, hm⟩ := h.mp.obj
  have hbm : ¬ m = b := fun e => by
    have h1 := h.e
    rw [← e, hm] at h1
    cases h1
  have hb1 : V.heap[b]? = some (.cells #[v, .map (some m)] 82 (0, 0)) := (hg.block b (lt_hp h.e) (own_ty h.own h.e (fun cs fr e => by cases e))).trans h.e
  have hm1 : V.heap[m]? = W.heap[m]? := hg.block m h.mp.lt (own_ty h.own hm (fun cs fr e => by cases e))
  refine ⟨by have := set_at (i := 0) v' hb1; simpa using this, ?_, h.mp.keep ((set_other _ _ _ _ _ hbm).trans hm1), h.lb, h.lm⟩
  obtain ⟨h1, h2 | ⟨g, cap, cur, a, b', c', d⟩⟩ := ho
  · exact ⟨h1, .inl h2⟩
  · refine ⟨h1, .inr ⟨g, cap, cur, a, b', ?_, d⟩⟩
    have hgb : ¬ g = b := fun e => by rw [e, hb1] at c'; injection c' with c'; injection c' with _ c2; cases c2
    exact (set_other _ _ _ _ _ hgb).trans c'
set_option maxHeartbeats 4000000 in
theorem lay_any (x : Fl) {B b : Nat} {ns : List ByteArray} {f : ByteArray → Option Fl} {k m : Nat} {v : Value} {w : World} (h : Bx B b ns f k v m w) (hB : B ≤ w.heap.size) (hn : x.name.size ≤ 1048576) (hN : ns.length ≤ 1000) (hk : k ≤ 100000) :
    Calls Try.prog 46 #[.pointer (some ⟨b, 0, none⟩), .agg #[.string x.name, .string x.text]] w (LayEnd B b ns f k m x w) := by
  obtain ⟨n, t⟩ := x
  dsimp only at hn
  have HX0 := hid (B1.start w (.cells #[.string n, .string t] 55))
  have HBX := hid (h.next HX0.out.lo)
  obtain ⟨ad, c, rfl⟩ := own_form h.own
  clear h
  obtain ⟨I, hI⟩ : ∃ I, atN ns n = I := ⟨_, rfl⟩
  have HI := hid hI
  have hIl : I ≤ ns.length := by rw [← hI]; exact atN_le ns n
  clear hI
  go_enter Try.func46, Try.ntmps46
  go_upto_region 1 with fail
  obtain ⟨W0, hW0⟩ : ∃ W, w.alloc (.cells #[.string n, .string t] 55) = W := ⟨_, rfl⟩
  rw [hW0] at HX0 HBX ⊢
  clear hW0
  have HS : Hid (∀ V, Below W0.heap.size W0 V → V.cell? ⟨b, 0, none⟩ = some (.slice ad ns.length c) ∧ V.cell? ⟨w.heap.size, 0, none⟩ = some (.string n)) := hid fun V hV => ⟨row_cell (HBX.out.next hV).e 0, row_cell (HX0.out.next hV).e 0⟩
  by_cases hth : thereN ns n
  · have HF := hid (fun V (hV : Below W0.heap.size W0 V) => find_any n (HBX.out.next hV).own hN (decide_eq_true hth) HI.out)
    have HPN : Hid (putN ns n = ns) := hid (if_pos hth)
    clear hth
    go_region_held3 (fun V => V.cell? ⟨b, 0, none⟩ = some (.slice ad ns.length c) ∧ V.cell? ⟨w.heap.size, 0, none⟩ = some (.string n)) (first | (exact HS.out _ HC1.out) | (exact HS.out _ (Below.refl _ _).drew) | go_keep) (first
      | (go_at_call 59; refine (HF.out _ (Below.refl _ _).drew).mono ?_; rintro e w1 ⟨q, rfl, rfl⟩; have HC1 := hid (below_drewN (Below.refl W0.heap.size W0) (1 + q))) | fail)
    obtain ⟨W1, hW1⟩ : ∃ W, W0.drewN (1 + q) = W := ⟨_, rfl⟩
    rw [hW1] at HC1 ⊢
    clear hW1
    go_upto_region 4 with fail
    have HB2 := hid (HBX.out.next HC1.out)
    have HX2 := hid (HX0.out.next HC1.out)
    have c0 : W1.cell? ⟨b, 1, none⟩ = some (.map (some m)) := row_cell HB2.out.e 1
    have c1 : W1.cell? ⟨w.heap.size, 0, none⟩ = some (.string n) := row_cell HX2.out.e 0
    have c2 : W1.cell? ⟨w.heap.size, 1, none⟩ = some (.string t) := row_cell HX2.out.e 1
    obtain ⟨W5, hrun, hmp, hgr⟩ := (HB2.out.mp.keep (V := W1.drew) rfl).put (by unfold maxLen; omega) ⟨n, t⟩ (by dsimp only; unfold maxLen; omega)
    unfold fileV at hrun
    dsimp only at hrun
    have HB5 := hid ((HB2.out.next (Below.refl _ _).drew).store hmp hgr)
    have HGB := hid (grown_below (B := B) hgr (Nat.le_trans hB HX2.out.lo.size) (fun q e => by injection e with e; subst e; exact HB2.out.lm))
    have HLO := hid ((HX2.out.lo.mono hB).drew.trans HGB.out)
    clear hmp hgr
    go_region
    go_end0
    exact ⟨rfl, ⟨_, by rw [HPN.out]; exact HB5.out⟩, HLO.out⟩
  · have HF := hid (fun V (hV : Below W0.heap.size W0 V) => find_any n (HBX.out.next hV).own hN (decide_eq_false hth) HI.out)
    have HPN : Hid (putN ns n = insAt ns I n) := hid (by rw [← HI.out]; exact if_neg hth)
    clear hth
    go_region_held3 (fun V => V.cell? ⟨b, 0, none⟩ = some (.slice ad ns.length c) ∧ V.cell? ⟨w.heap.size, 0, none⟩ = some (.string n)) (first | (exact HS.out _ HC1.out) | (exact HS.out _ (Below.refl _ _).drew) | go_keep) (first
      | (go_at_call 59; refine (HF.out _ (Below.refl _ _).drew).mono ?_; rintro e w1 ⟨q, rfl, rfl⟩; have HC1 := hid (below_drewN (Below.refl W0.heap.size W0) (1 + q))) | fail)
    obtain ⟨W1, hW1⟩ : ∃ W, W0.drewN (1 + q) = W := ⟨_, rfl⟩
    rw [hW1] at HC1 ⊢
    clear hW1
    go_upto_region 3 with fail
    have HB2 := hid (HBX.out.next HC1.out)
    have HX2 := hid (HX0.out.next HC1.out)
    have c0 : W1.cell? ⟨b, 0, none⟩ = some (.slice ad ns.length c) := row_cell HB2.out.e 0
    have c1 : W1.cell? ⟨w.heap.size, 0, none⟩ = some (.string n) := row_cell HX2.out.e 0
    have HAL : Hid (Below W1.heap.size W1 (W1.alloc (.cells #[.string n] 9)).drew) := hid ((Below.refl _ _).alloc (Nat.le_refl _) _).drew
    have HB3 := hid (HB2.out.next HAL.out)
    have c0a : (W1.alloc (.cells #[.string n] 9)).cell? ⟨b, 0, none⟩ = some (.slice ad ns.length c) := row_cell (hp_next HB2.out.e ((Below.refl _ _).alloc (Nat.le_refl _) _)) 0
    have HINS := hid (insert_any (W := (W1.alloc (.cells #[.string n] 9)).drew) (B := B) (v := .slice ad ns.length c) (l := ns) (i := I) (x := n) (vb := W1.heap.size) HB3.out.own hIl (by omega) (Nat.le_trans hB (Nat.le_trans HX2.out.lo.size HAL.out.size)) (heap_alloc_new W1 _) (fun e => by have := (own_lt HB2.out.own e.symm).2; omega))
    go_region_law (refine step_enter rfl (f := 60) (vals := #[.slice ad ns.length c, .int .i64 I, .slice (some ⟨W1.heap.size, 0, none⟩) 1 1]) (by kernel_rfl) HINS.out ?_; intro e w7 hq7; obtain ⟨v', rfl, hov, hgv, hol⟩ := hq7; refine ⟨_, rfl, ?_⟩; have HOV := hid hov; have HGV := hid hgv; obtain ⟨ad9, c9, hv9⟩ := own_form hov; subst hv9; have p1 : w7.cell? ⟨b, 0, none⟩ = some (.slice ad ns.length c) := row_cell ((hgv.block b (lt_hp HB3.out.e) (own_ty HB3.out.own HB3.out.e (fun cs fr e => by cases e))).trans HB3.out.e) 0; have p2 : w7.frozen? ⟨b, 0, none⟩ = false := frozen_hp ((hgv.block b (lt_hp HB3.out.e) (own_ty HB3.out.own HB3.out.e (fun cs fr e => by cases e))).trans HB3.out.e) 0; clear hov hgv hol)
    all_goals
      have HLN : Hid ((insAt ns I n).length = ns.length + 1) := hid (insAt_length hIl n)
      have HNM := hid (HB3.out.named (ns' := insAt ns I n) (v' := .slice ad9 (ns.length + 1) c9) (by rw [HLN.out]; exact HOV.out) HGV.out)
      have HFB : Hid ((w7.setCell ⟨b, 0, none⟩ (.slice ad9 (ns.length + 1) c9)).heap[w.heap.size]? = some (.cells #[.string n, .string t] 55)) := hid (by
        have h1 := hp_next HX2.out.e HAL.out
        have hne : ¬ w.heap.size = b := fun e => by
          have h2 := HB3.out.e
          rw [← e, h1] at h2
          injection h2 with h2
          injection h2 with _ h2
          cases h2
        exact (set_other _ _ _ _ _ hne).trans ((HGV.out.block _ (lt_hp h1) (own_ty HB3.out.own h1 (fun cs fr e => by cases e))).trans h1))
      have HL0 : Hid (Below B w (w7.setCell ⟨b, 0, none⟩ (.slice ad9 (ns.length + 1) c9))) := hid (by
        have hb9 : B ≤ (W1.alloc (.cells #[.string n] 9)).drew.heap.size := Nat.le_trans hB (Nat.le_trans HX2.out.lo.size HAL.out.size)
        have h9 := grown_below (B := B) HGV.out hb9 (fun q e => (own_lt HB3.out.own e).1)
        exact (((HX2.out.lo.mono hB).trans (HAL.out.mono (Nat.le_trans hB HX2.out.lo.size))).trans h9).setCell HB3.out.lb _)
      have HSZ : Hid (B ≤ (w7.setCell ⟨b, 0, none⟩ (.slice ad9 (ns.length + 1) c9)).heap.size) := hid (Nat.le_trans hB HL0.out.size)
      obtain ⟨W2, hW2⟩ : ∃ W, w7.setCell ⟨b, 0, none⟩ (.slice ad9 (ns.length + 1) c9) = W := ⟨_, rfl⟩
      rw [hW2] at HNM HFB HL0 HSZ ⊢
      clear hW2 c0 c1 c0a p1 p2
      go_upto_region 4 with fail
      have c0 : W2.cell? ⟨b, 1, none⟩ = some (.map (some m)) := row_cell HNM.out.e 1
      have c1 : W2.cell? ⟨w.heap.size, 0, none⟩ = some (.string n) := row_cell HFB.out 0
      have c2 : W2.cell? ⟨w.heap.size, 1, none⟩ = some (.string t) := row_cell HFB.out 1
      obtain ⟨W5, hrun, hmp, hgr⟩ := (HNM.out.mp.keep (V := W2.drew) rfl).put (by unfold maxLen; omega) ⟨n, t⟩ (by dsimp only; unfold maxLen; omega)
      unfold fileV at hrun
      dsimp only at hrun
      have HB5 := hid ((HNM.out.next (Below.refl _ _).drew).store hmp hgr)
      have HGB := hid (grown_below (B := B) hgr HSZ.out (fun q e => by injection e with e; subst e; exact HNM.out.lm))
      have HLO := hid (HL0.out.drew.trans HGB.out)
      clear hmp hgr
      go_region
      go_end0
      exact ⟨rfl, ⟨_, by rw [HPN.out]; exact HB5.out⟩, HLO.out⟩
end Go.Proofs.Ytpligndiomblhaa.P
