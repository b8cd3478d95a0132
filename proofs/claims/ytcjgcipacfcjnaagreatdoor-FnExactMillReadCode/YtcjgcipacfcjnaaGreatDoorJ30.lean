import Derived.BigQuiet
import Derived.Test.YtcjgcipacfcjnaaGreatDoorJ29
import Derived.Test.YtcjgcipacfcjnaaGreatDoorJ28
import Derived.Test.YtcjgcipacfcjnaaGreatDoorJ26
namespace Go.Proofs.YtcjgcipacfcjnaaGreatDoor.C
open Go.RowKit Go.Shelf
set_option maxRecDepth 20000
def flaw (c k i : Nat) : Value := .iface 132 (.agg #[.int .i64 c, .int .i64 k, .int .i64 i])
def TxEnd (fns : List Fn) (w : World) (e : Ending) (w' : World) : Prop := ((e = .returned .nilIface ∧ Plain fns 0 0 0) ∨ ∃ c k i : Nat, ¬ c = 0 ∧ e = .returned (flaw c k i) ∧ Plain fns c k i) ∧ Below w.heap.size w w'
structure TX (w : World) (cv : Value) (r : Nat) (W : World) : Prop where
 lo : Below w.heap.size w W
 e0 : W.heap[w.heap.size]? = some (.cells #[cv] 29)
 er : W.heap[r]? = some (.map (Q.mwE 35) 35)
theorem TX.next {w : World} {cv : Value} {r : Nat} {W V : World} (h : TX w cv r W) (hb : Below W.heap.size W V) : TX w cv r V := ⟨h.lo.trans (hb.mono h.lo.size), hp_next h.e0 hb, hp_next h.er hb⟩
structure Gr (w : World) where
 W : World
 h : Below w.heap.size w W
theorem wp_region_gr {P : Program} {id : Nat} {Q : Exit → Act → World → Prop} {a : Act} {w : World} {l : List Oper} (hm : P.follows .mixedOrders = true) (hB : Region.lexB .any l.toArray = true)
  (h : wpQuiet P l.toArray (fun w' => ∃ p : Gr w, w' = p.W) (fun a' => ∀ w', (∃ p : Gr w, w' = p.W) → Q .normal a' w') l a) : (Code.region id l.toArray true).wp P Q a w :=
 wp_region_quiet (C := fun w' => ∃ p : Gr w, w' = p.W) hm hB ⟨⟨w.drew, (Below.refl _ _).drew⟩, rfl⟩ (by simpa using h)
theorem calls_gr {P : Program} {f : FuncId} {args : Array Value} {w : World} {p : Gr w} {v : Value} (h : Below w.heap.size w p.W → Calls P f args p.W fun e w' => e = .returned v ∧ Below p.W.heap.size p.W w') :
  Calls P f args p.W fun e w'' => e = .returned v ∧ ∃ p : Gr w, w'' = p.W :=
 (h p.h).mono fun _ w' ⟨he, hb⟩ => ⟨he, ⟨w', p.h.trans (hb.mono p.h.size)⟩, rfl⟩
theorem says_true {p : Nat} {args : Array Value} {w : World} {P : Prop} (h : Calls Tryz.prog p args w fun e w' => Q.Says e P ∧ Below w.heap.size w w') (hp : P) : Calls Tryz.prog p args w fun e w' => e = .returned (.bool true) ∧ Below w.heap.size w w' :=
 h.mono fun _ _ h => ⟨by obtain ⟨⟨x, e1, hx⟩, _⟩ := h; rw [e1, hx.2 hp], h.2⟩
theorem says_false {p : Nat} {args : Array Value} {w : World} {P : Prop} (h : Calls Tryz.prog p args w fun e w' => Q.Says e P ∧ Below w.heap.size w w') (hp : ¬ P) : Calls Tryz.prog p args w fun e w' => e = .returned (.bool false) ∧ Below w.heap.size w w' :=
 h.mono fun _ _ h => ⟨by
  obtain ⟨⟨x, e1, hx⟩, _⟩ := h
  rw [e1]
  cases x with
  | false => rfl
  | true => exact absurd (hx.1 rfl) hp, h.2⟩
set_option maxHeartbeats 8000000 in
theorem text_any {fns : List Fn} {w : World} {cv : Value} (h1 : FnsRow w cv fns) (hC : CodeS fns) (hE : EnvI w) :
  Calls Tryz.prog 69 #[.agg #[cv]] w (TxEnd fns w) := by
 have H1 := hid h1
 have HC := hid hC
 have HE := hid hE
 obtain ⟨aF, cF, hcv⟩ := h1.sl
 subst hcv
 have hcap : fns.length ≤ cF ∧ cF ≤ maxLen := by
  obtain ⟨_, c, e, h2, h3, _⟩ := h1
  injection e with _ _ ec
  subst ec
  exact ⟨h2, h3⟩
 have hfl : fns.length ≤ 9223372036854775807 := by
  have := hcap.2
  unfold maxLen at this
  omega
 clear h1 hC hE
 go_enter Tryz.func69, Tryz.ntmps69
 go_upto_region 1 with fail
 have HX0 := hid (PX.start w (.slice aF fns.length cF))
 obtain ⟨W1, hW1⟩ : ∃ W, w.alloc (.cells #[.slice aF fns.length cF] 29) = W := ⟨_, rfl⟩
 rw [hW1] at HX0 ⊢
 clear hW1
 have k0 := cx HX0.out.e0
 by_cases hn0 : fns.length = 0
 ·have HPL : Hid (Plain fns 1 0 0) := hid (.many fun h => by omega)
  rw [hn0] at k0
  go_wp2_with fail
  go_ret
  exact ⟨.inr ⟨1, 0, 0, by decide, rfl, HPL.out⟩, HX0.out.lo⟩
 ·have hnb : ((fns.length : Int) == 0) = false := by simp; intro h; rw [h] at hn0; exact hn0 rfl
  by_cases h60 : fns.length ≤ 60
  ·have h60i : ¬ (60 : Int) < (fns.length : Int) := by omega
   have HLEN : Hid (1 ≤ fns.length ∧ fns.length ≤ 60) := hid (by omega)
   clear hn0
   go_wp2_with (go_at_call 93; refine (Q.millWords_any _).mono ?_; rintro e w2 ⟨rfl, hw2⟩; have HX : Hid (TX w (.slice aF fns.length cF) W1.heap.size w2) := hid (by rw [hw2]; exact ⟨HX0.out.lo.alloc HX0.out.lo.size _, hp_next HX0.out.e0 ((Below.refl _ _).alloc (Nat.le_refl _) _), heap_alloc_new _ _⟩); clear hw2; have k1 := cx HX.out.e0)
   obtain ⟨r, hr⟩ : ∃ r, W1.heap.size = r := ⟨_, rfl⟩
   rw [hr] at HX ⊢
   clear hr k0 k1 HX0
   go_loopw [26] (fun i wr => ∃ j : Nat, j ≤ fns.length ∧ i = .int .i64 j ∧ TX w (.slice aF fns.length cF) r wr ∧ ∀ p, p < j → FnOk fns p) (fun i _ => fns.length - (intOf i).toNat)
   case atStart => exact ⟨0, Nat.zero_le _, rfl, HX.out, fun p hp => absurd hp (Nat.not_lt_zero _)⟩
   case round =>
    obtain ⟨j, hj, rfl, hx, hall⟩ := hrel
    have HX2 := hid hx
    have HALL := hid hall
    have k0 := cx hx.e0
    clear hx hall HX
    by_cases hlt : j < fns.length
    ·have hlti : (j : Int) < (fns.length : Int) := by omega
     obtain ⟨gF, cF2, e9, _, pv, iv, n0, n1, n2, n3, n4, hpv, hiv⟩ := (H1.out.next HX2.out.lo).at hlt
     injection e9 with ea en ec
     clear en
     subst ea ec
     have HP := hid hpv
     have HI := hid hiv
     obtain ⟨aP, cP, rfl⟩ := hpv.sl
     obtain ⟨aI, cI, rfl⟩ := hiv.sl
     have HNS := hid (HC.out.names j hlt)
     have HIF : Hid (FnOk fns j ↔ _) := hid fnOk_iff
     have HPT : Hid (∀ V, Below wr.heap.size wr V → FnsRow V (.slice (some ⟨gF, 0, none⟩) j cF) (fns.take j)) := hid fun V hV => (H1.out.next (HX2.out.next hV).lo).part hj
     have HTK : Hid ((∃ q, q < (fns.take j).length ∧ ((fns.take j).getD q fn0).name = (fns.getD j fn0).name) ↔ ¬ ∀ i, i < j → ¬ (fns.getD i fn0).name = (fns.getD j fn0).name) := hid (by
      have hl : (fns.take j).length = j := by simp; omega
      rw [hl]
      have eg : ∀ i, i < j → (fns.take j).getD i fn0 = fns.getD i fn0 := fun i hi => by rw [List.getD_eq_getElem?_getD, List.getD_eq_getElem?_getD, List.getElem?_take_of_lt hi]
      constructor
      ·rintro ⟨q, hq, h⟩ h9
       rw [eg q hq] at h
       exact h9 q hq h
      ·intro h
       apply Classical.byContradiction
       intro h9
       exact h fun i hi h8 => h9 ⟨i, hi, by rw [eg i hi]; exact h8⟩)
     have HTL : Hid ((fns.take j).length ≤ 60) := hid (by simp; omega)
     obtain ⟨f, hf⟩ : ∃ f, fns.getD j fn0 = f := ⟨_, rfl⟩
     rw [hf] at n0 n1 n2 n3 n4 HP HI HNS HIF HTK
     clear hf hpv hiv
     have E5 : Hid ((wr.alloc (fbox f (.slice aP f.params.length cP) (.slice aI f.ins.length cI))).heap[wr.heap.size]? = some (fbox f (.slice aP f.params.length cP) (.slice aI f.ins.length cI))) := hid (heap_alloc_new _ _)
     have HAL : Hid (Below wr.heap.size wr (wr.alloc (fbox f (.slice aP f.params.length cP) (.slice aI f.ins.length cI)))) := hid ((Below.refl _ _).alloc (Nat.le_refl _) _)
     go_upto_region 7 with fail
     obtain ⟨W3, hW3⟩ : ∃ W, wr.alloc (fbox f (.slice aP f.params.length cP) (.slice aI f.ins.length cI)) = W := ⟨_, rfl⟩
     rw [hW3] at E5 HAL
     unfold fbox at hW3
     rw [hW3]
     obtain ⟨b5, hb5⟩ : ∃ b5, wr.heap.size = b5 := ⟨_, rfl⟩
     have HAL' : Hid (∀ V, Below W3.heap.size W3 V → Below wr.heap.size wr V) := hid fun V hV => HAL.out.trans (hV.mono HAL.out.size)
     rw [hb5] at E5
     rw [hb5]
     clear hW3 hb5 k0 n0 n1 n2 n3 n4
     have HS : Hid (∀ V, Below W3.heap.size W3 V → V.cell? ⟨w.heap.size, 0, none⟩ = some (.slice (some ⟨gF, 0, none⟩) fns.length cF) ∧ V.cell? ⟨b5, 0, none⟩ = some (.string f.name) ∧ V.cell? ⟨b5, 1, none⟩ = some (.slice aP f.params.length cP) ∧ V.cell? ⟨b5, 2, none⟩ = some (.int .i64 f.result) ∧ V.cell? ⟨b5, 3, none⟩ = some (.int .i64 f.slots) ∧ V.cell? ⟨b5, 4, none⟩ = some (.slice aI f.ins.length cI)) := hid fun V hV => by
      obtain ⟨a0, a1, a2, a3, a4⟩ := fx (hp_next E5.out hV)
      exact ⟨cx (HX2.out.next (HAL'.out V hV)).e0, a0, a1, a2, a3, a4⟩
     have HNM : Hid (∀ V, Below W3.heap.size W3 V → Calls Tryz.prog 94 #[.string f.name, .map (some r)] V fun e w' => Q.Says e (Q.NameOk f.name) ∧ Below V.heap.size V w') := hid fun V hV => Q.isName_at _ _ _ HNS.out (HX2.out.next (HAL'.out V hV)).er
     have HHS : Hid (∀ V, Below W3.heap.size W3 V → Calls Tryz.prog 95 #[.slice (some ⟨gF, 0, none⟩) j cF, .string f.name] V fun e w' => Q.Says e (∃ q, q < (fns.take j).length ∧ ((fns.take j).getD q fn0).name = f.name) ∧ Below V.heap.size V w') := hid fun V hV => hasName_any (HPT.out V (HAL'.out V hV)) HTL.out
     have HRT : Hid (∀ V, Below W3.heap.size W3 V → Calls Tryz.prog 96 #[.agg #[.string f.name, .slice aP f.params.length cP, .int .i64 f.result, .int .i64 f.slots, .slice aI f.ins.length cI]] V fun e w' => Q.Says e (FnOkR f) ∧ Below V.heap.size V w') := hid fun V hV => fnRight_any (HP.out.next (HAL'.out V hV)) (HI.out.next (HAL'.out V hV))
     have hjc : j ≤ cF := by omega
     have hjci : (j : Int) ≤ (cF : Int) := by omega
     have hjz : (0 : Int) ≤ (j : Int) := by omega
     by_cases hq1 : Q.NameOk f.name
     ·have HQ1 := hid hq1
      clear hq1
      by_cases hq2 : ∃ q, q < (fns.take j).length ∧ ((fns.take j).getD q fn0).name = f.name
      ·have HQ2 := hid hq2
       clear hq2
       obtain ⟨c0, c1, c2, c3, c4, c5⟩ := HS.out _ (Below.refl _ _)
       go_region_with (first | (go_at_call 94; refine (says_true (HNM.out _ (by first | (exact (Below.refl W3.heap.size W3).drew) | (exact (Below.refl _ _).drew) | (exact (Below.refl _ _)))) HQ1.out).mono ?_; rintro e w1 ⟨rfl, hb1⟩; have HB1 := hid (Below.trans (show Below W3.heap.size W3 _ from (by first | (exact (Below.refl W3.heap.size W3).drew) | (exact (Below.refl _ _).drew) | (exact (Below.refl _ _)))) (hb1.mono (by first | (exact ((Below.refl W3.heap.size W3).drew).size) | (exact Nat.le_refl _)))); clear hb1; obtain ⟨d0, d1, d2, d3, d4, d5⟩ := HS.out _ HB1.out) | (go_at_call 95; refine (says_true (HHS.out _ (by first | (exact HB1.out) | (exact (Below.refl _ _).drew) | (exact (Below.refl _ _)))) HQ2.out).mono ?_; rintro e w2 ⟨rfl, hb2⟩; have HB2 := hid (Below.trans (show Below W3.heap.size W3 _ from (by first | (exact HB1.out) | (exact (Below.refl _ _).drew) | (exact (Below.refl _ _)))) (hb2.mono (by first | (exact (HB1.out).size) | (exact Nat.le_refl _)))); clear hb2; obtain ⟨g0, g1, g2, g3, g4, g5⟩ := HS.out _ HB2.out))
       all_goals go_wp2_with fail
       all_goals go_ret
       all_goals exact ⟨.inr ⟨2, j, 0, by decide, rfl, .fn HLEN.out j hlt HALL.out (fun h => HTK.out.1 HQ2.out (HIF.out.1 h).2.2)⟩, (HX2.out.next (HAL'.out _ HB2.out)).lo⟩
      ·have HQ2 := hid hq2
       clear hq2
       by_cases hq3 : FnOkR f
       ·have HQ3 := hid hq3
        clear hq3
        have HOK : Hid (FnOk fns j) := hid (HIF.out.2 ⟨HQ1.out, HQ3.out, Classical.byContradiction fun h => HQ2.out (HTK.out.2 h)⟩)
        go_region_held3 (fun V => V.cell? ⟨w.heap.size, 0, none⟩ = some (.slice (some ⟨gF, 0, none⟩) fns.length cF) ∧ V.cell? ⟨b5, 0, none⟩ = some (.string f.name) ∧ V.cell? ⟨b5, 1, none⟩ = some (.slice aP f.params.length cP) ∧ V.cell? ⟨b5, 2, none⟩ = some (.int .i64 f.result) ∧ V.cell? ⟨b5, 3, none⟩ = some (.int .i64 f.slots) ∧ V.cell? ⟨b5, 4, none⟩ = some (.slice aI f.ins.length cI)) (first | (exact HS.out _ HB3.out) | (exact HS.out _ HB2.out) | (exact HS.out _ HB1.out) | (exact HS.out _ (Below.refl _ _).drew) | go_keep) (first | (go_at_call 94; refine (says_true (HNM.out _ (by first | (exact (Below.refl W3.heap.size W3).drew) | (exact (Below.refl _ _).drew) | (exact (Below.refl _ _)))) HQ1.out).mono ?_; rintro e w1 ⟨rfl, hb1⟩; have HB1 := hid (Below.trans (show Below W3.heap.size W3 _ from (by first | (exact (Below.refl W3.heap.size W3).drew) | (exact (Below.refl _ _).drew) | (exact (Below.refl _ _)))) (hb1.mono (by first | (exact ((Below.refl W3.heap.size W3).drew).size) | (exact Nat.le_refl _)))); clear hb1) | (go_at_call 95; refine (says_false (HHS.out _ (by first | (exact HB1.out) | (exact (Below.refl _ _).drew) | (exact (Below.refl _ _)))) HQ2.out).mono ?_; rintro e w2 ⟨rfl, hb2⟩; have HB2 := hid (Below.trans (show Below W3.heap.size W3 _ from (by first | (exact HB1.out) | (exact (Below.refl _ _).drew) | (exact (Below.refl _ _)))) (hb2.mono (by first | (exact (HB1.out).size) | (exact Nat.le_refl _)))); clear hb2) | (go_at_call 96; refine (says_true (HRT.out _ (by first | (exact HB2.out) | (exact (Below.refl _ _).drew) | (exact (Below.refl _ _)))) HQ3.out).mono ?_; rintro e w3 ⟨rfl, hb3⟩; have HB3 := hid (Below.trans (show Below W3.heap.size W3 _ from (by first | (exact HB2.out) | (exact (Below.refl _ _).drew) | (exact (Below.refl _ _)))) (hb3.mono (by first | (exact (HB2.out).size) | (exact Nat.le_refl _)))); clear hb3))
        all_goals go_wp2_with fail
        all_goals go_roundw
        case rel =>
         refine ⟨j + 1, by omega, by go_num, HX2.out.next (HAL'.out _ HB3.out), fun p hp => ?_⟩
         by_cases e : p = j
         ·subst e; exact HOK.out
         ·exact HALL.out p (by omega)
        case measure => simp [intOf]; omega
       ·have HQ3 := hid hq3
        clear hq3
        go_region_held3 (fun V => V.cell? ⟨w.heap.size, 0, none⟩ = some (.slice (some ⟨gF, 0, none⟩) fns.length cF) ∧ V.cell? ⟨b5, 0, none⟩ = some (.string f.name) ∧ V.cell? ⟨b5, 1, none⟩ = some (.slice aP f.params.length cP) ∧ V.cell? ⟨b5, 2, none⟩ = some (.int .i64 f.result) ∧ V.cell? ⟨b5, 3, none⟩ = some (.int .i64 f.slots) ∧ V.cell? ⟨b5, 4, none⟩ = some (.slice aI f.ins.length cI)) (first | (exact HS.out _ HB3.out) | (exact HS.out _ HB2.out) | (exact HS.out _ HB1.out) | (exact HS.out _ (Below.refl _ _).drew) | go_keep) (first | (go_at_call 94; refine (says_true (HNM.out _ (by first | (exact (Below.refl W3.heap.size W3).drew) | (exact (Below.refl _ _).drew) | (exact (Below.refl _ _)))) HQ1.out).mono ?_; rintro e w1 ⟨rfl, hb1⟩; have HB1 := hid (Below.trans (show Below W3.heap.size W3 _ from (by first | (exact (Below.refl W3.heap.size W3).drew) | (exact (Below.refl _ _).drew) | (exact (Below.refl _ _)))) (hb1.mono (by first | (exact ((Below.refl W3.heap.size W3).drew).size) | (exact Nat.le_refl _)))); clear hb1) | (go_at_call 95; refine (says_false (HHS.out _ (by first | (exact HB1.out) | (exact (Below.refl _ _).drew) | (exact (Below.refl _ _)))) HQ2.out).mono ?_; rintro e w2 ⟨rfl, hb2⟩; have HB2 := hid (Below.trans (show Below W3.heap.size W3 _ from (by first | (exact HB1.out) | (exact (Below.refl _ _).drew) | (exact (Below.refl _ _)))) (hb2.mono (by first | (exact (HB1.out).size) | (exact Nat.le_refl _)))); clear hb2) | (go_at_call 96; refine (says_false (HRT.out _ (by first | (exact HB2.out) | (exact (Below.refl _ _).drew) | (exact (Below.refl _ _)))) HQ3.out).mono ?_; rintro e w3 ⟨rfl, hb3⟩; have HB3 := hid (Below.trans (show Below W3.heap.size W3 _ from (by first | (exact HB2.out) | (exact (Below.refl _ _).drew) | (exact (Below.refl _ _)))) (hb3.mono (by first | (exact (HB2.out).size) | (exact Nat.le_refl _)))); clear hb3))
        all_goals go_wp2_with fail
        all_goals go_ret
        all_goals exact ⟨.inr ⟨2, j, 0, by decide, rfl, .fn HLEN.out j hlt HALL.out (fun h => HQ3.out (HIF.out.1 h).2.1)⟩, (HX2.out.next (HAL'.out _ HB3.out)).lo⟩
     ·have HQ1 := hid hq1
      clear hq1
      have c0 := fun p : Gr W3 => (HS.out p.W p.h).1
      have c1 := fun p : Gr W3 => (HS.out p.W p.h).2.1
      have hne2 : Nonempty (Gr W3) := ⟨⟨W3, Below.refl _ _⟩⟩
      refine wp_region_gr (by kernel_rfl) (by kernel_rfl) ?_
      repeat (go_big_quiet_step (first | (go_at_call 94; refine calls_gr (v := .bool false) fun h => ?_; exact says_false (HNM.out _ h) HQ1.out)))
      refine wpQuiet_nil ?_
      intro _ hw'
      obtain ⟨pw, rfl⟩ := hw'
      have HB1 := hid pw.h
      clear c0 c1 hne2
      all_goals go_wp2_with fail
      all_goals go_ret
      all_goals exact ⟨.inr ⟨2, j, 0, by decide, rfl, .fn HLEN.out j hlt HALL.out (fun h => HQ1.out (HIF.out.1 h).1)⟩, (HX2.out.next (HAL'.out _ HB1.out)).lo⟩
    ·obtain rfl : j = fns.length := by omega
     have hge : ¬ ((fns.length : Int) < (fns.length : Int)) := by omega
     go_wp2_with fail
     clear k0
     go_loopw [57] (fun i wr => ∃ j : Nat, j ≤ fns.length ∧ i = .int .i64 j ∧ TX w (.slice aF fns.length cF) r wr ∧ ∀ q, q < j → ∀ p, p < (fns.getD q fn0).ins.length → insB fns (fns.getD q fn0) ((fns.getD q fn0).ins.getD p in0) = true) (fun i _ => fns.length - (intOf i).toNat)
     case atStart => exact ⟨0, Nat.zero_le _, rfl, HX2.out, fun p hp => absurd hp (Nat.not_lt_zero _)⟩
     case round =>
      obtain ⟨j, hj, rfl, hx, hins⟩ := hrel
      have HX3 := hid hx
      have HINS := hid hins
      have k0 := cx hx.e0
      clear hx hins HX2
      by_cases hlt : j < fns.length
      ·have hlti : (j : Int) < (fns.length : Int) := by omega
       obtain ⟨gF, cF2, e9, _, pv, iv, n0, n1, n2, n3, n4, hpv, hiv⟩ := (H1.out.next HX3.out.lo).at hlt
       injection e9 with ea en ec
       clear en
       subst ea ec
       have HI := hid hiv
       obtain ⟨aP, cP, rfl⟩ := hpv.sl
       obtain ⟨aI, cI, rfl⟩ := hiv.sl
       have hok := HALL.out j hlt
       have hsl : 0 ≤ (fns.getD j fn0).slots ∧ (fns.getD j fn0).slots ≤ 200 := by have := hok.slots; omega
       have hil := hok.some_.2
       have HNU := hid (HC.out.nums j hlt)
       obtain ⟨f, hf⟩ : ∃ f, fns.getD j fn0 = f := ⟨_, rfl⟩
       rw [hf] at n0 n1 n2 n3 n4 HI HNU hsl hil
       have HFE := hid hf
       clear hf hpv hiv hok
       have E5 : Hid ((wr.alloc (fbox f (.slice aP f.params.length cP) (.slice aI f.ins.length cI))).heap[wr.heap.size]? = some (fbox f (.slice aP f.params.length cP) (.slice aI f.ins.length cI))) := hid (heap_alloc_new _ _)
       have HX4 := hid (HX3.out.next ((Below.refl wr.heap.size wr).alloc (Nat.le_refl _) (fbox f (.slice aP f.params.length cP) (.slice aI f.ins.length cI))))
       have HI4 := hid (HI.out.next ((Below.refl wr.heap.size wr).alloc (Nat.le_refl _) (fbox f (.slice aP f.params.length cP) (.slice aI f.ins.length cI))))
       go_upto_region 13 with fail
       obtain ⟨W3, hW3⟩ : ∃ W, wr.alloc (fbox f (.slice aP f.params.length cP) (.slice aI f.ins.length cI)) = W := ⟨_, rfl⟩
       rw [hW3] at E5 HX4 HI4
       unfold fbox at hW3
       rw [hW3]
       obtain ⟨b5, hb5⟩ : ∃ b5, wr.heap.size = b5 := ⟨_, rfl⟩
       rw [hb5] at E5
       rw [hb5]
       clear hW3 hb5 k0 n0 n1 n2 n3 n4 HX3 HI
       obtain ⟨a0, a1, a2, a3, a4⟩ := fx E5.out
       go_wp2_with fail
       clear a0 a1 a2 a3 a4
       go_loopw [65] (fun i wr => ∃ z : Nat, z ≤ f.ins.length ∧ i = .int .i64 z ∧ Below W3.heap.size W3 wr ∧ ∀ p, p < z → insB fns f (f.ins.getD p in0) = true) (fun i _ => f.ins.length - (intOf i).toNat)
       case atStart => exact ⟨0, Nat.zero_le _, rfl, Below.refl _ _, fun p hp => absurd hp (Nat.not_lt_zero _)⟩
       case round =>
        obtain ⟨z, hz, rfl, hlo, hsf⟩ := hrel
        have HLO := hid hlo
        have HSF := hid hsf
        clear hlo hsf
        by_cases hzt : z < f.ins.length
        ·have hzi : (z : Int) < (f.ins.length : Int) := by omega
         obtain ⟨gI, cI2, e8, _, hgc⟩ := (HI4.out.next HLO.out).at hzt
         injection e8 with e8 en ec
         clear en
         subst e8 ec
         obtain ⟨m0, m1, m2, m3⟩ := hgc z hzt
         have HN9 := hid (HNU.out z hzt)
         obtain ⟨i, hi⟩ : ∃ i, f.ins.getD z in0 = i := ⟨_, rfl⟩
         rw [hi] at m0 m1 m2 m3 HN9
         have HIE := hid hi
         clear hi hgc
         have HAL : Hid (Below wr.heap.size wr (wr.alloc (ibox i))) := hid ((Below.refl _ _).alloc (Nat.le_refl _) _)
         have HL9 : Hid (Below W3.heap.size W3 (wr.alloc (ibox i))) := hid (HLO.out.trans (HAL.out.mono HLO.out.size))
         have HIR : Hid (Calls Tryz.prog 97 #[.agg #[.int .i64 i.op, .int .i64 i.a, .int .i64 i.n, .string i.text], .agg #[.string f.name, .slice aP f.params.length cP, .int .i64 f.result, .int .i64 f.slots, .slice (some ⟨gI, 0, none⟩) f.ins.length cI], .int .i64 fns.length] (wr.alloc (ibox i)) fun e w' => e = .returned (.bool (insB fns f i)) ∧ Below (wr.alloc (ibox i)).heap.size (wr.alloc (ibox i)) w') := hid (insRight_any (HE.out.next (HX4.out.next HL9.out).lo) hsl h60 hil HN9.out)
         obtain ⟨op, a, n, tx⟩ := i
         dsimp only at m0 m1 m2 m3 HIR
         unfold ibox at HAL HL9 HIR
         dsimp only at HAL HL9 HIR
         have E9 : Hid ((wr.alloc (ibox ⟨op, a, n, tx⟩)).heap[wr.heap.size]? = some (ibox ⟨op, a, n, tx⟩)) := hid (heap_alloc_new _ _)
         go_upto_region 16 with fail
         obtain ⟨W9, hW9⟩ : ∃ W, wr.alloc (.cells #[.int .i64 op, .int .i64 a, .int .i64 n, .string tx] 84) = W := ⟨_, rfl⟩
         have E9' : Hid (W9.heap[wr.heap.size]? = some (ibox ⟨op, a, n, tx⟩)) := hid (by rw [← hW9]; exact E9.out)
         rw [hW9] at HL9 HIR ⊢
         clear hW9 HAL E9 m0 m1 m2 m3
         have k0 := cx (HX4.out.next HL9.out).e0
         obtain ⟨a0, a1, a2, a3, a4⟩ := fx (hp_next E5.out HL9.out)
         obtain ⟨j0, j1, j2, j3⟩ := ix E9'.out
         dsimp only at j0 j1 j2 j3
         cases hib : insB fns f ⟨op, a, n, tx⟩ with
         | true =>
          rw [hib] at HIR
          have HNX : Hid (∀ p, p < z + 1 → insB fns f (f.ins.getD p in0) = true) := hid fun p hp => by
           by_cases e : p = z
           ·subst e; rw [HIE.out]; exact hib
           ·exact HSF.out p (by omega)
          clear hib
          go_wp2_with (go_at_call 97; refine HIR.out.mono ?_; rintro e w6 ⟨rfl, hb6⟩; have HB6 := hid (HL9.out.trans (hb6.mono HL9.out.size)); clear hb6)
          go_roundw
          case rel => exact ⟨z + 1, by omega, by go_num, HB6.out, HNX.out⟩
          case measure => simp [intOf]; omega
         | false =>
          rw [hib] at HIR
          have HPL : Hid (Plain fns 3 j z) := hid (.ins HLEN.out HALL.out j z hlt (by rw [HFE.out]; exact hzt) HINS.out (by rw [HFE.out]; exact HSF.out) (by rw [HFE.out, HIE.out]; exact hib))
          clear hib
          go_wp2_with (go_at_call 97; refine HIR.out.mono ?_; rintro e w6 ⟨rfl, hb6⟩; have HB6 := hid (HL9.out.trans (hb6.mono HL9.out.size)); clear hb6)
          go_ret
          exact ⟨.inr ⟨3, j, z, by decide, rfl, HPL.out⟩, (HX4.out.next HB6.out).lo⟩
        ·obtain rfl : z = f.ins.length := by omega
         have hge2 : ¬ ((f.ins.length : Int) < (f.ins.length : Int)) := by omega
         have HNX : Hid (∀ q, q < j + 1 → ∀ p, p < (fns.getD q fn0).ins.length → insB fns (fns.getD q fn0) ((fns.getD q fn0).ins.getD p in0) = true) := hid fun q hq p hp => by
          by_cases e : q = j
          ·subst e; rw [HFE.out] at hp ⊢; exact HSF.out p hp
          ·exact HINS.out q (by omega) p hp
         go_wp2_with fail
         go_roundw
         case rel => exact ⟨j + 1, by omega, by go_num, HX4.out.next HLO.out, HNX.out⟩
         case measure => simp [intOf]; omega
      ·obtain rfl : j = fns.length := by omega
       have hge : ¬ ((fns.length : Int) < (fns.length : Int)) := by omega
       have k0 := cx HX3.out.e0
       have HM := hid (hasMain_any (H1.out.next HX3.out.lo) h60)
       by_cases hm : ∃ j, j < fns.length ∧ isMain (fns.getD j fn0)
       ·have HT := hid (says_true HM.out hm)
        have HMM := hid hm
        clear hm
        go_wp2_with (go_at_call 98; refine HT.out.mono ?_; rintro e w5 ⟨rfl, hb5⟩; have HB5 := hid (HX3.out.next hb5).lo; clear hb5)
        go_ret
        obtain ⟨q, hq1, hq2⟩ := HMM.out
        exact ⟨.inl ⟨rfl, .ok HLEN.out HALL.out HINS.out q hq1 hq2⟩, HB5.out⟩
       ·have HT := hid (says_false HM.out hm)
        have HMM := hid hm
        clear hm
        go_wp2_with (go_at_call 98; refine HT.out.mono ?_; rintro e w5 ⟨rfl, hb5⟩; have HB5 := hid (HX3.out.next hb5).lo; clear hb5)
        go_ret
        exact ⟨.inr ⟨4, 0, 0, by decide, rfl, .main HLEN.out HALL.out HINS.out (fun q hq h => HMM.out ⟨q, hq, h⟩)⟩, HB5.out⟩
  ·have h60i : (60 : Int) < (fns.length : Int) := by omega
   have HPL : Hid (Plain fns 1 0 0) := hid (.many fun h => h60 h.2)
   go_wp2_with fail
   go_ret
   exact ⟨.inr ⟨1, 0, 0, by decide, rfl, HPL.out⟩, HX0.out.lo⟩
end Go.Proofs.YtcjgcipacfcjnaaGreatDoor.C
