import Derived.Laws.CopyOwn
import Derived.Test.YtcjgcipacfcjnaaGreatDoorJ46
namespace Go.Proofs.YtcjgcipacfcjnaaGreatDoor.C.D
open Go.RowKit
set_option maxRecDepth 20000
def ErrT (W : World) : Prop := W.cell? ⟨2, 0, none⟩ = some (.iface 151 (.agg #[.pointer (some ⟨7, 43, none⟩)]))
theorem ErrT.next {W V : World} (h : ErrT W) (hb : Below W.heap.size W V) : ErrT V := (hb.cell (p := ⟨2, 0, none⟩) (cell_in h)).trans h
def IRcEnd (s : ByteArray) (w : World) (e : Ending) (w' : World) : Prop := ∃ (o : Option (List Fn)) (v : Value) (B : Nat) (L : List FnE), e = .returned (.tuple #[.agg #[v], .bool o.isSome]) ∧ RcAns s o ∧ Below w.heap.size w w' ∧ w.heap.size ≤ B ∧ OwnE B w' v L ∧ L.map FnE.f = o.getD []
structure RM (w : World) (g : Nat) (v : Value) (W : World) : Prop where
 lo : Below w.heap.size w W
 e0 : W.heap[w.heap.size]? = some (.cells #[.slice none 0 0] 29 (0, 0))
 e1 : W.heap[g]? = some (.cells #[v] 29 (0, 0))
 e2 : W.heap[g + 1]? = some (.cells #[.int .i64 0, .nilIface] 70 (0, 0))
 lt : w.heap.size < g
theorem RM.start {w W : World} {v : Value} (hb : Below w.heap.size w W) (h0 : W.heap[w.heap.size]? = some (.cells #[.slice none 0 0] 29 (0, 0))) : RM w W.heap.size v ((W.alloc (.cells #[v] 29)).alloc (.cells #[.int .i64 0, .nilIface] 70)) ∧ Below W.heap.size W ((W.alloc (.cells #[v] 29)).alloc (.cells #[.int .i64 0, .nilIface] 70)) := by
 have hl : Below W.heap.size W ((W.alloc (.cells #[v] 29)).alloc (.cells #[.int .i64 0, .nilIface] 70)) := ((Below.refl _ _).alloc (Nat.le_refl _) _).alloc (by simp) _
 refine ⟨⟨hb.trans (hl.mono hb.size), hp_next h0 hl, ?_, ?_, lt_hp h0⟩, hl⟩
 ·rw [Below.heap_alloc _ _ _ (by simp)]
  exact heap_alloc_new _ _
 ·have := heap_alloc_new (W.alloc (.cells #[v] 29)) (.cells #[.int .i64 0, .nilIface] 70)
  rwa [World.size_alloc] at this
theorem as_endF {w W : World} {g : Nat} {v : Value} (a : Int) (t : TypeId) (u : Value) (h : RM w g v W) (hg : ErrT W) : Calls Tryz.prog 28 #[.iface 70 (.agg #[.int .i64 a, .iface t u]), .iface 72 (.pointer (some ⟨g + 1, 0, none⟩))] W fun e w' => e = .returned (.bool true) ∧ Below w.heap.size w w' ∧ w'.heap[w.heap.size]? = some (.cells #[.slice none 0 0] 29 (0, 0)) := by
 refine (as_flaw a t u (g + 1) W h.e2 hg).mono ?_
 rintro e w' ⟨rfl, rfl⟩
 have hA : Below W.heap.size W ((((W.alloc (.cells #[.pointer (some ⟨g + 1, 0, none⟩)] 72)).alloc (vP W.heap.size)).alloc (vP W.heap.size)).alloc (vF a t u)) := (((Below.refl W.heap.size W).alloc (Nat.le_refl _) _).alloc (by simp) _ |>.alloc (by simp; omega) _).alloc (by simp; omega) _
 have hlt := h.lt
 have hB := below_setRow (h.lo.trans (hA.mono h.lo.size)) (show w.heap.size ≤ g + 1 by omega) #[.int .i64 a, .iface t u]
 refine ⟨rfl, hB, ?_⟩
 unfold World.setRow
 simp only [Array.getElem?_modify]
 rw [if_neg (by omega)]
 exact hp_next h.e0 hA
set_option maxHeartbeats 8000000 in
theorem implRead_any (s : ByteArray) (w : World) (hs : s.size ≤ 1048576) (hev : EnvF w) (hei : EnvI w) (het : ErrT w) :
  Calls Tryz.prog 11 #[.string s] w (IRcEnd s w) := by
 have HB0 : Hid (Below w.heap.size w (w.alloc (.cells #[.slice none 0 0] 29))) := hid ((Below.refl _ _).alloc (Nat.le_refl _) _)
 have HE0 : Hid ((w.alloc (.cells #[.slice none 0 0] 29)).heap[w.heap.size]? = some (.cells #[.slice none 0 0] 29 (0, 0))) := hid (heap_alloc_new _ _)
 have HR := hid (readForm_any s _ hs (hev.next HB0.out) (hei.next HB0.out))
 have HET := hid (het.next HB0.out)
 obtain ⟨W0, hW0⟩ : ∃ W, w.alloc (.cells #[.slice none 0 0] 29) = W := ⟨_, rfl⟩
 have HSZ : Hid (W0.heap.size = w.heap.size + 1) := hid (by rw [← hW0, World.size_alloc])
 rw [hW0] at HB0 HE0 HR HET
 clear hev hei het
 go_enter Tryz.func11, Tryz.ntmps11
 go_wp2_with fail
 clear hW0
 refine HR.out.mono ?_
 rintro e w1 ⟨hb1, hc1⟩
 have HB1 := hid (HB0.out.trans (hb1.mono HB0.out.size))
 have HE1 := hid (hp_next HE0.out hb1)
 have HT1 := hid (HET.out.next hb1)
 clear hb1 HR HET
 rcases hc1 with ⟨av, cv, B, L, rfl, hB, hown, hans⟩ | ⟨a, t, u, rfl, hans⟩
 ·have HRM := hid (RM.start (v := .slice av L.length cv) HB1.out HE1.out)
  have HO2 := hid (hown.next HRM.out.2)
  have HAN := hid hans
  have HBB : Hid (w.heap.size ≤ B) := hid (by have := HSZ.out; omega)
  clear hown hans
  go_upto_region 3 with fail
  obtain ⟨W2, hW2⟩ : ∃ W, (w1.alloc (.cells #[.slice av L.length cv] 29)).alloc (.cells #[.int .i64 0, .nilIface] 70) = W := ⟨_, rfl⟩
  obtain ⟨g, hg⟩ : ∃ g, w1.heap.size = g := ⟨_, rfl⟩
  rw [hW2] at HRM HO2 ⊢
  rw [hg] at HRM ⊢
  clear hW2 hg
  go_wp2_with fail
  refine (as_nil _ _).mono ?_
  rintro e w3 ⟨rfl, hw⟩
  have hw2 := hw.symm
  clear hw
  subst hw2
  have k0 := cell_hp HRM.out.1.e0 0
  have f0 := frozen_hp HRM.out.1.e0 0
  have k1 := cell_hp HRM.out.1.e1 0
  have HOF : Hid (OwnE B (W2.setCell ⟨w.heap.size, 0, none⟩ (.slice av L.length cv)) (.slice av L.length cv) L) := hid (HO2.out.setT HRM.out.1.e0 (by decide) 0 _)
  have HBF : Hid (Below w.heap.size w (W2.setCell ⟨w.heap.size, 0, none⟩ (.slice av L.length cv))) := hid (set_lo HRM.out.1.lo _ _ (Nat.le_refl _) _)
  go_wp2
  exact bodyPost_ret (v := .tuple #[.agg #[.slice av L.length cv], .bool true]) (by simp [results, Tryz.results11, go_sem, k0]) rfl ⟨some (L.map FnE.f), _, B, L, rfl, HAN.out, HBF.out, HBB.out, HOF.out, rfl⟩
 ·have HRM := hid (RM.start (v := .slice none 0 0) HB1.out HE1.out)
  have HT2 := hid (HT1.out.next HRM.out.2)
  have HAN := hid hans
  clear hans
  go_upto_region 3 with fail
  obtain ⟨W2, hW2⟩ : ∃ W, (w1.alloc (.cells #[.slice none 0 0] 29)).alloc (.cells #[.int .i64 0, .nilIface] 70) = W := ⟨_, rfl⟩
  obtain ⟨g, hg⟩ : ∃ g, w1.heap.size = g := ⟨_, rfl⟩
  rw [hW2] at HRM HT2 ⊢
  rw [hg] at HRM ⊢
  clear hW2 hg
  go_wp2_with fail
  refine (as_endF a t u HRM.out.1 HT2.out).mono ?_
  rintro e w3 ⟨rfl, hb3, he3⟩
  have HB3 := hid hb3
  have k0 := cell_hp he3 0
  have f0 := frozen_hp he3 0
  clear hb3 he3
  go_wp2
  exact bodyPost_ret (v := .tuple #[.agg #[.slice none 0 0], .bool false]) (by simp [results, Tryz.results11, go_sem, k0]) rfl ⟨none, _, w.heap.size, [], rfl, HAN.out, set_lo HB3.out _ _ (Nat.le_refl _) _, Nat.le_refl _, OwnE.nil _ _, rfl⟩
theorem mkE_app : ∀ (A : List FnE) (k : Nat) (C : List FnE), mkE k (A ++ C) = mkE k A ++ mkE (k + kE A) C
 | [], k, C => by simp [mkE, kE]
 | y :: A, k, C => by
  simp only [List.cons_append, mkE, kE]
  rw [mkE_app A (k + wE y) C, Nat.add_assoc]
theorem heldI_int {B K n T : Nat} {v : Value} (w : World) (h : OwnI B w v (mkI K n)) (hn : n ≤ 200000) (hK : K ≤ 100000000) (a : Int) (he : a = (K : Nat)) (hT : K + n = T) :
  Calls Tryz.prog 59 #[v, .int .i64 a] w fun e w' => e = .returned (.int .i64 (T : Nat)) ∧ w' = w := by
 subst he hT
 exact heldI_own w h hn hK
theorem heldN_int {B K n T : Nat} {v : Value} (w : World) (h : OwnN B w v (mkN K n)) (hn : n ≤ 200000) (hK : 0 < K) (hK2 : K ≤ 5000000) (a : Int) (he : a = (K : Nat)) (hT : K + 4 * n = T) :
  Calls Tryz.prog 60 #[v, .int .i64 a] w fun e w' => e = .returned (.int .i64 (T : Nat)) ∧ Below w.heap.size w w' := by
 subst he hT
 exact heldN_own w h hn hK hK2
theorem mkX_is {M P I Z : Nat} {x : FnE} (hP : x.f.params.length = P) (hI : x.f.ins.length = I) (hr : M + 1 + P = Z) : mkX M x = ⟨⟨mtxt M, mkI (M + 1) P, (Z : Int), (Z : Int) + 1, mkN (Z + 2) I⟩, x.pv, x.iv, x.lo, x.hi⟩ := by
 unfold mkX mkFn
 rw [hP, hI]
 have e1 : ((M + 1 + P : Nat) : Int) = (Z : Int) := by omega
 have e2 : ((M + 2 + P : Nat) : Int) = (Z : Int) + 1 := by omega
 have e3 : M + 3 + P = Z + 2 := by omega
 rw [e1, e2, e3]
set_option maxHeartbeats 8000000 in
theorem heldE_row {B K g cap : Nat} {L : List FnE} (w : World) (h : OwnE B w (.slice (some ⟨g, 0, none⟩) L.length cap) (mkE K L)) (hL : L.length ≤ 1000) (hK : 0 < K) (hw : K + kE L ≤ 4000000) (hx : ∀ x ∈ L, x.f.params.length ≤ 200000 ∧ x.f.ins.length ≤ 200000) :
  Calls Tryz.prog 30 #[.slice (some ⟨g, 0, none⟩) L.length cap, .int .i64 K] w fun e w' => e = .returned (.int .i64 (K + kE L : Nat)) ∧ Below w.heap.size w w' := by
 have HOW := hid h
 have HW := hid hw
 have HX := hid hx
 clear h hw hx
 go_enter Tryz.func30, Tryz.ntmps30
 go_wp2
 go_loopw [1, 5] (fun k i wr => ∃ (A C : List FnE), L = A ++ C ∧ i = .int .i64 A.length ∧ k = .int .i64 (K + kE A : Nat) ∧ Below w.heap.size w wr) (fun _ i _ => L.length - (intOf i).toNat)
 case atStart => exact ⟨[], L, rfl, rfl, rfl, Below.refl _ _⟩
 case round =>
  obtain ⟨A, C, hAC, rfl, rfl, hlo⟩ := hrel
  cases C with
  | nil =>
   rw [List.append_nil] at hAC
   subst hAC
   have HLO := hid hlo
   clear hlo
   go_wp2
   go_ret
   exact ⟨rfl, HLO.out⟩
  | cons x C =>
   have HAC := hid hAC
   have hltn : A.length < L.length := by rw [hAC]; simp
   have hlti : (A.length : Int) < (L.length : Int) := by omega
   have hkk : kE L = kE A + (wE x + kE C) := by rw [hAC, kE_app]; rfl
   have HPX := hid (HX.out x (by rw [hAC]; simp))
   have HWE : Hid (wE x = 3 + x.f.params.length + 4 * x.f.ins.length) := hid rfl
   have HLO := hid hlo
   clear hlo
   obtain ⟨M, hM⟩ : ∃ M, K + kE A = M := ⟨_, rfl⟩
   have HM := hid hM
   have hMa : 0 < M := by omega
   have hMb : M + 3 + x.f.params.length + 4 * x.f.ins.length ≤ 4000000 := by have := HW.out; have := HWE.out; omega
   obtain ⟨P, hP⟩ : ∃ P, x.f.params.length = P := ⟨_, rfl⟩
   obtain ⟨I, hI⟩ : ∃ I, x.f.ins.length = I := ⟨_, rfl⟩
   have HP := hid hP
   have HI := hid hI
   rw [hP, hI] at hMb
   have hPb : P ≤ 200000 := by have := HPX.out.1; omega
   have hIb : I ≤ 200000 := by have := HPX.out.2; omega
   obtain ⟨Z, hR⟩ : ∃ Z, M + 1 + P = Z := ⟨_, rfl⟩
   have HR := hid hR
   have hRb : Z + 4 * I ≤ 4000000 := by omega
   obtain ⟨T, hT⟩ : ∃ T, Z + 2 + 4 * I = T := ⟨_, rfl⟩
   have HT := hid hT
   have hTb : T ≤ 4000002 := by omega
   have HO : Hid (OwnE B w (.slice (some ⟨g, 0, none⟩) L.length cap) (mkE K A ++ ⟨⟨mtxt M, mkI (M + 1) P, (Z : Int), (Z : Int) + 1, mkN (Z + 2) I⟩, x.pv, x.iv, x.lo, x.hi⟩ :: mkE (M + wE x) C)) := hid (by
    have h1 := HOW.out
    have e : mkE K L = mkE K A ++ mkX M x :: mkE (M + wE x) C := by rw [hAC, mkE_app, hM]; rfl
    rw [e, mkX_is hP hI hR] at h1
    exact h1)
   rw [hM]
   clear hM hkk hAC hP hI hR hT
   have hml : (mkE K A).length = A.length := mkE_len A K
   have HC : Hid (∀ V, Below w.heap.size w V → (V.cell? ⟨g, A.length * 5, none⟩ = some (.string (mtxt M)) ∧ V.cell? ⟨g, A.length * 5 + 1, none⟩ = some x.pv ∧ V.cell? ⟨g, A.length * 5 + 2, none⟩ = some (.int .i64 (Z : Int)) ∧ V.cell? ⟨g, A.length * 5 + 3, none⟩ = some (.int .i64 ((Z : Int) + 1)) ∧ V.cell? ⟨g, A.length * 5 + 4, none⟩ = some x.iv) ∧ OwnI x.lo V x.pv (mkI (M + 1) P) ∧ OwnN x.lo V x.iv (mkN (Z + 2) I)) := hid fun V hV => by
    have h1 := HO.out.next hV
    have h2 := h1.cells.1
    rw [mkE_len] at h2
    exact ⟨h2, h1.mem.1.p, h1.mem.1.i⟩
   clear hml HO HOW
   have HT2 : Hid (∀ (a : Int) (V : World), a = (M : Nat) → Calls Tryz.prog 56 #[.int .i64 a] V fun e w' => e = .returned (.string (mtxt M)) ∧ Below V.heap.size V w') := hid fun a V h => markText_int a _ V h (by omega) (by omega)
   obtain ⟨t2, ht2⟩ : ∃ t, mtxt M = t := ⟨_, rfl⟩
   rw [ht2] at HC HT2
   clear ht2
   have e2 : (t2.toList != t2.toList) = false := by simp
   have A3 := fun p : R.Gr wr => (HC.out _ (HLO.out.trans (p.h.mono HLO.out.size))).1.1
   go_wp2_with fail
   have hne2 : Nonempty (R.Gr wr) := ⟨⟨wr, Below.refl _ _⟩⟩
   refine R.wp_region_gr (by kernel_rfl) (by kernel_rfl) ?_
   repeat (go_big_quiet_step (first | (go_at_call 56; refine R.Calls.gr_of (v := .string t2) fun hpw => ?_; exact HT2.out _ _ (by omega))))
   refine wpQuiet_nil ?_
   intro _ hw'
   obtain ⟨pw, rfl⟩ := hw'
   have HL4 := hid (HLO.out.trans (pw.h.mono HLO.out.size))
   obtain ⟨W4, hW4⟩ : ∃ W, pw.W = W := ⟨_, rfl⟩
   rw [hW4] at HL4 ⊢
   clear hW4 A3 hne2
   obtain ⟨⟨c0, c1, c2, c3, c4⟩, _, _⟩ := HC.out _ HL4.out
   have z0 : ((Z : Int) != (Z : Int)) = false := by simp
   have z1 : ((Z : Int) + 1 != (Z : Int) + 1) = false := by simp
   have z2 : ¬ ((Z : Int) < 0) := by omega
   have z3 : ¬ ((T : Int) < 0) := by omega
   go_upto_region 8 with (go_at_call 59; refine (heldI_int (K := M + 1) (n := P) W4 (HC.out _ HL4.out).2.1 hPb (by omega) _ (by omega) HR.out).mono ?_; rintro e w5 ⟨rfl, hw5⟩; have hw6 := hw5.symm; clear hw5; subst hw6)
   go_upto_region 17 with (go_at_call 60; refine (heldN_int (K := Z + 2) (n := I) W4 (HC.out _ HL4.out).2.2 hIb (by omega) (by omega) _ (by omega) HT.out).mono ?_; rintro e w6 ⟨rfl, hb6⟩; have HL6 := hid (HL4.out.trans (hb6.mono HL4.out.size)); clear hb6)
   have HKK : Hid (K + kE (A ++ [x]) = T) := hid (by rw [kE_snoc, HWE.out, HP.out, HI.out]; have := HM.out; have := HR.out; have := HT.out; omega)
   have HAP : Hid (L = (A ++ [x]) ++ C) := hid (by rw [HAC.out]; simp)
   go_wp2
   go_roundw
   case rel => exact ⟨A ++ [x], C, HAP.out, by rw [List.length_append]; go_num, by rw [HKK.out], HL6.out⟩
   case measure => simp [intOf]; omega
end Go.Proofs.YtcjgcipacfcjnaaGreatDoor.C.D
