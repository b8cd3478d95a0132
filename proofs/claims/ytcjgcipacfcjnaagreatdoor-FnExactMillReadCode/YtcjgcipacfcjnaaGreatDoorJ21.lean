import Derived.Deep.RegionLaw
import Derived.Deep.DeepCutAuto
import Derived.OwnWalk
import Derived.Test.YtcjgcipacfcjnaaGreatDoorJ14
import Derived.Test.YtcjgcipacfcjnaaGreatDoorJ13
import Derived.Test.YtcjgcipacfcjnaaGreatDoorJ06
import Derived.Test.YtcjgcipacfcjnaaGreatDoorJ20
namespace Go.Proofs.YtcjgcipacfcjnaaGreatDoor.C
open Go.RowKit
set_option maxRecDepth 20000
structure FXw (w : World) (cv : Value) (W : World) : Prop where
 lo : Below w.heap.size w W
 e : W.heap[w.heap.size]? = some (.cells #[cv] 29)
theorem FXw.start (w : World) (cv : Value) : FXw w cv (w.alloc (.cells #[cv] 29)) := ⟨(Below.refl _ _).alloc (Nat.le_refl _) _, heap_alloc_new _ _⟩
theorem FXw.next {w : World} {cv : Value} {W V : World} (h : FXw w cv W) (hb : Below W.heap.size W V) : FXw w cv V := ⟨h.lo.trans (hb.mono h.lo.size), hp_next h.e hb⟩
theorem notB_of {W : World} {k : Nat} {cs : Array Value} {t : TypeId} {fr : Nat × Nat} (h : W.heap[k]? = some (.cells cs t fr)) (ht : t ≠ 5) : NotB W k := fun cs' fr' e => by rw [h] at e; injection e with e; injection e with _ e; exact ht e
theorem ub_hp {B : Nat} {W V : World} (h : Ub B W V) {k : Nat} {cs : Array Value} {t : TypeId} {fr : Nat × Nat} (e : W.heap[k]? = some (.cells cs t fr)) (ht : t ≠ 5) : V.heap[k]? = some (.cells cs t fr) := (h.block k (lt_hp e) (.inr (notB_of e ht))).trans e
theorem FXw.ub {w : World} {cv : Value} {W V : World} (h : FXw w cv W) (k : Ub w.heap.size W V) : FXw w cv V := ⟨h.lo.trans (k.below h.lo.size), ub_hp k h.e (by decide)⟩
structure FF (w : World) (cv : Value) (b : Nat) (f : Fn) (aP : Option Addr) (cP : Nat) (aI : Option Addr) (cI : Nat) (W : World) : Prop where
 x : FXw w cv W
 fc : W.heap[b]? = some (.cells #[.string f.name, .slice aP f.params.length cP, .int .i64 f.result, .int .i64 f.slots, .slice aI f.ins.length cI] 57 (0, 0))
 p : IntRow W (.slice aP f.params.length cP) f.params
 i : InsRow W (.slice aI f.ins.length cI) f.ins
theorem InsRow.ub {B : Nat} {W V : World} {v : Value} {l : List In} (h : InsRow W v l) (k : Ub B W V) : InsRow V v l := by
 obtain ⟨ad, c, e, h1, h2, h3⟩ := h
 refine ⟨ad, c, e, h1, h2, ?_⟩
 rcases h3 with h3 | ⟨g, cur, e1, e2, e3⟩
 ·exact .inl h3
 ·exact .inr ⟨g, cur, e1, ub_hp k e2 (by decide), e3⟩
theorem IntRow.ub {B : Nat} {W V : World} {v : Value} {l : List Int} (h : IntRow W v l) (k : Ub B W V) : IntRow V v l := h.keep fun _ _ e => k.block _ (lt_hp e) (.inr (notB_of e (by decide)))
theorem FF.ub {w : World} {cv : Value} {b : Nat} {f : Fn} {aP aI : Option Addr} {cP cI : Nat} {W V : World} (h : FF w cv b f aP cP aI cI W) (k : Ub w.heap.size W V) : FF w cv b f aP cP aI cI V := ⟨h.x.ub k, ub_hp k h.fc (by decide), h.p.ub k, h.i.ub k⟩
theorem FF.next {w : World} {cv : Value} {b : Nat} {f : Fn} {aP aI : Option Addr} {cP cI : Nat} {W V : World} (h : FF w cv b f aP cP aI cI W) (hb : Below W.heap.size W V) : FF w cv b f aP cP aI cI V := ⟨h.x.next hb, hp_next h.fc hb, h.p.next hb, h.i.next hb⟩
structure FIw (w : World) (cv : Value) (b : Nat) (f : Fn) (aP : Option Addr) (cP : Nat) (aI : Option Addr) (cI : Nat) (x : Nat) (xv : Array Value) (W : World) : Prop where
 ff : FF w cv b f aP cP aI cI W
 xb : W.heap[x]? = some (.cells xv 84 (0, 0))
theorem FIw.ub {w : World} {cv : Value} {b : Nat} {f : Fn} {aP aI : Option Addr} {cP cI x : Nat} {xv : Array Value} {W V : World} (h : FIw w cv b f aP cP aI cI x xv W) (k : Ub w.heap.size W V) : FIw w cv b f aP cP aI cI x xv V := ⟨h.ff.ub k, ub_hp k h.xb (by decide)⟩
theorem step_enterW {P : Program} {ops : Array Oper} {o : Oper} {a : Act} {w : World} {K : Act → World → Prop} {Q : Exit → Act → World → Prop} {E : Prop} (hg : o.guard = none) {f : FuncId} {vals : Array Value}
  (hx : (execOp a.eval o).run P w = .ok (.enter f vals) w) {Q' : Ending → World → Prop} (hc : Calls P f vals w Q') (h : ∀ e w', Q' e w' → ∃ v, e = .returned v ∧ K (a.put o.dst v) w') :
  if Region.wanted o (yielded ops a.tmps) = true then Oper.wp P o a w K Q else E := by
 have hw : Region.wanted o (yielded ops a.tmps) = true := by simp [Region.wanted, hg]
 rw [if_pos hw]
 unfold Oper.wp
 rw [hx, Oper.upon_enter]
 refine hc.mono fun e w' hq => ?_
 obtain ⟨v, rfl, hk⟩ := h e w' hq
 exact hk
theorem ub_drew {B : Nat} (w : World) : Ub B w w.drew := Ub.of_below (Below.refl _ _).drew
theorem push_len {P X : List UInt8} {n m : Nat} (h : P.length ≤ n) (hx : X.length ≤ m) : (P ++ X).length ≤ n + m := by rw [List.length_append]; omega
structure RW (w : World) (v : Value) (bs : List UInt8) (n : Nat) (W : World) : Prop where
 o : OwnB w.heap.size W v bs
 l : bs.length ≤ n
 b : w.heap.size ≤ W.heap.size
theorem RW.num {w : World} {v : Value} {bs : List UInt8} {m : Nat} {W : World} (h : RW w v bs m W) (hm : m ≤ 900000000) (n : Nat) (a : Int) (ha : a = n) (hn : n < 18446744073709551616) :
  Calls Tryz.prog 33 #[v, .int .u64 a] W fun e W' => ∃ v', e = .returned v' ∧ RW w v' (bs ++ nb n) (m + 10) W' ∧ Ub w.heap.size W W' := by
 refine (l16Number_int n a ha W hn h.o h.b (Nat.le_trans h.l (by omega))).mono ?_
 rintro e W' ⟨v', rfl, h1, h2⟩
 exact ⟨v', rfl, ⟨h1, push_len h.l (nb_10 hn), Nat.le_trans h.b h2.size⟩, h2⟩
theorem RW.txt {w : World} {v : Value} {bs : List UInt8} {m : Nat} {W : World} (h : RW w v bs m W) (hm : m ≤ 900000000) (s : ByteArray) (hs : s.size ≤ 1048576) :
  Calls Tryz.prog 34 #[v, .string s] W fun e W' => ∃ v', e = .returned v' ∧ RW w v' (bs ++ tb s) (m + 1048586) W' ∧ Ub w.heap.size W W' := by
 refine (l16Text_any s W hs h.o h.b (Nat.le_trans h.l hm)).mono ?_
 rintro e W' ⟨v', rfl, h1, h2⟩
 exact ⟨v', rfl, ⟨h1, push_len h.l (Nat.le_trans (tb_len hs) (by omega)), Nat.le_trans h.b h2.size⟩, h2⟩
theorem RW.any {w : World} {v : Value} {bs : List UInt8} {m : Nat} {W : World} (h : RW w v bs m W) : ∃ ad n c, v = .slice ad n c := own_formM h.o
theorem RW.next {w : World} {v : Value} {bs : List UInt8} {m : Nat} {W V : World} (h : RW w v bs m W) (hb : Below W.heap.size W V) : RW w v bs m V := ⟨own_next h.o hb, h.l, Nat.le_trans h.b hb.size⟩
theorem RW.le {w : World} {v : Value} {bs : List UInt8} {m m' : Nat} {W : World} (h : RW w v bs m W) (hm : bs.length ≤ m') : RW w v bs m' W := ⟨h.o, hm, h.b⟩
theorem u64_conv (x : Int) : IntKind.u64.wrap x = ((uOf x : Nat) : Int) := by
 rw [u64_cast, IntKind.wrap_u64]
theorem hdF_eq (f : Fn) (P : List UInt8) : P ++ tb f.name ++ nb f.params.length ++ parF f.params ++ nb (uOf f.result) ++ nb (uOf f.slots) ++ nb f.ins.length = P ++ hdF f := by
 unfold hdF
 simp [List.append_assoc]
set_option maxHeartbeats 16000000 in
theorem form_any {fns : List Fn} {w : World} {cv : Value} (h1 : FnsRow w cv fns) (hW : R.wSFn fns fns.length ≤ 1048576) :
  Calls Tryz.prog 16 #[.agg #[cv]] w fun e w' => ∃ v, e = .returned v ∧ OwnB w.heap.size w' v (formF fns) ∧ Below w.heap.size w w' := by
 obtain ⟨i0, hi, hz0, hz1, hz2⟩ := info_parts (P := Tryz.prog) (e := 5) (z := .int .u8 0) (size := 1) (bytes := 1) (by kernel_rfl)
 have HHI := hid (And.intro hi (And.intro hz0 (And.intro hz1 hz2)))
 have H1 := hid h1
 have HWF := hid hW
 have HLF := hid (R.loFnS_of hW)
 have hll : fns.length ≤ 1048576 := HLF.out.1
 have HFL := hid (fnsF_len hW)
 obtain ⟨aF, cF, hcv⟩ := h1.sl
 subst hcv
 clear h1 hi hz0 hz1 hz2 hW
 have HX0 := hid (FXw.start w (.slice aF fns.length cF))
 have hsb : (⟨#[109, 105, 108, 108, 49]⟩ : ByteArray).size = 5 := rfl
 go_enter Tryz.func16, Tryz.ntmps16
 go_upto_region 1 with fail
 obtain ⟨W0, hW0⟩ : ∃ W, w.alloc (.cells #[.slice aF fns.length cF] 29) = W := ⟨_, rfl⟩
 rw [hW0] at HX0 ⊢
 clear hW0
 have HX1 := hid (HX0.out.next ((Below.refl W0.heap.size W0).alloc (Nat.le_refl _) (.cells #[] 5)))
 have HOL : Hid ((W0.alloc (.cells #[] 5)).ownsRow w.heap.size 5 1 (.slice (some ⟨W0.heap.size, 0, none⟩) 0 0) 0 []) := hid ⟨rfl, .inr ⟨W0.heap.size, 0, #[], rfl, HX0.out.lo.size, heap_alloc_new _ _, Nat.le_refl _, Nat.zero_le _, rfl, rfl⟩⟩
 have HBA : Hid (w.heap.size ≤ (W0.alloc (.cells #[] 5)).heap.size) := hid HX1.out.lo.size
 go_upto_region 2 with (at_builtin; refine Lib.wpList_append_own_string _ rfl _ _ 39 9 rfl w.heap.size 5 i0 Tryz.underlying39 Tryz.underlying9 HHI.out.1 HHI.out.2.1 HHI.out.2.2.1 HHI.out.2.2.2 (.slice (some ⟨W0.heap.size, 0, none⟩) 0 0) 0 [] rfl HOL.out ⟨#[109, 105, 108, 108, 49]⟩ rfl (by decide) (by decide) HBA.out ?_; intro v9 w9 o9 g9 _; have HU9 := hid ((Ub.refl w.heap.size (W0.alloc (.cells #[] 5))).grown HOL.out g9); have HR9 : Hid (RW w v9 begF 5 w9) := hid ⟨(show OwnB w.heap.size w9 v9 ([] ++ begF) from own_str (bs := []) (s := ⟨#[109, 105, 108, 108, 49]⟩) o9), Nat.le_refl _, Nat.le_trans HBA.out HU9.out.size⟩; obtain ⟨a9, m9, c9, rfl⟩ := HR9.out.any; have HX9 := hid (HX1.out.ub HU9.out); clear o9 g9 HU9)
 have k0 : w9.cell? ⟨w.heap.size, 0, none⟩ = some (.slice aF fns.length cF) := R.row_cell HX9.out.e 0
 go_upto_region 3 with (go_at_call 33; refine (HR9.out.num (by omega) fns.length _ (by first | rfl | (rw [IntKind.wrap_u64]; omega)) (by omega)).mono ?_; rintro e w10 ⟨v10, rfl, hr10, hu10⟩; have HR10 := hid hr10; have HX10 := hid (HX9.out.ub hu10); obtain ⟨a10, m10, c10, rfl⟩ := hr10.any; clear hr10 hu10)
 clear k0 HX0 HX1 HOL HBA HR9 HX9
 have HR11 : Hid (RW w (.slice a10 m10 c10) (begF ++ nb fns.length ++ fnsF (fns.take 0)) 90000000 w10) := hid (by
  have h := HR10.out
  have e : begF ++ nb fns.length ++ fnsF (fns.take 0) = begF ++ nb fns.length := by simp [fnsF]
  rw [e]
  exact h.le (Nat.le_trans h.l (by omega)))
 clear HR10
 go_wp2
 go_loopw [3, 4, 5, 6, 7, 8] (fun u i _ _ _ _ wr => ∃ k : Nat, k ≤ fns.length ∧ i = .int .i64 k ∧ FXw w (.slice aF fns.length cF) wr ∧ RW w u (begF ++ nb fns.length ++ fnsF (fns.take k)) 90000000 wr) (fun _ i _ _ _ _ _ => fns.length - (intOf i).toNat)
 case atStart => exact ⟨0, Nat.zero_le _, rfl, HX10.out, HR11.out⟩
 case round =>
  obtain ⟨k, hk, rfl, hx, hr⟩ := hrel
  have HX := hid hx
  have HR := hid hr
  obtain ⟨ao, mo, co, rfl⟩ := hr.any
  clear hx hr HR11 HX10
  have k0 : wr.cell? ⟨w.heap.size, 0, none⟩ = some (.slice aF fns.length cF) := R.row_cell HX.out.e 0
  by_cases hlt : k < fns.length
  ·have HNX := hid (fnsF_next hlt)
   have HWK : Hid (R.wFn (fns.getD k fn0) ≤ 1048576) := hid (by have := R.wSFn_at fns hlt; have := HWF.out; omega)
   have HL2 := hid (HFL.out (k + 1) (by omega))
   have HWM : Hid (R.wSFn fns (k + 1) ≤ 1048576) := hid (Nat.le_trans (R.wSFn_mono fns (by omega)) HWF.out)
   obtain ⟨gF, cF2, e9, hgF, pv, iv, n0, n1, n2, n3, n4, hpv, hiv⟩ := (H1.out.next HX.out.lo).at hlt
   injection e9 with ea _ ec
   subst ea ec
   obtain ⟨P, hP⟩ : ∃ P, begF ++ nb fns.length ++ fnsF (fns.take k) = P := ⟨_, rfl⟩
   have HPE : Hid (begF ++ nb fns.length ++ fnsF (fns.take (k + 1)) = P ++ fnF (fns.getD k fn0)) := hid (by rw [HNX.out, ← hP]; simp [List.append_assoc])
   have HPL : Hid ((P ++ fnF (fns.getD k fn0)).length ≤ 90000000) := hid (by
    rw [← HPE.out, List.length_append, List.length_append]
    have h1 := HL2.out
    have h2 := HWM.out
    have h3 := nb_10 (n := fns.length) (by omega)
    have h4 : begF.length = 5 := rfl
    omega)
   rw [hP] at HR
   clear hP HNX HL2 HWM
   obtain ⟨f, hf⟩ : ∃ f, fns.getD k fn0 = f := ⟨_, rfl⟩
   rw [hf] at n0 n2 n3 hpv hiv HWK HPE HPL
   clear hf
   have HPV := hid hpv
   have HIV := hid hiv
   obtain ⟨aP, cP, rfl⟩ := hpv.sl
   obtain ⟨aI, cI, rfl⟩ := hiv.sl
   have HSI := hid (R.wSIn_ge f.ins f.ins.length)
   have hw4 : f.name.size ≤ 1048576 ∧ f.params.length ≤ 1048576 ∧ f.ins.length ≤ 1048576 := by
    have h := HWK.out
    have h2 := HSI.out
    simp only [R.wFn] at h
    omega
   obtain ⟨hnm, hpn, hin⟩ := hw4
   have HTX : Hid (∀ i, i < f.ins.length → (f.ins.getD i in0).text.size ≤ 1048576) := hid (wSIn_text (by have h := HWK.out; simp only [R.wFn] at h; omega))
   have HIL := hid (inssF_len HTX.out)
   have HWI : Hid (R.wSIn f.ins f.ins.length ≤ 1048576) := hid (by have h := HWK.out; simp only [R.wFn] at h; omega)
   clear hpv hiv HSI
   go_upto_region 7 with fail
   have HB1 := hid ((Below.refl wr.heap.size wr).alloc (Nat.le_refl _) (.cells #[.string f.name, .slice aP f.params.length cP, .int .i64 f.result, .int .i64 f.slots, .slice aI f.ins.length cI] 57))
   have HF1 : Hid (FF w (.slice (some ⟨gF, 0, none⟩) fns.length cF) wr.heap.size f aP cP aI cI (wr.alloc (.cells #[.string f.name, .slice aP f.params.length cP, .int .i64 f.result, .int .i64 f.slots, .slice aI f.ins.length cI] 57))) := hid ⟨HX.out.next HB1.out, heap_alloc_new _ _, HPV.out.next HB1.out, HIV.out.next HB1.out⟩
   have HR1 := hid (HR.out.next HB1.out)
   obtain ⟨fb, hfb⟩ : ∃ b, wr.heap.size = b := ⟨_, rfl⟩
   obtain ⟨W1, hW1⟩ : ∃ W, wr.alloc (.cells #[.string f.name, .slice aP f.params.length cP, .int .i64 f.result, .int .i64 f.slots, .slice aI f.ins.length cI] 57) = W := ⟨_, rfl⟩
   rw [hW1] at HF1 HR1 ⊢
   rw [hfb] at HF1 ⊢
   clear hW1 hfb k0 n0 n1 n2 n3 n4 HB1 HPV HIV HX HR
   have hwp : IntKind.u64.wrap (f.params.length : Int) = (f.params.length : Int) := by rw [IntKind.wrap_u64]; omega
   have HTN := hid (fun V (hV : RW w (.slice ao mo co) P 90000000 V) => hV.txt (by omega) f.name hnm)
   have q0 : W1.cell? ⟨fb, 0, none⟩ = some (.string f.name) := R.row_cell HF1.out.fc 0
   have q1 : W1.cell? ⟨fb, 1, none⟩ = some (.slice aP f.params.length cP) := R.row_cell HF1.out.fc 1
   go_cut [3] (fun v wx => RW w v (P ++ tb f.name ++ nb f.params.length) 91048596 wx ∧ FF w (.slice (some ⟨gF, 0, none⟩) fns.length cF) fb f aP cP aI cI wx)
   case first =>
    go_region_law (first
     | (refine step_enterW rfl (f := 34) (vals := #[.slice ao mo co, .string f.name]) (by kernel_rfl) (HTN.out _ (HR1.out.next (Below.refl _ _).drew)) ?_; intro e w7 hq7; obtain ⟨v7, rfl, hr7, hu7⟩ := hq7; refine ⟨_, rfl, ?_⟩; have HR7 := hid hr7; have HU7 : Hid (Ub w.heap.size W1 w7) := hid ((ub_drew W1).trans hu7); have HF7 := hid (HF1.out.ub HU7.out); obtain ⟨a7, m7, c7, rfl⟩ := hr7.any; have q7 : w7.cell? ⟨fb, 1, none⟩ = some (.slice aP f.params.length cP) := R.row_cell HF7.out.fc 1; clear hr7 hu7)
     | (refine step_enterW rfl (f := 33) (vals := #[.slice a7 m7 c7, .int .u64 (f.params.length : Nat)]) (by kernel_rfl) (HR7.out.num (by omega) f.params.length _ rfl (by omega)) ?_; intro e w8 hq8; obtain ⟨v8, rfl, hr8, hu8⟩ := hq8; refine ⟨_, rfl, ?_⟩; have HR8 := hid hr8; have HU8 := hid hu8; have HF8 := hid (HF7.out.ub hu8); obtain ⟨a8, m8, c8, rfl⟩ := hr8.any; clear hr8 hu8))
    all_goals
     go_wp2_with fail
     go_meet
     case rel => exact ⟨HR8.out, HF8.out⟩
   case rest =>
    obtain ⟨hr8, hf8⟩ := hcut
    have HR8 := hid hr8
    have HF8 := hid hf8
    obtain ⟨a8, m8, c8, rfl⟩ := hr8.any
    have q2 : _ = some (Value.slice aP f.params.length cP) := R.row_cell hf8.fc 1
    clear hr8 hf8 HF1 HR1 HTN q0 q1
    have HR9 : Hid (RW w (.slice a8 m8 c8) (P ++ tb f.name ++ nb f.params.length ++ parF (f.params.take 0)) 101600000 _) := hid (by
     have e : P ++ tb f.name ++ nb f.params.length ++ parF (f.params.take 0) = P ++ tb f.name ++ nb f.params.length := by simp [parF]
     rw [e]
     exact HR8.out.le (Nat.le_trans HR8.out.l (by omega)))
    have HQL : Hid ((P ++ tb f.name ++ nb f.params.length).length ≤ 91048596) := hid HR8.out.l
    obtain ⟨Q1, hQ1⟩ : ∃ Q, P ++ tb f.name ++ nb f.params.length = Q := ⟨_, rfl⟩
    have HQ1 := hid hQ1
    rw [hQ1] at HR9 HQL
    clear hQ1 HR8
    go_wp2
    clear q2
    go_loopw [3, 6] (fun u i wr2 => ∃ j : Nat, j ≤ f.params.length ∧ i = .int .i64 j ∧ FF w (.slice (some ⟨gF, 0, none⟩) fns.length cF) fb f aP cP aI cI wr2 ∧ RW w u (Q1 ++ parF (f.params.take j)) 101600000 wr2) (fun _ i _ => f.params.length - (intOf i).toNat)
    case atStart => exact ⟨0, Nat.zero_le _, rfl, HF8.out, HR9.out⟩
    case round =>
     obtain ⟨j, hj, rfl, hf9, hr9⟩ := hrel
     have HF9 := hid hf9
     have HR10 := hid hr9
     obtain ⟨a9, m9, c9, rfl⟩ := hr9.any
     have q2 : _ = some (Value.slice aP f.params.length cP) := R.row_cell hf9.fc 1
     have q3 : _ = some (Value.int .i64 f.result) := R.row_cell hf9.fc 2
     clear hf9 hr9 HF8 HR9
     by_cases hlt2 : j < f.params.length
     ·obtain ⟨gP, cP2, e9, _, _, _, hcell⟩ := HF9.out.p.at hlt2
      injection e9 with ea _ ec
      subst ea
      have hcj := hcell j hlt2
      have HNP := hid (parF_next hlt2)
      have HNL := hid (parF_take f.params (j + 1))
      obtain ⟨x, hx⟩ : ∃ x, f.params.getD j 0 = x := ⟨_, rfl⟩
      rw [hx] at hcj HNP
      have hcv := u64_conv x
      clear hx hcell
      go_wp2_with fail
      refine (HR10.out.num (by omega) (uOf x) _ (by first | rfl | omega) (u64_lt x)).mono ?_
      rintro e w11 ⟨v11, rfl, hr11, hu11⟩
      have HF11 := hid (HF9.out.ub hu11)
      have HR11 : Hid (RW w v11 (Q1 ++ parF (f.params.take (j + 1))) 101600000 w11) := hid (by
       have h := hr11
       rw [List.append_assoc, ← HNP.out] at h
       refine h.le ?_
       rw [List.length_append]
       have h1 := HNL.out
       have h2 := HQL.out
       omega)
      obtain ⟨a11, m11, c11, rfl⟩ := hr11.any
      clear hr11 hu11 q2 q3
      go_wp2
      go_roundw
      case rel => exact ⟨j + 1, by omega, by go_num, HF11.out, HR11.out⟩
      case measure => simp [intOf]; omega
     ·obtain rfl : j = f.params.length := by omega
      rw [List.take_length] at HR10
      obtain ⟨Q2, hQ2⟩ : ∃ Q, Q1 ++ parF f.params = Q := ⟨_, rfl⟩
      have HQ2 := hid hQ2
      rw [hQ2] at HR10
      have hc2 := u64_conv f.result
      have hc3 := u64_conv f.slots
      have hwi : IntKind.u64.wrap (f.ins.length : Int) = (f.ins.length : Int) := by rw [IntKind.wrap_u64]; omega
      clear hQ2
      go_wp2_with fail
      refine (HR10.out.num (by omega) (uOf f.result) _ (by first | rfl | omega) (u64_lt _)).mono ?_
      rintro e w12 ⟨v12, rfl, hr12, hu12⟩
      have HF12 := hid (HF9.out.ub hu12)
      have HR12 := hid hr12
      obtain ⟨a12, m12, c12, rfl⟩ := hr12.any
      clear hr12 hu12 q2 q3
      have q4 : w12.cell? ⟨fb, 3, none⟩ = some (.int .i64 f.slots) := R.row_cell HF12.out.fc 3
      go_wp2_with fail
      refine (HR12.out.num (by omega) (uOf f.slots) _ (by first | rfl | omega) (u64_lt _)).mono ?_
      rintro e w13 ⟨v13, rfl, hr13, hu13⟩
      have HF13 := hid (HF12.out.ub hu13)
      have HR13 := hid hr13
      obtain ⟨a13, m13, c13, rfl⟩ := hr13.any
      clear hr13 hu13 q4
      have q5 : w13.cell? ⟨fb, 4, none⟩ = some (.slice aI f.ins.length cI) := R.row_cell HF13.out.fc 4
      go_wp2_with fail
      refine (HR13.out.num (by omega) f.ins.length _ (by first | rfl | omega) (by omega)).mono ?_
      rintro e w14 ⟨v14, rfl, hr14, hu14⟩
      have HF14 := hid (HF13.out.ub hu14)
      have HR14 : Hid (RW w v14 (P ++ hdF f ++ inssF (f.ins.take 0)) 140000000 w14) := hid (by
       have h := hr14
       rw [← HQ2.out, ← HQ1.out, hdF_eq] at h
       have e : P ++ hdF f ++ inssF (f.ins.take 0) = P ++ hdF f := by simp [inssF]
       rw [e]
       exact h.le (Nat.le_trans h.l (by omega)))
      have HHL : Hid ((P ++ hdF f).length ≤ 102000000) := hid (by
       have h := hr14
       rw [← HQ2.out, ← HQ1.out, hdF_eq] at h
       exact Nat.le_trans h.l (by omega))
      obtain ⟨a14, m14, c14, rfl⟩ := hr14.any
      clear hr14 hu14 q5 HR10 HR12 HR13 HF9 HF12 HF13 HQ1 HQ2
      go_wp2
      go_loopw [3, 7, 8] (fun u i _ wr3 => ∃ j : Nat, j ≤ f.ins.length ∧ i = .int .i64 j ∧ FF w (.slice (some ⟨gF, 0, none⟩) fns.length cF) fb f aP cP aI cI wr3 ∧ RW w u (P ++ hdF f ++ inssF (f.ins.take j)) 140000000 wr3) (fun _ i _ _ => f.ins.length - (intOf i).toNat)
      case atStart => exact ⟨0, Nat.zero_le _, rfl, HF14.out, HR14.out⟩
      case round =>
       obtain ⟨j, hj3, rfl, hf15, hr15⟩ := hrel
       have HF15 := hid hf15
       have HR15 := hid hr15
       obtain ⟨a15, m15, c15, rfl⟩ := hr15.any
       have q6 : _ = some (Value.slice aI f.ins.length cI) := R.row_cell hf15.fc 4
       clear hf15 hr15 HF14 HR14
       by_cases hlt3 : j < f.ins.length
       ·obtain ⟨gI, cI2, e9, hgI, hcell⟩ := HF15.out.i.at hlt3
        injection e9 with ea _ ec
        subst ea ec
        obtain ⟨z0, z1, z2, z3⟩ := hcell j hlt3
        have HIN := hid (inssF_next hlt3)
        have HIB : Hid ((P ++ hdF f ++ inssF (f.ins.take (j + 1))).length ≤ 140000000) := hid (by
         rw [List.length_append]
         have h1 := HIL.out (j + 1) (by omega)
         have h2 := R.wSIn_mono f.ins (show j + 1 ≤ f.ins.length by omega)
         have h3 := HWI.out
         have h4 := HHL.out
         omega)
        have htx := HTX.out j hlt3
        obtain ⟨⟨op, a, n, tx⟩, hx⟩ : ∃ x, f.ins.getD j in0 = x := ⟨_, rfl⟩
        rw [hx] at z0 z1 z2 z3 HIN htx
        clear hx hcell
        dsimp only at z0 z1 z2 z3 htx
        have hcv0 := u64_conv op
        have hcv1 := u64_conv a
        have hcv2 := u64_conv n
        go_upto_region 19 with fail
        have HBX := hid ((Below.refl wr.heap.size wr).alloc (Nat.le_refl _) (.cells #[.int .i64 op, .int .i64 a, .int .i64 n, .string tx] 84))
        have HI19 : Hid (FIw w (.slice (some ⟨gF, 0, none⟩) fns.length cF) fb f aP cP (some ⟨gI, 0, none⟩) cI wr.heap.size #[.int .i64 op, .int .i64 a, .int .i64 n, .string tx] (wr.alloc (.cells #[.int .i64 op, .int .i64 a, .int .i64 n, .string tx] 84))) := hid ⟨HF15.out.next HBX.out, heap_alloc_new _ _⟩
        have HR19 := hid (HR15.out.next HBX.out)
        obtain ⟨xb, hxb⟩ : ∃ b, wr.heap.size = b := ⟨_, rfl⟩
        obtain ⟨W19, hW19⟩ : ∃ W, wr.alloc (.cells #[.int .i64 op, .int .i64 a, .int .i64 n, .string tx] 84) = W := ⟨_, rfl⟩
        rw [hW19] at HI19 HR19 ⊢
        rw [hxb] at HI19 ⊢
        clear hW19 hxb z0 z1 z2 z3 q6 HBX HF15 HR15
        by_cases hop : op = 1
        ·subst hop
         have hA : hasA 1 = true := by decide
         have hop : True := trivial
         by_cases ha : a = 2
         ·subst ha
          have q20 : _ = some (Value.int .i64 1) := R.row_cell HI19.out.xb 0
          go_wp2_with fail
          refine (HR19.out.num (by omega) (uOf 1) _ (by first | rfl | omega) (u64_lt _)).mono ?_
          rintro e w20 ⟨v20, rfl, hr20, hu20⟩
          have HI20 := hid (HI19.out.ub hu20)
          have HR20 := hid hr20
          obtain ⟨a20, m20, c20, rfl⟩ := hr20.any
          clear hr20 hu20 q20
          have y0 : w20.cell? ⟨xb, 0, none⟩ = some (.int .i64 1) := R.row_cell HI20.out.xb 0
          have y1 : w20.cell? ⟨xb, 1, none⟩ = some (.int .i64 2) := R.row_cell HI20.out.xb 1
          go_wp2_with (go_at_call 35; refine (hasA_any _ _).mono ?_; rintro e w' ⟨rfl, hw⟩; have hw9 := hw.symm; clear hw; subst hw9; rw [hA])
          refine (HR20.out.num (by omega) (uOf 2) _ (by first | rfl | omega) (u64_lt _)).mono ?_
          rintro e w21 ⟨v21, rfl, hr21, hu21⟩
          have HI21 := hid (HI20.out.ub hu21)
          have HR21 := hid hr21
          obtain ⟨a21, m21, c21, rfl⟩ := hr21.any
          clear hr21 hu21 y0 y1
          have y0 : w21.cell? ⟨xb, 0, none⟩ = some (.int .i64 1) := R.row_cell HI21.out.xb 0
          have y1 : w21.cell? ⟨xb, 1, none⟩ = some (.int .i64 2) := R.row_cell HI21.out.xb 1
          have y3 : w21.cell? ⟨xb, 3, none⟩ = some (.string tx) := R.row_cell HI21.out.xb 3
          go_wp2_with fail
          refine (HR21.out.txt (by omega) tx htx).mono ?_
          rintro e w22 ⟨v22, rfl, hr22, hu22⟩
          have HI22 := hid (HI21.out.ub hu22)
          have HR22 := hid hr22
          obtain ⟨a22, m22, c22, rfl⟩ := hr22.any
          clear hr22 hu22 y0 y1 y3
          have HR23 : Hid (RW w (.slice a22 m22 c22) (P ++ hdF f ++ inssF (f.ins.take (j + 1))) 140000000 w22) := hid (by
           have h := HR22.out
           have e : P ++ hdF f ++ inssF (f.ins.take (j + 1)) = ((P ++ hdF f ++ inssF (f.ins.take j) ++ nb (uOf 1) ++ nb (uOf 2)) ++ tb tx) := by
            rw [HIN.out]
            simp [insF, hA, List.append_assoc]
           rw [e]
           refine h.le ?_
           rw [← e]
           exact HIB.out)
          go_wp2
          go_roundw
          case rel => exact ⟨j + 1, by omega, by go_num, HI22.out.ff, HR23.out⟩
          case measure => simp [intOf]; omega
         ·have ha1 : (a == 2) = false := by simpa using ha
          have q20 : _ = some (Value.int .i64 1) := R.row_cell HI19.out.xb 0
          go_wp2_with fail
          refine (HR19.out.num (by omega) (uOf 1) _ (by first | rfl | omega) (u64_lt _)).mono ?_
          rintro e w20 ⟨v20, rfl, hr20, hu20⟩
          have HI20 := hid (HI19.out.ub hu20)
          have HR20 := hid hr20
          obtain ⟨a20, m20, c20, rfl⟩ := hr20.any
          clear hr20 hu20 q20
          have y0 : w20.cell? ⟨xb, 0, none⟩ = some (.int .i64 1) := R.row_cell HI20.out.xb 0
          have y1 : w20.cell? ⟨xb, 1, none⟩ = some (.int .i64 a) := R.row_cell HI20.out.xb 1
          go_wp2_with (go_at_call 35; refine (hasA_any _ _).mono ?_; rintro e w' ⟨rfl, hw⟩; have hw9 := hw.symm; clear hw; subst hw9; rw [hA])
          refine (HR20.out.num (by omega) (uOf a) _ (by first | rfl | omega) (u64_lt _)).mono ?_
          rintro e w21 ⟨v21, rfl, hr21, hu21⟩
          have HI21 := hid (HI20.out.ub hu21)
          have HR21 := hid hr21
          obtain ⟨a21, m21, c21, rfl⟩ := hr21.any
          clear hr21 hu21 y0 y1
          have y0 : w21.cell? ⟨xb, 0, none⟩ = some (.int .i64 1) := R.row_cell HI21.out.xb 0
          have y1 : w21.cell? ⟨xb, 1, none⟩ = some (.int .i64 a) := R.row_cell HI21.out.xb 1
          have y3 : w21.cell? ⟨xb, 2, none⟩ = some (.int .i64 n) := R.row_cell HI21.out.xb 2
          go_wp2_with fail
          refine (HR21.out.num (by omega) (uOf n) _ (by first | rfl | omega) (u64_lt _)).mono ?_
          rintro e w22 ⟨v22, rfl, hr22, hu22⟩
          have HI22 := hid (HI21.out.ub hu22)
          have HR22 := hid hr22
          obtain ⟨a22, m22, c22, rfl⟩ := hr22.any
          clear hr22 hu22 y0 y1 y3
          have HR23 : Hid (RW w (.slice a22 m22 c22) (P ++ hdF f ++ inssF (f.ins.take (j + 1))) 140000000 w22) := hid (by
           have h := HR22.out
           have e : P ++ hdF f ++ inssF (f.ins.take (j + 1)) = ((P ++ hdF f ++ inssF (f.ins.take j) ++ nb (uOf 1) ++ nb (uOf a)) ++ nb (uOf n)) := by
            rw [HIN.out]
            simp [insF, ha, hA, List.append_assoc]
           rw [e]
           refine h.le ?_
           rw [← e]
           exact HIB.out)
          go_wp2
          go_roundw
          case rel => exact ⟨j + 1, by omega, by go_num, HI22.out.ff, HR23.out⟩
          case measure => simp [intOf]; omega
        ·have hop1 : (op == 1) = false := by simpa using hop
         by_cases hA : hasA op = true
         ·have q20 : _ = some (Value.int .i64 op) := R.row_cell HI19.out.xb 0
          go_wp2_with fail
          refine (HR19.out.num (by omega) (uOf op) _ (by first | rfl | omega) (u64_lt _)).mono ?_
          rintro e w20 ⟨v20, rfl, hr20, hu20⟩
          have HI20 := hid (HI19.out.ub hu20)
          have HR20 := hid hr20
          obtain ⟨a20, m20, c20, rfl⟩ := hr20.any
          clear hr20 hu20 q20
          have y0 : w20.cell? ⟨xb, 0, none⟩ = some (.int .i64 op) := R.row_cell HI20.out.xb 0
          have y1 : w20.cell? ⟨xb, 1, none⟩ = some (.int .i64 a) := R.row_cell HI20.out.xb 1
          go_wp2_with (go_at_call 35; refine (hasA_any _ _).mono ?_; rintro e w' ⟨rfl, hw⟩; have hw9 := hw.symm; clear hw; subst hw9; rw [hA])
          refine (HR20.out.num (by omega) (uOf a) _ (by first | rfl | omega) (u64_lt _)).mono ?_
          rintro e w21 ⟨v21, rfl, hr21, hu21⟩
          have HI21 := hid (HI20.out.ub hu21)
          have HR21 := hid hr21
          obtain ⟨a21, m21, c21, rfl⟩ := hr21.any
          clear hr21 hu21 y0 y1
          have y0 : w21.cell? ⟨xb, 0, none⟩ = some (.int .i64 op) := R.row_cell HI21.out.xb 0
          have y1 : w21.cell? ⟨xb, 1, none⟩ = some (.int .i64 a) := R.row_cell HI21.out.xb 1
          have HR23 : Hid (RW w (.slice a21 m21 c21) (P ++ hdF f ++ inssF (f.ins.take (j + 1))) 140000000 w21) := hid (by
           have h := HR21.out
           have e : P ++ hdF f ++ inssF (f.ins.take (j + 1)) = (P ++ hdF f ++ inssF (f.ins.take j) ++ nb (uOf op) ++ nb (uOf a)) := by
            rw [HIN.out]
            simp [insF, hop, hA, List.append_assoc]
           rw [e]
           refine h.le ?_
           rw [← e]
           exact HIB.out)
          go_wp2
          go_roundw
          case rel => exact ⟨j + 1, by omega, by go_num, HI21.out.ff, HR23.out⟩
          case measure => simp [intOf]; omega
         ·have hA : hasA op = false := by simpa using hA
          have q20 : _ = some (Value.int .i64 op) := R.row_cell HI19.out.xb 0
          go_wp2_with fail
          refine (HR19.out.num (by omega) (uOf op) _ (by first | rfl | omega) (u64_lt _)).mono ?_
          rintro e w20 ⟨v20, rfl, hr20, hu20⟩
          have HI20 := hid (HI19.out.ub hu20)
          have HR20 := hid hr20
          obtain ⟨a20, m20, c20, rfl⟩ := hr20.any
          clear hr20 hu20 q20
          have y0 : w20.cell? ⟨xb, 0, none⟩ = some (.int .i64 op) := R.row_cell HI20.out.xb 0
          have y1 : w20.cell? ⟨xb, 1, none⟩ = some (.int .i64 a) := R.row_cell HI20.out.xb 1
          have HR23 : Hid (RW w (.slice a20 m20 c20) (P ++ hdF f ++ inssF (f.ins.take (j + 1))) 140000000 w20) := hid (by
           have h := HR20.out
           have e : P ++ hdF f ++ inssF (f.ins.take (j + 1)) = P ++ hdF f ++ inssF (f.ins.take j) ++ nb (uOf op) := by
            rw [HIN.out]
            simp [insF, hop, hA, List.append_assoc]
           rw [e]
           refine h.le ?_
           rw [← e]
           exact HIB.out)
          go_wp2_with (go_at_call 35; refine (hasA_any _ _).mono ?_; rintro e w' ⟨rfl, hw⟩; have hw9 := hw.symm; clear hw; subst hw9; rw [hA])
          go_roundw
          case rel => exact ⟨j + 1, by omega, by go_num, HI20.out.ff, HR23.out⟩
          case measure => simp [intOf]; omega
       ·obtain rfl : j = f.ins.length := by omega
        rw [List.take_length] at HR15
        have HR16 : Hid (RW w (.slice a15 m15 c15) (begF ++ nb fns.length ++ fnsF (fns.take (k + 1))) 90000000 wr) := hid (by
         have h := HR15.out
         rw [HPE.out]
         have e : P ++ hdF f ++ inssF f.ins = P ++ fnF f := by unfold fnF; rw [List.append_assoc]
         rw [e] at h
         exact h.le HPL.out)
        have HX16 := hid HF15.out.x
        go_wp2
        go_roundw
        case rel => exact ⟨k + 1, by omega, by go_num, HX16.out, HR16.out⟩
        case measure => simp [intOf]; omega
  ·obtain rfl : k = fns.length := by omega
   rw [List.take_length] at HR
   have HE : Hid (OwnB w.heap.size wr (.slice ao mo co) (formF fns)) := hid (by
    have h := HR.out.o
    unfold formF
    rw [← List.append_assoc]
    exact h)
   go_wp2
   go_ret
   exact ⟨_, rfl, HE.out, HX.out.lo⟩
def PartA (W : World) (v : Value) (l : List Int) : Prop := ∃ (ad : Option Addr) (c : Nat), v = .slice ad l.length c ∧ (l = [] ∨ ∃ ka : Addr, ad = some ka ∧ ka.block < W.heap.size ∧ ∀ i, i < l.length → W.cell? (ka.add i) = some (.int .i64 (l.getD i 0)))
theorem add_block (a : Addr) (i : Nat) : (a.add i).block = a.block := by
 unfold Addr.add
 split <;> rfl
theorem PartA.next {W V : World} {v : Value} {l : List Int} (h : PartA W v l) (hb : Below W.heap.size W V) : PartA V v l := by
 obtain ⟨ad, c, e, h1⟩ := h
 refine ⟨ad, c, e, ?_⟩
 rcases h1 with h1 | ⟨ka, e1, e2, e3⟩
 ·exact .inl h1
 ·exact .inr ⟨ka, e1, Nat.lt_of_lt_of_le e2 hb.size, fun i hi => (hb.cell (p := ka.add i) (by rw [add_block]; exact e2)).trans (e3 i hi)⟩
theorem PartA.sl {W : World} {v : Value} {l : List Int} (h : PartA W v l) : ∃ ad c, v = .slice ad l.length c := by
 obtain ⟨ad, c, e, _⟩ := h
 exact ⟨ad, c, e⟩
theorem PartA.at {W : World} {v : Value} {l : List Int} (h : PartA W v l) {i : Nat} (hi : i < l.length) : ∃ ka c, v = .slice (some ka) l.length c ∧ W.cell? (ka.add i) = some (.int .i64 (l.getD i 0)) := by
 obtain ⟨ad, c, e, h1⟩ := h
 rcases h1 with h1 | ⟨ka, e1, e2, e3⟩
 ·rw [h1] at hi; exact absurd hi (Nat.not_lt_zero _)
 ·subst e1
  exact ⟨ka, c, e, e3 i hi⟩
def takesT (o : Nat) : List Int := if o = 3 ∨ o = 4 ∨ o = 5 then [-2] else if o = 6 then [-2, -2] else if o = 7 then [-1] else if o = 11 then [1] else if o = 13 ∨ o = 15 then [2] else if o = 14 then [2, 2] else []
def putsT (o : Nat) : Int := if o = 1 ∨ o = 7 then 1 else if o = 2 then 2 else if o = 5 then 3 else if o = 6 then 4 else if o = 8 then 5 else if o = 9 then 6 else 0
def useT (o : Nat) : Int := if o = 1 then 1 else if o = 2 ∨ o = 3 then 2 else if o = 5 then 3 else if o = 6 then 4 else if o = 7 then 5 else if o = 8 then 6 else if o = 9 then 7 else if o = 10 ∨ o = 11 then 8 else if o = 12 then 9 else 0
structure EnvI (W : World) : Prop where
 lt1 : 3 < W.heap.size
 lt2 : 6 < W.heap.size
 rows : ∀ o : Nat, 1 ≤ o → o ≤ 16 → ∃ v, W.cell? ⟨3, o * 3, none⟩ = some (.int .i64 (useT o)) ∧ W.cell? ⟨3, o * 3 + 1, none⟩ = some v ∧ W.cell? ⟨3, o * 3 + 2, none⟩ = some (.int .i64 (putsT o)) ∧ PartA W v (takesT o)
 signs : ∀ k : Nat, 1 ≤ k → k ≤ 12 → ∃ v, W.cell? ⟨6, k * 2, none⟩ = some v ∧ W.cell? ⟨6, k * 2 + 1, none⟩ = some (.int .i64 (sig k).2) ∧ PartA W v (sig k).1
theorem EnvI.next {W V : World} (h : EnvI W) (hb : Below W.heap.size W V) : EnvI V := by
 refine ⟨Nat.lt_of_lt_of_le h.lt1 hb.size, Nat.lt_of_lt_of_le h.lt2 hb.size, fun o h1 h2 => ?_, fun k h1 h2 => ?_⟩
 ·obtain ⟨v, a, b, c, d⟩ := h.rows o h1 h2
  exact ⟨v, (hb.cell (p := ⟨3, _, none⟩) h.lt1).trans a, (hb.cell (p := ⟨3, _, none⟩) h.lt1).trans b, (hb.cell (p := ⟨3, _, none⟩) h.lt1).trans c, d.next hb⟩
 ·obtain ⟨v, a, b, c⟩ := h.signs k h1 h2
  exact ⟨v, (hb.cell (p := ⟨6, _, none⟩) h.lt2).trans a, (hb.cell (p := ⟨6, _, none⟩) h.lt2).trans b, c.next hb⟩
structure MS (fns : List Fn) (f : Fn) (b : Nat) (cv pv iv xv wv : Value) (W : World) : Prop where
 e : W.heap[b]? = some (.cells #[cv, .string f.name, pv, .int .i64 f.result, .int .i64 f.slots, iv, xv, wv] 184)
 fr : FnsRow W cv fns
 pr : IntRow W pv f.params
 ir : InsRow W iv f.ins
theorem MS.next {fns : List Fn} {f : Fn} {b : Nat} {cv pv iv xv wv : Value} {W V : World} (h : MS fns f b cv pv iv xv wv W) (hb : Below W.heap.size W V) : MS fns f b cv pv iv xv wv V := ⟨hp_next h.e hb, h.fr.next hb, h.pr.next hb, h.ir.next hb⟩
theorem MS.lt {fns : List Fn} {f : Fn} {b : Nat} {cv pv iv xv wv : Value} {W : World} (h : MS fns f b cv pv iv xv wv W) : b < W.heap.size := lt_hp h.e
theorem mx {fns : List Fn} {f : Fn} {b : Nat} {cv pv iv xv wv : Value} {W : World} (h : MS fns f b cv pv iv xv wv W) :
  W.cell? ⟨b, 0, none⟩ = some cv ∧ W.cell? ⟨b, 1, none⟩ = some (.string f.name) ∧ W.cell? ⟨b, 2, none⟩ = some pv ∧ W.cell? ⟨b, 3, none⟩ = some (.int .i64 f.result) ∧ W.cell? ⟨b, 4, none⟩ = some (.int .i64 f.slots) ∧ W.cell? ⟨b, 5, none⟩ = some iv ∧ W.cell? ⟨b, 6, none⟩ = some xv ∧ W.cell? ⟨b, 7, none⟩ = some wv := by
 have e := h.e
 refine ⟨?_, ?_, ?_, ?_, ?_, ?_, ?_, ?_⟩ <;> simp [World.cell?, e]
theorem takesN_T {fns : List Fn} {i : In} {o : Nat} (ho : i.op = o) (h8 : ¬ o = 8) (h9 : ¬ o = 9) (h12 : ¬ o = 12) (h1 : 1 ≤ o) (h16 : o ≤ 16) : takesN fns i = (takesT o).length := by
 unfold takesN
 rw [ho]
 obtain rfl | rfl | rfl | rfl | rfl | rfl | rfl | rfl | rfl | rfl | rfl | rfl | rfl : o = 1 ∨ o = 2 ∨ o = 3 ∨ o = 4 ∨ o = 5 ∨ o = 6 ∨ o = 7 ∨ o = 10 ∨ o = 11 ∨ o = 13 ∨ o = 14 ∨ o = 15 ∨ o = 16 := by omega
 all_goals rfl
theorem ibox_new (w : World) (i : In) : (w.alloc (ibox i)).heap[w.heap.size]? = some (ibox i) := heap_alloc_new _ _
set_option maxHeartbeats 2000000 in
theorem takenBy_any {fns : List Fn} {f : Fn} {b : Nat} {cv pv iv xv wv : Value} {w : World} (hM : MS fns f b cv pv iv xv wv w) (hE : EnvI w) {i : In} (hi : InsR fns f i) :
  Calls Tryz.prog 127 #[.pointer (some ⟨b, 0, none⟩), inV i] w fun e w' => e = .returned (.int .i64 (takesN fns i : Nat)) ∧ Below w.heap.size w w' := by
 have HLO : Hid (Below w.heap.size w (w.alloc (ibox i))) := hid ((Below.refl _ _).alloc (Nat.le_refl _) _)
 have HM := hid (hM.next HLO.out)
 have HE := hid (hE.next HLO.out)
 have HI := hid hi
 obtain ⟨j0, j1, j2, j3⟩ := ix (ibox_new w i)
 obtain ⟨m0, m1, m2, m3, m4, m5, m6, m7⟩ := mx HM.out
 obtain ⟨op, a, n, tx⟩ := i
 have hop := hi.op
 dsimp only at hop j0 j1 j2 j3
 clear hM hE hi
 unfold inV
 dsimp only
 go_enter Tryz.func127, Tryz.ntmps127
 go_upto_region 1 with fail
 obtain ⟨W1, hW1⟩ : ∃ W, w.alloc (ibox ⟨op, a, n, tx⟩) = W := ⟨_, rfl⟩
 rw [hW1] at HLO HM HE j0 j1 j2 j3 m0 m1 m2 m3 m4 m5 m6 m7
 unfold ibox at hW1
 rw [hW1]
 clear hW1
 by_cases h8 : op = 8
 ·subst h8
  have hb := HI.out.built rfl
  dsimp only at hb
  obtain ⟨k, rfl⟩ : ∃ k : Nat, a = k := ⟨a.toNat, by omega⟩
  have HN : Hid (takesN fns ⟨8, (k : Int), n, tx⟩ = (sig k).1.length) := hid (by simp [takesN])
  obtain ⟨v, s0, s1, s2⟩ := HE.out.signs k (by omega) (by omega)
  obtain ⟨ad, c, rfl⟩ := s2.sl
  have hki : (k : Int) < 13 := by omega
  have hkn : k < 13 := by omega
  clear hb s2
  go_wp2_with fail
  go_ret
  exact ⟨by rw [HN.out]; rfl, HLO.out⟩
 ·have e8 : (op == 8) = false := by simpa using h8
  by_cases h9 : op = 9
  ·subst h9
   have hb := HI.out.call rfl
   dsimp only at hb
   obtain ⟨k, rfl⟩ : ∃ k : Nat, a = k := ⟨a.toNat, by omega⟩
   have hk : k < fns.length := by omega
   have HN : Hid (takesN fns ⟨9, (k : Int), n, tx⟩ = (fns.getD k fn0).params.length) := hid (by simp [takesN])
   obtain ⟨gF, cF2, hcv, hgF, pv2, iv2, n0, n1, n2, n3, n4, hpv, _⟩ := HM.out.fr.at hk
   obtain ⟨aP, cP, rfl⟩ := hpv.sl
   rw [hcv] at m0
   have hki : (k : Int) < (fns.length : Int) := by omega
   obtain ⟨L, hL⟩ : ∃ L, (fns.getD k fn0).params.length = L := ⟨_, rfl⟩
   rw [hL] at n1 HN
   clear hb hpv hL n0 n2 n3 n4 h8 hcv
   go_wp2_with fail
   go_quiet (fail)
   go_wp2
   go_ret
   exact ⟨by rw [HN.out]; rfl, below_drewN HLO.out _⟩
  ·have e9 : (op == 9) = false := by simpa using h9
   by_cases h12 : op = 12
   ·subst h12
    have hb := HI.out.ret rfl
    dsimp only at hb
    obtain ⟨k, rfl⟩ : ∃ k : Nat, a = k := ⟨a.toNat, by omega⟩
    have HN : Hid (takesN fns ⟨12, (k : Int), n, tx⟩ = k) := hid (by simp [takesN])
    clear hb
    go_wp2_with fail
    go_ret
    exact ⟨by rw [HN.out]; rfl, HLO.out⟩
   ·have e12 : (op == 12) = false := by simpa using h12
    obtain ⟨o, rfl⟩ : ∃ o : Nat, op = o := ⟨op.toNat, by omega⟩
    have ho1 : 1 ≤ o := by omega
    have ho2 : o ≤ 16 := by omega
    have HN := hid (takesN_T (fns := fns) (i := ⟨(o : Int), a, n, tx⟩) (o := o) rfl (by omega) (by omega) (by omega) ho1 ho2)
    obtain ⟨v, s0, s1, s2, s3⟩ := HE.out.rows o ho1 ho2
    obtain ⟨ad, c, rfl⟩ := s3.sl
    have hoi : (o : Int) < 17 := by omega
    have hon : o < 17 := by omega
    clear h8 h9 h12 s0 s2 s3
    go_wp2_with fail
    go_ret
    exact ⟨by rw [HN.out]; rfl, HLO.out⟩
def tkB (fns : List Fn) (f : Fn) (i : In) (at_ : Nat) (k : Int) : Bool :=
 if i.op = 8 then fitK ((sig i.a).1.getD at_ 0) k else if i.op = 9 then decide ((fns.getD i.a.toNat fn0).params.getD at_ 0 = k) else if i.op = 12 then decide (f.result = k) else decide ((takesT i.op.toNat).getD at_ 0 = -2) || fitK ((takesT i.op.toNat).getD at_ 0) k
set_option maxHeartbeats 2000000 in
theorem takes_any {fns : List Fn} {f : Fn} {b : Nat} {cv pv iv xv wv : Value} {w : World} (hM : MS fns f b cv pv iv xv wv w) (hE : EnvI w) {i : In} (hi : InsR fns f i) {z : Nat} {k : Int} (hz : z < takesN fns i) :
  Calls Tryz.prog 130 #[.pointer (some ⟨b, 0, none⟩), inV i, .int .i64 z, .int .i64 k] w fun e w' => e = .returned (.bool (tkB fns f i z k)) ∧ Below w.heap.size w w' := by
 have HLO : Hid (Below w.heap.size w (w.alloc (ibox i))) := hid ((Below.refl _ _).alloc (Nat.le_refl _) _)
 have HM := hid (hM.next HLO.out)
 have HE := hid (hE.next HLO.out)
 have HI := hid hi
 have HZ := hid hz
 obtain ⟨j0, j1, j2, j3⟩ := ix (ibox_new w i)
 obtain ⟨m0, m1, m2, m3, m4, m5, m6, m7⟩ := mx HM.out
 obtain ⟨op, a, n, tx⟩ := i
 have hop := hi.op
 dsimp only at hop j0 j1 j2 j3
 clear hM hE hi hz
 unfold inV
 dsimp only
 go_enter Tryz.func130, Tryz.ntmps130
 go_upto_region 1 with fail
 obtain ⟨W1, hW1⟩ : ∃ W, w.alloc (ibox ⟨op, a, n, tx⟩) = W := ⟨_, rfl⟩
 rw [hW1] at HLO HM HE j0 j1 j2 j3 m0 m1 m2 m3 m4 m5 m6 m7
 unfold ibox at hW1
 rw [hW1]
 clear hW1
 by_cases h8 : op = 8
 ·subst h8
  have hb := HI.out.built rfl
  dsimp only at hb
  obtain ⟨q, rfl⟩ : ∃ q : Nat, a = q := ⟨a.toNat, by omega⟩
  have hz9 : z < (sig q).1.length := by have := HZ.out; simpa [takesN] using this
  have HV : Hid (tkB fns f ⟨8, (q : Int), n, tx⟩ z k = fitK ((sig q).1.getD z 0) k) := hid (by simp [tkB])
  obtain ⟨v, s0, s1, s2⟩ := HE.out.signs q (by omega) (by omega)
  obtain ⟨ka, c, rfl, hc⟩ := s2.at hz9
  have hki : (q : Int) < 13 := by omega
  have hkn : q < 13 := by omega
  have hzi : (z : Int) < ((sig q).1.length : Int) := by omega
  obtain ⟨y, hy⟩ : ∃ y, (sig q).1.getD z 0 = y := ⟨_, rfl⟩
  rw [hy] at hc HV
  obtain ⟨L, hL⟩ : ∃ L, (sig (q : Int)).1.length = L := ⟨_, rfl⟩
  rw [hL] at s0 hz9 hzi
  clear hb s2 hy hL
  go_wp2_with (go_at_call 147; refine (kindFits_any _ _ _).mono ?_; rintro e w' ⟨rfl, hw⟩; have hw2 := hw.symm; clear hw; subst hw2)
  go_ret
  exact ⟨ret_bool (by rw [HV.out]), HLO.out⟩
 ·have e8 : (op == 8) = false := by simpa using h8
  by_cases h9 : op = 9
  ·subst h9
   have hb := HI.out.call rfl
   dsimp only at hb
   obtain ⟨q, rfl⟩ : ∃ q : Nat, a = q := ⟨a.toNat, by omega⟩
   have hk : q < fns.length := by omega
   have hz9 : z < (fns.getD q fn0).params.length := by have := HZ.out; simpa [takesN] using this
   have HV : Hid (tkB fns f ⟨9, (q : Int), n, tx⟩ z k = decide ((fns.getD q fn0).params.getD z 0 = k)) := hid (by simp [tkB])
   obtain ⟨gF, cF2, hcv, hgF, pv2, iv2, n0, n1, n2, n3, n4, hpv, _⟩ := HM.out.fr.at hk
   obtain ⟨gP, cP, rfl, _, _, _, hcP⟩ := hpv.at hz9
   have kP := hcP z hz9
   rw [hcv] at m0
   have hki : (q : Int) < (fns.length : Int) := by omega
   obtain ⟨y, hy⟩ : ∃ y, (fns.getD q fn0).params.getD z 0 = y := ⟨_, rfl⟩
   rw [hy] at kP HV
   obtain ⟨L, hL⟩ : ∃ L, (fns.getD q fn0).params.length = L := ⟨_, rfl⟩
   rw [hL] at n1 hz9
   have hzi : (z : Int) < (L : Int) := by omega
   clear hb hpv hL hy n0 n2 n3 n4 h8 hcv hcP
   go_wp2_with fail
   go_quiet (fail)
   go_wp2
   go_ret
   exact ⟨ret_bool (by rw [HV.out]; rfl), below_drewN HLO.out _⟩
  ·have e9 : (op == 9) = false := by simpa using h9
   by_cases h12 : op = 12
   ·subst h12
    have HV : Hid (tkB fns f ⟨12, a, n, tx⟩ z k = decide (f.result = k)) := hid (by simp [tkB])
    clear h8 h9
    go_wp2_with fail
    go_ret
    exact ⟨ret_bool (by rw [HV.out]; rfl), HLO.out⟩
   ·have e12 : (op == 12) = false := by simpa using h12
    obtain ⟨o, rfl⟩ : ∃ o : Nat, op = o := ⟨op.toNat, by omega⟩
    have ho1 : 1 ≤ o := by omega
    have ho2 : o ≤ 16 := by omega
    have hz9 : z < (takesT o).length := by have := HZ.out; rw [takesN_T (o := o) rfl (by omega) (by omega) (by omega) ho1 ho2] at this; exact this
    have HV : Hid (tkB fns f ⟨(o : Int), a, n, tx⟩ z k = (decide ((takesT o).getD z 0 = -2) || fitK ((takesT o).getD z 0) k)) := hid (by simp [tkB, h8, h9, h12])
    obtain ⟨v, s0, s1, s2, s3⟩ := HE.out.rows o ho1 ho2
    obtain ⟨ka, c, rfl, hc⟩ := s3.at hz9
    have hoi : (o : Int) < 17 := by omega
    have hon : o < 17 := by omega
    have hzi : (z : Int) < ((takesT o).length : Int) := by omega
    obtain ⟨y, hy⟩ : ∃ y, (takesT o).getD z 0 = y := ⟨_, rfl⟩
    rw [hy] at hc HV
    obtain ⟨L, hL⟩ : ∃ L, (takesT o).length = L := ⟨_, rfl⟩
    rw [hL] at s1 hz9 hzi
    clear h8 h9 h12 s0 s2 s3 hy hL
    by_cases hy2 : y = -2
    ·subst hy2
     go_wp2_with fail
     go_ret
     exact ⟨ret_bool (by rw [HV.out]; rfl), HLO.out⟩
    ·have hyf : (y == -2) = false := by simpa using hy2
     have HV2 : Hid ((decide (y = -2) || fitK y k) = fitK y k) := hid (by simp [hy2])
     clear hy2
     go_wp2_with (go_at_call 147; refine (kindFits_any _ _ _).mono ?_; rintro e w' ⟨rfl, hw⟩; have hw2 := hw.symm; clear hw; subst hw2)
     go_ret
     exact ⟨ret_bool (by rw [HV.out, HV2.out]), HLO.out⟩
def putK (fns : List Fn) (i : In) (sl tk : List Int) : Int :=
 if i.op = 1 ∨ i.op = 7 then i.a else if i.op = 2 then sl.getD i.a.toNat 0 else if i.op = 5 then unG i.a (tk.getD 0 0) else if i.op = 6 then binG i.a (tk.getD 0 0) (tk.getD 1 0) else if i.op = 8 then (sig i.a).2 else (fns.getD i.a.toNat fn0).result
def putR (fns : List Fn) (i : In) (sl tk : List Int) : List Int × Bool :=
 if putsT i.op.toNat = 0 then ([], true) else if i.op = 9 ∧ (fns.getD i.a.toNat fn0).result = 0 then ([], true) else ([putK fns i sl tk], decide (¬ putK fns i sl tk = 0))
def PutEnd (fns : List Fn) (i : In) (sl tk : List Int) (w : World) (e : Ending) (w' : World) : Prop := e = .returned (.tuple #[.string (kt (putR fns i sl tk).1), .bool (putR fns i sl tk).2]) ∧ Below w.heap.size w w'
theorem put_some {fns : List Fn} {i : In} {sl tk : List Int} (h0 : ¬ putsT i.op.toNat = 0) (h9 : ¬ (i.op = 9 ∧ (fns.getD i.a.toNat fn0).result = 0)) : putR fns i sl tk = ([putK fns i sl tk], decide (¬ putK fns i sl tk = 0)) := by
 unfold putR
 rw [if_neg h0, if_neg h9]
theorem put_end {fns : List Fn} {i : In} {sl tk : List Int} {w W : World} {y : Int} (lo : Below w.heap.size w W) (h0 : ¬ putsT i.op.toNat = 0) (h9 : ¬ (i.op = 9 ∧ (fns.getD i.a.toNat fn0).result = 0)) (hy : putK fns i sl tk = y) : PutEnd fns i sl tk w (.returned (.tuple #[.string (kt [y]), .bool (y != 0)])) W := by
 refine ⟨?_, lo⟩
 rw [put_some h0 h9, hy]
 have : (y != 0) = decide (¬ y = 0) := by by_cases h : y = 0 <;> simp [h]
 rw [this]
set_option maxHeartbeats 2000000 in
theorem put_3 {fns : List Fn} {f : Fn} {b : Nat} {cv pv iv xv wv : Value} {w : World} (hM : MS fns f b cv pv iv xv wv w) (hE : EnvI w) {a n : Int} {tx : ByteArray} (hi : InsR fns f ⟨3, a, n, tx⟩) {sl tk : List Int} {tv : Value} (hs : Ok10 sl) (ht : IntRow w tv tk) (hr : ∀ x ∈ tk, 1 ≤ x ∧ x ≤ 10) (hl : tk.length = takesN fns ⟨3, a, n, tx⟩) (hsl : sl.length = f.S) (hF : ∀ g ∈ fns, FnR fns g) :
  Calls Tryz.prog 131 #[.pointer (some ⟨b, 0, none⟩), inV ⟨3, a, n, tx⟩, .string (kt sl), tv] w (PutEnd fns ⟨3, a, n, tx⟩ sl tk w) := by
 have HLO : Hid (Below w.heap.size w (w.alloc (ibox ⟨3, a, n, tx⟩))) := hid ((Below.refl _ _).alloc (Nat.le_refl _) _)
 have HM := hid (hM.next HLO.out)
 have HE := hid (hE.next HLO.out)
 have HT := hid (ht.next HLO.out)
 obtain ⟨j0, j1, j2, j3⟩ := ix (ibox_new w ⟨3, a, n, tx⟩)
 obtain ⟨m0, m1, m2, m3, m4, m5, m6, m7⟩ := mx HM.out
 obtain ⟨_, s0, s1, s2, _⟩ := HE.out.rows 3 (by omega) (by omega)
 dsimp only at j0 j1 j2 j3
 have hP : putsT 3 = 0 := rfl
 rw [hP] at s2
 simp only [Nat.reduceMul, Nat.reduceAdd] at s0 s1 s2
 have HI := hid hi
 have HS := hid hs
 have HR := hid hr
 have HL := hid hl
 have HSL := hid hsl
 have HF := hid hF
 obtain ⟨at9, ct9, rfl⟩ := ht.sl
 clear hM hE ht hi hs hr hl hsl hF hP s0 s1
 unfold inV
 dsimp only
 go_enter Tryz.func131, Tryz.ntmps131
 go_upto_region 2 with fail
 obtain ⟨W1, hW1⟩ : ∃ W, w.alloc (ibox ⟨3, a, n, tx⟩) = W := ⟨_, rfl⟩
 rw [hW1] at HLO HM HE HT j0 j1 j2 j3 m0 m1 m2 m3 m4 m5 m6 m7 s2
 unfold ibox at hW1
 rw [hW1]
 clear hW1
 go_wp2_with fail
 go_ret2
 exact ⟨rfl, HLO.out⟩
set_option maxHeartbeats 2000000 in
theorem put_4 {fns : List Fn} {f : Fn} {b : Nat} {cv pv iv xv wv : Value} {w : World} (hM : MS fns f b cv pv iv xv wv w) (hE : EnvI w) {a n : Int} {tx : ByteArray} (hi : InsR fns f ⟨4, a, n, tx⟩) {sl tk : List Int} {tv : Value} (hs : Ok10 sl) (ht : IntRow w tv tk) (hr : ∀ x ∈ tk, 1 ≤ x ∧ x ≤ 10) (hl : tk.length = takesN fns ⟨4, a, n, tx⟩) (hsl : sl.length = f.S) (hF : ∀ g ∈ fns, FnR fns g) :
  Calls Tryz.prog 131 #[.pointer (some ⟨b, 0, none⟩), inV ⟨4, a, n, tx⟩, .string (kt sl), tv] w (PutEnd fns ⟨4, a, n, tx⟩ sl tk w) := by
 have HLO : Hid (Below w.heap.size w (w.alloc (ibox ⟨4, a, n, tx⟩))) := hid ((Below.refl _ _).alloc (Nat.le_refl _) _)
 have HM := hid (hM.next HLO.out)
 have HE := hid (hE.next HLO.out)
 have HT := hid (ht.next HLO.out)
 obtain ⟨j0, j1, j2, j3⟩ := ix (ibox_new w ⟨4, a, n, tx⟩)
 obtain ⟨m0, m1, m2, m3, m4, m5, m6, m7⟩ := mx HM.out
 obtain ⟨_, s0, s1, s2, _⟩ := HE.out.rows 4 (by omega) (by omega)
 dsimp only at j0 j1 j2 j3
 have hP : putsT 4 = 0 := rfl
 rw [hP] at s2
 simp only [Nat.reduceMul, Nat.reduceAdd] at s0 s1 s2
 have HI := hid hi
 have HS := hid hs
 have HR := hid hr
 have HL := hid hl
 have HSL := hid hsl
 have HF := hid hF
 obtain ⟨at9, ct9, rfl⟩ := ht.sl
 clear hM hE ht hi hs hr hl hsl hF hP s0 s1
 unfold inV
 dsimp only
 go_enter Tryz.func131, Tryz.ntmps131
 go_upto_region 2 with fail
 obtain ⟨W1, hW1⟩ : ∃ W, w.alloc (ibox ⟨4, a, n, tx⟩) = W := ⟨_, rfl⟩
 rw [hW1] at HLO HM HE HT j0 j1 j2 j3 m0 m1 m2 m3 m4 m5 m6 m7 s2
 unfold ibox at hW1
 rw [hW1]
 clear hW1
 go_wp2_with fail
 go_ret2
 exact ⟨rfl, HLO.out⟩
set_option maxHeartbeats 2000000 in
theorem put_10 {fns : List Fn} {f : Fn} {b : Nat} {cv pv iv xv wv : Value} {w : World} (hM : MS fns f b cv pv iv xv wv w) (hE : EnvI w) {a n : Int} {tx : ByteArray} (hi : InsR fns f ⟨10, a, n, tx⟩) {sl tk : List Int} {tv : Value} (hs : Ok10 sl) (ht : IntRow w tv tk) (hr : ∀ x ∈ tk, 1 ≤ x ∧ x ≤ 10) (hl : tk.length = takesN fns ⟨10, a, n, tx⟩) (hsl : sl.length = f.S) (hF : ∀ g ∈ fns, FnR fns g) :
  Calls Tryz.prog 131 #[.pointer (some ⟨b, 0, none⟩), inV ⟨10, a, n, tx⟩, .string (kt sl), tv] w (PutEnd fns ⟨10, a, n, tx⟩ sl tk w) := by
 have HLO : Hid (Below w.heap.size w (w.alloc (ibox ⟨10, a, n, tx⟩))) := hid ((Below.refl _ _).alloc (Nat.le_refl _) _)
 have HM := hid (hM.next HLO.out)
 have HE := hid (hE.next HLO.out)
 have HT := hid (ht.next HLO.out)
 obtain ⟨j0, j1, j2, j3⟩ := ix (ibox_new w ⟨10, a, n, tx⟩)
 obtain ⟨m0, m1, m2, m3, m4, m5, m6, m7⟩ := mx HM.out
 obtain ⟨_, s0, s1, s2, _⟩ := HE.out.rows 10 (by omega) (by omega)
 dsimp only at j0 j1 j2 j3
 have hP : putsT 10 = 0 := rfl
 rw [hP] at s2
 simp only [Nat.reduceMul, Nat.reduceAdd] at s0 s1 s2
 have HI := hid hi
 have HS := hid hs
 have HR := hid hr
 have HL := hid hl
 have HSL := hid hsl
 have HF := hid hF
 obtain ⟨at9, ct9, rfl⟩ := ht.sl
 clear hM hE ht hi hs hr hl hsl hF hP s0 s1
 unfold inV
 dsimp only
 go_enter Tryz.func131, Tryz.ntmps131
 go_upto_region 2 with fail
 obtain ⟨W1, hW1⟩ : ∃ W, w.alloc (ibox ⟨10, a, n, tx⟩) = W := ⟨_, rfl⟩
 rw [hW1] at HLO HM HE HT j0 j1 j2 j3 m0 m1 m2 m3 m4 m5 m6 m7 s2
 unfold ibox at hW1
 rw [hW1]
 clear hW1
 go_wp2_with fail
 go_ret2
 exact ⟨rfl, HLO.out⟩
set_option maxHeartbeats 2000000 in
theorem put_11 {fns : List Fn} {f : Fn} {b : Nat} {cv pv iv xv wv : Value} {w : World} (hM : MS fns f b cv pv iv xv wv w) (hE : EnvI w) {a n : Int} {tx : ByteArray} (hi : InsR fns f ⟨11, a, n, tx⟩) {sl tk : List Int} {tv : Value} (hs : Ok10 sl) (ht : IntRow w tv tk) (hr : ∀ x ∈ tk, 1 ≤ x ∧ x ≤ 10) (hl : tk.length = takesN fns ⟨11, a, n, tx⟩) (hsl : sl.length = f.S) (hF : ∀ g ∈ fns, FnR fns g) :
  Calls Tryz.prog 131 #[.pointer (some ⟨b, 0, none⟩), inV ⟨11, a, n, tx⟩, .string (kt sl), tv] w (PutEnd fns ⟨11, a, n, tx⟩ sl tk w) := by
 have HLO : Hid (Below w.heap.size w (w.alloc (ibox ⟨11, a, n, tx⟩))) := hid ((Below.refl _ _).alloc (Nat.le_refl _) _)
 have HM := hid (hM.next HLO.out)
 have HE := hid (hE.next HLO.out)
 have HT := hid (ht.next HLO.out)
 obtain ⟨j0, j1, j2, j3⟩ := ix (ibox_new w ⟨11, a, n, tx⟩)
 obtain ⟨m0, m1, m2, m3, m4, m5, m6, m7⟩ := mx HM.out
 obtain ⟨_, s0, s1, s2, _⟩ := HE.out.rows 11 (by omega) (by omega)
 dsimp only at j0 j1 j2 j3
 have hP : putsT 11 = 0 := rfl
 rw [hP] at s2
 simp only [Nat.reduceMul, Nat.reduceAdd] at s0 s1 s2
 have HI := hid hi
 have HS := hid hs
 have HR := hid hr
 have HL := hid hl
 have HSL := hid hsl
 have HF := hid hF
 obtain ⟨at9, ct9, rfl⟩ := ht.sl
 clear hM hE ht hi hs hr hl hsl hF hP s0 s1
 unfold inV
 dsimp only
 go_enter Tryz.func131, Tryz.ntmps131
 go_upto_region 2 with fail
 obtain ⟨W1, hW1⟩ : ∃ W, w.alloc (ibox ⟨11, a, n, tx⟩) = W := ⟨_, rfl⟩
 rw [hW1] at HLO HM HE HT j0 j1 j2 j3 m0 m1 m2 m3 m4 m5 m6 m7 s2
 unfold ibox at hW1
 rw [hW1]
 clear hW1
 go_wp2_with fail
 go_ret2
 exact ⟨rfl, HLO.out⟩
set_option maxHeartbeats 2000000 in
theorem put_12 {fns : List Fn} {f : Fn} {b : Nat} {cv pv iv xv wv : Value} {w : World} (hM : MS fns f b cv pv iv xv wv w) (hE : EnvI w) {a n : Int} {tx : ByteArray} (hi : InsR fns f ⟨12, a, n, tx⟩) {sl tk : List Int} {tv : Value} (hs : Ok10 sl) (ht : IntRow w tv tk) (hr : ∀ x ∈ tk, 1 ≤ x ∧ x ≤ 10) (hl : tk.length = takesN fns ⟨12, a, n, tx⟩) (hsl : sl.length = f.S) (hF : ∀ g ∈ fns, FnR fns g) :
  Calls Tryz.prog 131 #[.pointer (some ⟨b, 0, none⟩), inV ⟨12, a, n, tx⟩, .string (kt sl), tv] w (PutEnd fns ⟨12, a, n, tx⟩ sl tk w) := by
 have HLO : Hid (Below w.heap.size w (w.alloc (ibox ⟨12, a, n, tx⟩))) := hid ((Below.refl _ _).alloc (Nat.le_refl _) _)
 have HM := hid (hM.next HLO.out)
 have HE := hid (hE.next HLO.out)
 have HT := hid (ht.next HLO.out)
 obtain ⟨j0, j1, j2, j3⟩ := ix (ibox_new w ⟨12, a, n, tx⟩)
 obtain ⟨m0, m1, m2, m3, m4, m5, m6, m7⟩ := mx HM.out
 obtain ⟨_, s0, s1, s2, _⟩ := HE.out.rows 12 (by omega) (by omega)
 dsimp only at j0 j1 j2 j3
 have hP : putsT 12 = 0 := rfl
 rw [hP] at s2
 simp only [Nat.reduceMul, Nat.reduceAdd] at s0 s1 s2
 have HI := hid hi
 have HS := hid hs
 have HR := hid hr
 have HL := hid hl
 have HSL := hid hsl
 have HF := hid hF
 obtain ⟨at9, ct9, rfl⟩ := ht.sl
 clear hM hE ht hi hs hr hl hsl hF hP s0 s1
 unfold inV
 dsimp only
 go_enter Tryz.func131, Tryz.ntmps131
 go_upto_region 2 with fail
 obtain ⟨W1, hW1⟩ : ∃ W, w.alloc (ibox ⟨12, a, n, tx⟩) = W := ⟨_, rfl⟩
 rw [hW1] at HLO HM HE HT j0 j1 j2 j3 m0 m1 m2 m3 m4 m5 m6 m7 s2
 unfold ibox at hW1
 rw [hW1]
 clear hW1
 go_wp2_with fail
 go_ret2
 exact ⟨rfl, HLO.out⟩
set_option maxHeartbeats 2000000 in
theorem put_13 {fns : List Fn} {f : Fn} {b : Nat} {cv pv iv xv wv : Value} {w : World} (hM : MS fns f b cv pv iv xv wv w) (hE : EnvI w) {a n : Int} {tx : ByteArray} (hi : InsR fns f ⟨13, a, n, tx⟩) {sl tk : List Int} {tv : Value} (hs : Ok10 sl) (ht : IntRow w tv tk) (hr : ∀ x ∈ tk, 1 ≤ x ∧ x ≤ 10) (hl : tk.length = takesN fns ⟨13, a, n, tx⟩) (hsl : sl.length = f.S) (hF : ∀ g ∈ fns, FnR fns g) :
  Calls Tryz.prog 131 #[.pointer (some ⟨b, 0, none⟩), inV ⟨13, a, n, tx⟩, .string (kt sl), tv] w (PutEnd fns ⟨13, a, n, tx⟩ sl tk w) := by
 have HLO : Hid (Below w.heap.size w (w.alloc (ibox ⟨13, a, n, tx⟩))) := hid ((Below.refl _ _).alloc (Nat.le_refl _) _)
 have HM := hid (hM.next HLO.out)
 have HE := hid (hE.next HLO.out)
 have HT := hid (ht.next HLO.out)
 obtain ⟨j0, j1, j2, j3⟩ := ix (ibox_new w ⟨13, a, n, tx⟩)
 obtain ⟨m0, m1, m2, m3, m4, m5, m6, m7⟩ := mx HM.out
 obtain ⟨_, s0, s1, s2, _⟩ := HE.out.rows 13 (by omega) (by omega)
 dsimp only at j0 j1 j2 j3
 have hP : putsT 13 = 0 := rfl
 rw [hP] at s2
 simp only [Nat.reduceMul, Nat.reduceAdd] at s0 s1 s2
 have HI := hid hi
 have HS := hid hs
 have HR := hid hr
 have HL := hid hl
 have HSL := hid hsl
 have HF := hid hF
 obtain ⟨at9, ct9, rfl⟩ := ht.sl
 clear hM hE ht hi hs hr hl hsl hF hP s0 s1
 unfold inV
 dsimp only
 go_enter Tryz.func131, Tryz.ntmps131
 go_upto_region 2 with fail
 obtain ⟨W1, hW1⟩ : ∃ W, w.alloc (ibox ⟨13, a, n, tx⟩) = W := ⟨_, rfl⟩
 rw [hW1] at HLO HM HE HT j0 j1 j2 j3 m0 m1 m2 m3 m4 m5 m6 m7 s2
 unfold ibox at hW1
 rw [hW1]
 clear hW1
 go_wp2_with fail
 go_ret2
 exact ⟨rfl, HLO.out⟩
set_option maxHeartbeats 2000000 in
theorem put_14 {fns : List Fn} {f : Fn} {b : Nat} {cv pv iv xv wv : Value} {w : World} (hM : MS fns f b cv pv iv xv wv w) (hE : EnvI w) {a n : Int} {tx : ByteArray} (hi : InsR fns f ⟨14, a, n, tx⟩) {sl tk : List Int} {tv : Value} (hs : Ok10 sl) (ht : IntRow w tv tk) (hr : ∀ x ∈ tk, 1 ≤ x ∧ x ≤ 10) (hl : tk.length = takesN fns ⟨14, a, n, tx⟩) (hsl : sl.length = f.S) (hF : ∀ g ∈ fns, FnR fns g) :
  Calls Tryz.prog 131 #[.pointer (some ⟨b, 0, none⟩), inV ⟨14, a, n, tx⟩, .string (kt sl), tv] w (PutEnd fns ⟨14, a, n, tx⟩ sl tk w) := by
 have HLO : Hid (Below w.heap.size w (w.alloc (ibox ⟨14, a, n, tx⟩))) := hid ((Below.refl _ _).alloc (Nat.le_refl _) _)
 have HM := hid (hM.next HLO.out)
 have HE := hid (hE.next HLO.out)
 have HT := hid (ht.next HLO.out)
 obtain ⟨j0, j1, j2, j3⟩ := ix (ibox_new w ⟨14, a, n, tx⟩)
 obtain ⟨m0, m1, m2, m3, m4, m5, m6, m7⟩ := mx HM.out
 obtain ⟨_, s0, s1, s2, _⟩ := HE.out.rows 14 (by omega) (by omega)
 dsimp only at j0 j1 j2 j3
 have hP : putsT 14 = 0 := rfl
 rw [hP] at s2
 simp only [Nat.reduceMul, Nat.reduceAdd] at s0 s1 s2
 have HI := hid hi
 have HS := hid hs
 have HR := hid hr
 have HL := hid hl
 have HSL := hid hsl
 have HF := hid hF
 obtain ⟨at9, ct9, rfl⟩ := ht.sl
 clear hM hE ht hi hs hr hl hsl hF hP s0 s1
 unfold inV
 dsimp only
 go_enter Tryz.func131, Tryz.ntmps131
 go_upto_region 2 with fail
 obtain ⟨W1, hW1⟩ : ∃ W, w.alloc (ibox ⟨14, a, n, tx⟩) = W := ⟨_, rfl⟩
 rw [hW1] at HLO HM HE HT j0 j1 j2 j3 m0 m1 m2 m3 m4 m5 m6 m7 s2
 unfold ibox at hW1
 rw [hW1]
 clear hW1
 go_wp2_with fail
 go_ret2
 exact ⟨rfl, HLO.out⟩
set_option maxHeartbeats 2000000 in
theorem put_15 {fns : List Fn} {f : Fn} {b : Nat} {cv pv iv xv wv : Value} {w : World} (hM : MS fns f b cv pv iv xv wv w) (hE : EnvI w) {a n : Int} {tx : ByteArray} (hi : InsR fns f ⟨15, a, n, tx⟩) {sl tk : List Int} {tv : Value} (hs : Ok10 sl) (ht : IntRow w tv tk) (hr : ∀ x ∈ tk, 1 ≤ x ∧ x ≤ 10) (hl : tk.length = takesN fns ⟨15, a, n, tx⟩) (hsl : sl.length = f.S) (hF : ∀ g ∈ fns, FnR fns g) :
  Calls Tryz.prog 131 #[.pointer (some ⟨b, 0, none⟩), inV ⟨15, a, n, tx⟩, .string (kt sl), tv] w (PutEnd fns ⟨15, a, n, tx⟩ sl tk w) := by
 have HLO : Hid (Below w.heap.size w (w.alloc (ibox ⟨15, a, n, tx⟩))) := hid ((Below.refl _ _).alloc (Nat.le_refl _) _)
 have HM := hid (hM.next HLO.out)
 have HE := hid (hE.next HLO.out)
 have HT := hid (ht.next HLO.out)
 obtain ⟨j0, j1, j2, j3⟩ := ix (ibox_new w ⟨15, a, n, tx⟩)
 obtain ⟨m0, m1, m2, m3, m4, m5, m6, m7⟩ := mx HM.out
 obtain ⟨_, s0, s1, s2, _⟩ := HE.out.rows 15 (by omega) (by omega)
 dsimp only at j0 j1 j2 j3
 have hP : putsT 15 = 0 := rfl
 rw [hP] at s2
 simp only [Nat.reduceMul, Nat.reduceAdd] at s0 s1 s2
 have HI := hid hi
 have HS := hid hs
 have HR := hid hr
 have HL := hid hl
 have HSL := hid hsl
 have HF := hid hF
 obtain ⟨at9, ct9, rfl⟩ := ht.sl
 clear hM hE ht hi hs hr hl hsl hF hP s0 s1
 unfold inV
 dsimp only
 go_enter Tryz.func131, Tryz.ntmps131
 go_upto_region 2 with fail
 obtain ⟨W1, hW1⟩ : ∃ W, w.alloc (ibox ⟨15, a, n, tx⟩) = W := ⟨_, rfl⟩
 rw [hW1] at HLO HM HE HT j0 j1 j2 j3 m0 m1 m2 m3 m4 m5 m6 m7 s2
 unfold ibox at hW1
 rw [hW1]
 clear hW1
 go_wp2_with fail
 go_ret2
 exact ⟨rfl, HLO.out⟩
set_option maxHeartbeats 2000000 in
theorem put_16 {fns : List Fn} {f : Fn} {b : Nat} {cv pv iv xv wv : Value} {w : World} (hM : MS fns f b cv pv iv xv wv w) (hE : EnvI w) {a n : Int} {tx : ByteArray} (hi : InsR fns f ⟨16, a, n, tx⟩) {sl tk : List Int} {tv : Value} (hs : Ok10 sl) (ht : IntRow w tv tk) (hr : ∀ x ∈ tk, 1 ≤ x ∧ x ≤ 10) (hl : tk.length = takesN fns ⟨16, a, n, tx⟩) (hsl : sl.length = f.S) (hF : ∀ g ∈ fns, FnR fns g) :
  Calls Tryz.prog 131 #[.pointer (some ⟨b, 0, none⟩), inV ⟨16, a, n, tx⟩, .string (kt sl), tv] w (PutEnd fns ⟨16, a, n, tx⟩ sl tk w) := by
 have HLO : Hid (Below w.heap.size w (w.alloc (ibox ⟨16, a, n, tx⟩))) := hid ((Below.refl _ _).alloc (Nat.le_refl _) _)
 have HM := hid (hM.next HLO.out)
 have HE := hid (hE.next HLO.out)
 have HT := hid (ht.next HLO.out)
 obtain ⟨j0, j1, j2, j3⟩ := ix (ibox_new w ⟨16, a, n, tx⟩)
 obtain ⟨m0, m1, m2, m3, m4, m5, m6, m7⟩ := mx HM.out
 obtain ⟨_, s0, s1, s2, _⟩ := HE.out.rows 16 (by omega) (by omega)
 dsimp only at j0 j1 j2 j3
 have hP : putsT 16 = 0 := rfl
 rw [hP] at s2
 simp only [Nat.reduceMul, Nat.reduceAdd] at s0 s1 s2
 have HI := hid hi
 have HS := hid hs
 have HR := hid hr
 have HL := hid hl
 have HSL := hid hsl
 have HF := hid hF
 obtain ⟨at9, ct9, rfl⟩ := ht.sl
 clear hM hE ht hi hs hr hl hsl hF hP s0 s1
 unfold inV
 dsimp only
 go_enter Tryz.func131, Tryz.ntmps131
 go_upto_region 2 with fail
 obtain ⟨W1, hW1⟩ : ∃ W, w.alloc (ibox ⟨16, a, n, tx⟩) = W := ⟨_, rfl⟩
 rw [hW1] at HLO HM HE HT j0 j1 j2 j3 m0 m1 m2 m3 m4 m5 m6 m7 s2
 unfold ibox at hW1
 rw [hW1]
 clear hW1
 go_wp2_with fail
 go_ret2
 exact ⟨rfl, HLO.out⟩
set_option maxHeartbeats 2000000 in
theorem put_1 {fns : List Fn} {f : Fn} {b : Nat} {cv pv iv xv wv : Value} {w : World} (hM : MS fns f b cv pv iv xv wv w) (hE : EnvI w) {a n : Int} {tx : ByteArray} (hi : InsR fns f ⟨1, a, n, tx⟩) {sl tk : List Int} {tv : Value} (hs : Ok10 sl) (ht : IntRow w tv tk) (hr : ∀ x ∈ tk, 1 ≤ x ∧ x ≤ 10) (hl : tk.length = takesN fns ⟨1, a, n, tx⟩) (hsl : sl.length = f.S) (hF : ∀ g ∈ fns, FnR fns g) :
  Calls Tryz.prog 131 #[.pointer (some ⟨b, 0, none⟩), inV ⟨1, a, n, tx⟩, .string (kt sl), tv] w (PutEnd fns ⟨1, a, n, tx⟩ sl tk w) := by
 have HLO : Hid (Below w.heap.size w (w.alloc (ibox ⟨1, a, n, tx⟩))) := hid ((Below.refl _ _).alloc (Nat.le_refl _) _)
 have HM := hid (hM.next HLO.out)
 have HE := hid (hE.next HLO.out)
 have HT := hid (ht.next HLO.out)
 obtain ⟨j0, j1, j2, j3⟩ := ix (ibox_new w ⟨1, a, n, tx⟩)
 obtain ⟨m0, m1, m2, m3, m4, m5, m6, m7⟩ := mx HM.out
 obtain ⟨_, s0, s1, s2, _⟩ := HE.out.rows 1 (by omega) (by omega)
 dsimp only at j0 j1 j2 j3
 have hP : putsT 1 = 1 := rfl
 rw [hP] at s2
 simp only [Nat.reduceMul, Nat.reduceAdd] at s0 s1 s2
 have HI := hid hi
 have HS := hid hs
 have HR := hid hr
 have HL := hid hl
 have HSL := hid hsl
 have HF := hid hF
 obtain ⟨at9, ct9, rfl⟩ := ht.sl
 clear hM hE ht hi hs hr hl hsl hF hP s0 s1
 unfold inV
 dsimp only
 go_enter Tryz.func131, Tryz.ntmps131
 go_upto_region 2 with fail
 obtain ⟨W1, hW1⟩ : ∃ W, w.alloc (ibox ⟨1, a, n, tx⟩) = W := ⟨_, rfl⟩
 rw [hW1] at HLO HM HE HT j0 j1 j2 j3 m0 m1 m2 m3 m4 m5 m6 m7 s2
 unfold ibox at hW1
 rw [hW1]
 clear hW1
 have HY : Hid (0 ≤ a ∧ a ≤ 10) := hid (by have := HI.out.push rfl; dsimp only at this; omega)
 have HK : Hid (putK fns ⟨1, a, n, tx⟩ sl tk = a) := hid rfl
 go_wp2_with (go_at_call 132; refine (kindText_any _ HY.out _).mono ?_; rintro e w5 ⟨rfl, hb5⟩; have HB5 := hid (HLO.out.trans (hb5.mono (HLO.out).size)); clear hb5)
 go_ret2
 have hz := put_end (fns := fns) (i := ⟨1, a, n, tx⟩) (sl := sl) (tk := tk) HB5.out (show ¬ putsT 1 = 0 by decide) (by simp) HK.out
 simpa [bne] using hz
set_option maxHeartbeats 2000000 in
theorem put_7 {fns : List Fn} {f : Fn} {b : Nat} {cv pv iv xv wv : Value} {w : World} (hM : MS fns f b cv pv iv xv wv w) (hE : EnvI w) {a n : Int} {tx : ByteArray} (hi : InsR fns f ⟨7, a, n, tx⟩) {sl tk : List Int} {tv : Value} (hs : Ok10 sl) (ht : IntRow w tv tk) (hr : ∀ x ∈ tk, 1 ≤ x ∧ x ≤ 10) (hl : tk.length = takesN fns ⟨7, a, n, tx⟩) (hsl : sl.length = f.S) (hF : ∀ g ∈ fns, FnR fns g) :
  Calls Tryz.prog 131 #[.pointer (some ⟨b, 0, none⟩), inV ⟨7, a, n, tx⟩, .string (kt sl), tv] w (PutEnd fns ⟨7, a, n, tx⟩ sl tk w) := by
 have HLO : Hid (Below w.heap.size w (w.alloc (ibox ⟨7, a, n, tx⟩))) := hid ((Below.refl _ _).alloc (Nat.le_refl _) _)
 have HM := hid (hM.next HLO.out)
 have HE := hid (hE.next HLO.out)
 have HT := hid (ht.next HLO.out)
 obtain ⟨j0, j1, j2, j3⟩ := ix (ibox_new w ⟨7, a, n, tx⟩)
 obtain ⟨m0, m1, m2, m3, m4, m5, m6, m7⟩ := mx HM.out
 obtain ⟨_, s0, s1, s2, _⟩ := HE.out.rows 7 (by omega) (by omega)
 dsimp only at j0 j1 j2 j3
 have hP : putsT 7 = 1 := rfl
 rw [hP] at s2
 simp only [Nat.reduceMul, Nat.reduceAdd] at s0 s1 s2
 have HI := hid hi
 have HS := hid hs
 have HR := hid hr
 have HL := hid hl
 have HSL := hid hsl
 have HF := hid hF
 obtain ⟨at9, ct9, rfl⟩ := ht.sl
 clear hM hE ht hi hs hr hl hsl hF hP s0 s1
 unfold inV
 dsimp only
 go_enter Tryz.func131, Tryz.ntmps131
 go_upto_region 2 with fail
 obtain ⟨W1, hW1⟩ : ∃ W, w.alloc (ibox ⟨7, a, n, tx⟩) = W := ⟨_, rfl⟩
 rw [hW1] at HLO HM HE HT j0 j1 j2 j3 m0 m1 m2 m3 m4 m5 m6 m7 s2
 unfold ibox at hW1
 rw [hW1]
 clear hW1
 have HY : Hid (0 ≤ a ∧ a ≤ 10) := hid (by have := HI.out.conv rfl; dsimp only at this; omega)
 have HK : Hid (putK fns ⟨7, a, n, tx⟩ sl tk = a) := hid rfl
 go_wp2_with (go_at_call 132; refine (kindText_any _ HY.out _).mono ?_; rintro e w5 ⟨rfl, hb5⟩; have HB5 := hid (HLO.out.trans (hb5.mono (HLO.out).size)); clear hb5)
 go_ret2
 have hz := put_end (fns := fns) (i := ⟨7, a, n, tx⟩) (sl := sl) (tk := tk) HB5.out (show ¬ putsT 7 = 0 by decide) (by simp) HK.out
 simpa [bne] using hz
set_option maxHeartbeats 2000000 in
theorem put_2 {fns : List Fn} {f : Fn} {b : Nat} {cv pv iv xv wv : Value} {w : World} (hM : MS fns f b cv pv iv xv wv w) (hE : EnvI w) {a n : Int} {tx : ByteArray} (hi : InsR fns f ⟨2, a, n, tx⟩) {sl tk : List Int} {tv : Value} (hs : Ok10 sl) (ht : IntRow w tv tk) (hr : ∀ x ∈ tk, 1 ≤ x ∧ x ≤ 10) (hl : tk.length = takesN fns ⟨2, a, n, tx⟩) (hsl : sl.length = f.S) (hF : ∀ g ∈ fns, FnR fns g) :
  Calls Tryz.prog 131 #[.pointer (some ⟨b, 0, none⟩), inV ⟨2, a, n, tx⟩, .string (kt sl), tv] w (PutEnd fns ⟨2, a, n, tx⟩ sl tk w) := by
 have HLO : Hid (Below w.heap.size w (w.alloc (ibox ⟨2, a, n, tx⟩))) := hid ((Below.refl _ _).alloc (Nat.le_refl _) _)
 have HM := hid (hM.next HLO.out)
 have HE := hid (hE.next HLO.out)
 have HT := hid (ht.next HLO.out)
 obtain ⟨j0, j1, j2, j3⟩ := ix (ibox_new w ⟨2, a, n, tx⟩)
 obtain ⟨m0, m1, m2, m3, m4, m5, m6, m7⟩ := mx HM.out
 obtain ⟨_, s0, s1, s2, _⟩ := HE.out.rows 2 (by omega) (by omega)
 dsimp only at j0 j1 j2 j3
 have hP : putsT 2 = 2 := rfl
 rw [hP] at s2
 simp only [Nat.reduceMul, Nat.reduceAdd] at s0 s1 s2
 have HI := hid hi
 have HS := hid hs
 have HR := hid hr
 have HL := hid hl
 have HSL := hid hsl
 have HF := hid hF
 obtain ⟨at9, ct9, rfl⟩ := ht.sl
 clear hM hE ht hi hs hr hl hsl hF hP s0 s1
 unfold inV
 dsimp only
 go_enter Tryz.func131, Tryz.ntmps131
 go_upto_region 2 with fail
 obtain ⟨W1, hW1⟩ : ∃ W, w.alloc (ibox ⟨2, a, n, tx⟩) = W := ⟨_, rfl⟩
 rw [hW1] at HLO HM HE HT j0 j1 j2 j3 m0 m1 m2 m3 m4 m5 m6 m7 s2
 unfold ibox at hW1
 rw [hW1]
 clear hW1
 have hb := HI.out.slot (.inl rfl)
 dsimp only at hb
 obtain ⟨q, rfl⟩ : ∃ q : Nat, a = q := ⟨a.toNat, by omega⟩
 have hq : q < sl.length := by rw [HSL.out]; unfold Fn.S; omega
 have hq2 : q < (kt sl).size := by rw [kt_size]; exact hq
 have hq3 : (q : Int) < ((kt sl).size : Int) := by omega
 have hyv := kt_get HS.out hq2
 have hr9 := getD_range0 HS.out q
 obtain ⟨y, hy⟩ : ∃ y, sl.getD q 0 = y := ⟨_, rfl⟩
 rw [hy] at hyv hr9
 have HY := hid hr9
 have hwy : IntKind.i64.wrap y = y := by rw [IntKind.wrap_i64]; omega
 have HK : Hid (putK fns ⟨2, (q : Int), n, tx⟩ sl tk = y) := hid (by rw [← hy]; rfl)
 clear hb hy hr9
 go_wp2_with (go_at_call 132; refine (kindText_any _ HY.out _).mono ?_; rintro e w5 ⟨rfl, hb5⟩; have HB5 := hid (HLO.out.trans (hb5.mono (HLO.out).size)); clear hb5)
 go_ret2
 have hz := put_end (fns := fns) (i := ⟨2, (q : Int), n, tx⟩) (sl := sl) (tk := tk) HB5.out (show ¬ putsT 2 = 0 by decide) (by simp) HK.out
 simpa [bne] using hz
set_option maxHeartbeats 2000000 in
theorem put_5 {fns : List Fn} {f : Fn} {b : Nat} {cv pv iv xv wv : Value} {w : World} (hM : MS fns f b cv pv iv xv wv w) (hE : EnvI w) {a n : Int} {tx : ByteArray} (hi : InsR fns f ⟨5, a, n, tx⟩) {sl tk : List Int} {tv : Value} (hs : Ok10 sl) (ht : IntRow w tv tk) (hr : ∀ x ∈ tk, 1 ≤ x ∧ x ≤ 10) (hl : tk.length = takesN fns ⟨5, a, n, tx⟩) (hsl : sl.length = f.S) (hF : ∀ g ∈ fns, FnR fns g) :
  Calls Tryz.prog 131 #[.pointer (some ⟨b, 0, none⟩), inV ⟨5, a, n, tx⟩, .string (kt sl), tv] w (PutEnd fns ⟨5, a, n, tx⟩ sl tk w) := by
 have HLO : Hid (Below w.heap.size w (w.alloc (ibox ⟨5, a, n, tx⟩))) := hid ((Below.refl _ _).alloc (Nat.le_refl _) _)
 have HM := hid (hM.next HLO.out)
 have HE := hid (hE.next HLO.out)
 have HT := hid (ht.next HLO.out)
 obtain ⟨j0, j1, j2, j3⟩ := ix (ibox_new w ⟨5, a, n, tx⟩)
 obtain ⟨m0, m1, m2, m3, m4, m5, m6, m7⟩ := mx HM.out
 obtain ⟨_, s0, s1, s2, _⟩ := HE.out.rows 5 (by omega) (by omega)
 dsimp only at j0 j1 j2 j3
 have hP : putsT 5 = 3 := rfl
 rw [hP] at s2
 simp only [Nat.reduceMul, Nat.reduceAdd] at s0 s1 s2
 have HI := hid hi
 have HS := hid hs
 have HR := hid hr
 have HL := hid hl
 have HSL := hid hsl
 have HF := hid hF
 obtain ⟨at9, ct9, rfl⟩ := ht.sl
 clear hM hE ht hi hs hr hl hsl hF hP s0 s1
 unfold inV
 dsimp only
 go_enter Tryz.func131, Tryz.ntmps131
 go_upto_region 2 with fail
 obtain ⟨W1, hW1⟩ : ∃ W, w.alloc (ibox ⟨5, a, n, tx⟩) = W := ⟨_, rfl⟩
 rw [hW1] at HLO HM HE HT j0 j1 j2 j3 m0 m1 m2 m3 m4 m5 m6 m7 s2
 unfold ibox at hW1
 rw [hW1]
 clear hW1
 have ht1 : tk.length = 1 := by rw [HL.out]; rfl
 obtain ⟨gT, cT, e9, _, _, _, hcT⟩ := HT.out.at (i := 0) (by omega)
 injection e9 with ea en ec
 clear en
 subst ea ec
 have kT := hcT 0 (by omega)
 obtain ⟨x, hx⟩ : ∃ x, tk.getD 0 0 = x := ⟨_, rfl⟩
 rw [hx] at kT
 have hxr : 0 ≤ x ∧ x ≤ 10 := by rw [← hx]; exact getD_range HR.out 0
 have HK : Hid (putK fns ⟨5, a, n, tx⟩ sl tk = unG a x) := hid (by rw [← hx]; rfl)
 have HY : Hid (0 ≤ unG a x ∧ unG a x ≤ 10) := hid (unG_range hxr)
 have hti : (0 : Int) < (tk.length : Int) := by omega
 have htn : 0 < tk.length := by omega
 have HC := hid (fun W => unGives_any a x W)
 obtain ⟨y, hy⟩ : ∃ y, unG a x = y := ⟨_, rfl⟩
 rw [hy] at HK HY HC
 obtain ⟨L, hL⟩ : ∃ L, tk.length = L := ⟨_, rfl⟩
 rw [hL] at hti htn ⊢
 clear hcT hx hy hxr ht1 hL
 go_wp2_with fail
 go_quiet (first | (go_at_call 148; exact Calls.quiet_of_same (HC.out _)) | fail)
 go_wp2_with (go_at_call 132; refine (kindText_any _ HY.out _).mono ?_; rintro e w5 ⟨rfl, hb5⟩; have HB5 := hid ((below_drewN HLO.out _).trans (hb5.mono (below_drewN HLO.out _).size)); clear hb5)
 go_ret2
 have hz := put_end (fns := fns) (i := ⟨5, a, n, tx⟩) (sl := sl) (tk := tk) HB5.out (show ¬ putsT 5 = 0 by decide) (by simp) HK.out
 simpa [bne] using hz
set_option maxHeartbeats 2000000 in
theorem put_6 {fns : List Fn} {f : Fn} {b : Nat} {cv pv iv xv wv : Value} {w : World} (hM : MS fns f b cv pv iv xv wv w) (hE : EnvI w) {a n : Int} {tx : ByteArray} (hi : InsR fns f ⟨6, a, n, tx⟩) {sl tk : List Int} {tv : Value} (hs : Ok10 sl) (ht : IntRow w tv tk) (hr : ∀ x ∈ tk, 1 ≤ x ∧ x ≤ 10) (hl : tk.length = takesN fns ⟨6, a, n, tx⟩) (hsl : sl.length = f.S) (hF : ∀ g ∈ fns, FnR fns g) :
  Calls Tryz.prog 131 #[.pointer (some ⟨b, 0, none⟩), inV ⟨6, a, n, tx⟩, .string (kt sl), tv] w (PutEnd fns ⟨6, a, n, tx⟩ sl tk w) := by
 have HLO : Hid (Below w.heap.size w (w.alloc (ibox ⟨6, a, n, tx⟩))) := hid ((Below.refl _ _).alloc (Nat.le_refl _) _)
 have HM := hid (hM.next HLO.out)
 have HE := hid (hE.next HLO.out)
 have HT := hid (ht.next HLO.out)
 obtain ⟨j0, j1, j2, j3⟩ := ix (ibox_new w ⟨6, a, n, tx⟩)
 obtain ⟨m0, m1, m2, m3, m4, m5, m6, m7⟩ := mx HM.out
 obtain ⟨_, s0, s1, s2, _⟩ := HE.out.rows 6 (by omega) (by omega)
 dsimp only at j0 j1 j2 j3
 have hP : putsT 6 = 4 := rfl
 rw [hP] at s2
 simp only [Nat.reduceMul, Nat.reduceAdd] at s0 s1 s2
 have HI := hid hi
 have HS := hid hs
 have HR := hid hr
 have HL := hid hl
 have HSL := hid hsl
 have HF := hid hF
 obtain ⟨at9, ct9, rfl⟩ := ht.sl
 clear hM hE ht hi hs hr hl hsl hF hP s0 s1
 unfold inV
 dsimp only
 go_enter Tryz.func131, Tryz.ntmps131
 go_upto_region 2 with fail
 obtain ⟨W1, hW1⟩ : ∃ W, w.alloc (ibox ⟨6, a, n, tx⟩) = W := ⟨_, rfl⟩
 rw [hW1] at HLO HM HE HT j0 j1 j2 j3 m0 m1 m2 m3 m4 m5 m6 m7 s2
 unfold ibox at hW1
 rw [hW1]
 clear hW1
 have ht1 : tk.length = 2 := by rw [HL.out]; rfl
 obtain ⟨gT, cT, e9, _, _, _, hcT⟩ := HT.out.at (i := 0) (by omega)
 injection e9 with ea en ec
 clear en
 subst ea ec
 have kT := hcT 0 (by omega)
 have kT2 := hcT 1 (by omega)
 obtain ⟨x, hx⟩ : ∃ x, tk.getD 0 0 = x := ⟨_, rfl⟩
 obtain ⟨x2, hx2⟩ : ∃ x, tk.getD 1 0 = x := ⟨_, rfl⟩
 rw [hx] at kT
 rw [hx2] at kT2
 have hxr : 0 ≤ x ∧ x ≤ 10 := by rw [← hx]; exact getD_range HR.out 0
 have HK : Hid (putK fns ⟨6, a, n, tx⟩ sl tk = binG a x x2) := hid (by rw [← hx, ← hx2]; rfl)
 have HY : Hid (0 ≤ binG a x x2 ∧ binG a x x2 ≤ 10) := hid (binG_range hxr)
 have hti : (0 : Int) < (tk.length : Int) := by omega
 have htn : 0 < tk.length := by omega
 have hti1 : (1 : Int) < (tk.length : Int) := by omega
 have htn1 : 1 < tk.length := by omega
 have hb := HI.out.bin rfl
 dsimp only at hb
 have HC := hid (fun W => binGives_any a x x2 hxr hb W)
 obtain ⟨y, hy⟩ : ∃ y, binG a x x2 = y := ⟨_, rfl⟩
 rw [hy] at HK HY HC
 obtain ⟨L, hL⟩ : ∃ L, tk.length = L := ⟨_, rfl⟩
 rw [hL] at hti htn hti1 htn1 ⊢
 clear hcT hx hx2 hy hxr ht1 hL hb
 go_wp2_with fail
 go_quiet (first | (go_at_call 149; exact Calls.quiet_of_same (HC.out _)) | fail)
 go_wp2_with (go_at_call 132; refine (kindText_any _ HY.out _).mono ?_; rintro e w5 ⟨rfl, hb5⟩; have HB5 := hid ((below_drewN HLO.out _).trans (hb5.mono (below_drewN HLO.out _).size)); clear hb5)
 go_ret2
 have hz := put_end (fns := fns) (i := ⟨6, a, n, tx⟩) (sl := sl) (tk := tk) HB5.out (show ¬ putsT 6 = 0 by decide) (by simp) HK.out
 simpa [bne] using hz
set_option maxHeartbeats 2000000 in
theorem put_8 {fns : List Fn} {f : Fn} {b : Nat} {cv pv iv xv wv : Value} {w : World} (hM : MS fns f b cv pv iv xv wv w) (hE : EnvI w) {a n : Int} {tx : ByteArray} (hi : InsR fns f ⟨8, a, n, tx⟩) {sl tk : List Int} {tv : Value} (hs : Ok10 sl) (ht : IntRow w tv tk) (hr : ∀ x ∈ tk, 1 ≤ x ∧ x ≤ 10) (hl : tk.length = takesN fns ⟨8, a, n, tx⟩) (hsl : sl.length = f.S) (hF : ∀ g ∈ fns, FnR fns g) :
  Calls Tryz.prog 131 #[.pointer (some ⟨b, 0, none⟩), inV ⟨8, a, n, tx⟩, .string (kt sl), tv] w (PutEnd fns ⟨8, a, n, tx⟩ sl tk w) := by
 have HLO : Hid (Below w.heap.size w (w.alloc (ibox ⟨8, a, n, tx⟩))) := hid ((Below.refl _ _).alloc (Nat.le_refl _) _)
 have HM := hid (hM.next HLO.out)
 have HE := hid (hE.next HLO.out)
 have HT := hid (ht.next HLO.out)
 obtain ⟨j0, j1, j2, j3⟩ := ix (ibox_new w ⟨8, a, n, tx⟩)
 obtain ⟨m0, m1, m2, m3, m4, m5, m6, m7⟩ := mx HM.out
 obtain ⟨_, s0, s1, s2, _⟩ := HE.out.rows 8 (by omega) (by omega)
 dsimp only at j0 j1 j2 j3
 have hP : putsT 8 = 5 := rfl
 rw [hP] at s2
 simp only [Nat.reduceMul, Nat.reduceAdd] at s0 s1 s2
 have HI := hid hi
 have HS := hid hs
 have HR := hid hr
 have HL := hid hl
 have HSL := hid hsl
 have HF := hid hF
 obtain ⟨at9, ct9, rfl⟩ := ht.sl
 clear hM hE ht hi hs hr hl hsl hF hP s0 s1
 unfold inV
 dsimp only
 go_enter Tryz.func131, Tryz.ntmps131
 go_upto_region 2 with fail
 obtain ⟨W1, hW1⟩ : ∃ W, w.alloc (ibox ⟨8, a, n, tx⟩) = W := ⟨_, rfl⟩
 rw [hW1] at HLO HM HE HT j0 j1 j2 j3 m0 m1 m2 m3 m4 m5 m6 m7 s2
 unfold ibox at hW1
 rw [hW1]
 clear hW1
 have hb := HI.out.built rfl
 dsimp only at hb
 obtain ⟨q, rfl⟩ : ∃ q : Nat, a = q := ⟨a.toNat, by omega⟩
 obtain ⟨v, b0, b1, _⟩ := HE.out.signs q (by omega) (by omega)
 have hki : (q : Int) < 13 := by omega
 have hkn : q < 13 := by omega
 have HY0 := sig_range (q : Int)
 have HK : Hid (putK fns ⟨8, (q : Int), n, tx⟩ sl tk = (sig (q : Int)).2) := hid rfl
 obtain ⟨y, hy⟩ : ∃ y, (sig (q : Int)).2 = y := ⟨_, rfl⟩
 rw [hy] at b1 HY0 HK
 have HY : Hid (0 ≤ y ∧ y ≤ 10) := hid (by omega)
 clear hb hy HY0 b0
 go_wp2_with (go_at_call 132; refine (kindText_any _ HY.out _).mono ?_; rintro e w5 ⟨rfl, hb5⟩; have HB5 := hid (HLO.out.trans (hb5.mono (HLO.out).size)); clear hb5)
 go_ret2
 have hz := put_end (fns := fns) (i := ⟨8, (q : Int), n, tx⟩) (sl := sl) (tk := tk) HB5.out (show ¬ putsT 8 = 0 by decide) (by simp) HK.out
 simpa [bne] using hz
set_option maxHeartbeats 2000000 in
theorem put_9 {fns : List Fn} {f : Fn} {b : Nat} {cv pv iv xv wv : Value} {w : World} (hM : MS fns f b cv pv iv xv wv w) (hE : EnvI w) {a n : Int} {tx : ByteArray} (hi : InsR fns f ⟨9, a, n, tx⟩) {sl tk : List Int} {tv : Value} (hs : Ok10 sl) (ht : IntRow w tv tk) (hr : ∀ x ∈ tk, 1 ≤ x ∧ x ≤ 10) (hl : tk.length = takesN fns ⟨9, a, n, tx⟩) (hsl : sl.length = f.S) (hF : ∀ g ∈ fns, FnR fns g) :
  Calls Tryz.prog 131 #[.pointer (some ⟨b, 0, none⟩), inV ⟨9, a, n, tx⟩, .string (kt sl), tv] w (PutEnd fns ⟨9, a, n, tx⟩ sl tk w) := by
 have HLO : Hid (Below w.heap.size w (w.alloc (ibox ⟨9, a, n, tx⟩))) := hid ((Below.refl _ _).alloc (Nat.le_refl _) _)
 have HM := hid (hM.next HLO.out)
 have HE := hid (hE.next HLO.out)
 have HT := hid (ht.next HLO.out)
 obtain ⟨j0, j1, j2, j3⟩ := ix (ibox_new w ⟨9, a, n, tx⟩)
 obtain ⟨m0, m1, m2, m3, m4, m5, m6, m7⟩ := mx HM.out
 obtain ⟨_, s0, s1, s2, _⟩ := HE.out.rows 9 (by omega) (by omega)
 dsimp only at j0 j1 j2 j3
 have hP : putsT 9 = 6 := rfl
 rw [hP] at s2
 simp only [Nat.reduceMul, Nat.reduceAdd] at s0 s1 s2
 have HI := hid hi
 have HS := hid hs
 have HR := hid hr
 have HL := hid hl
 have HSL := hid hsl
 have HF := hid hF
 obtain ⟨at9, ct9, rfl⟩ := ht.sl
 clear hM hE ht hi hs hr hl hsl hF hP s0 s1
 unfold inV
 dsimp only
 go_enter Tryz.func131, Tryz.ntmps131
 go_upto_region 2 with fail
 obtain ⟨W1, hW1⟩ : ∃ W, w.alloc (ibox ⟨9, a, n, tx⟩) = W := ⟨_, rfl⟩
 rw [hW1] at HLO HM HE HT j0 j1 j2 j3 m0 m1 m2 m3 m4 m5 m6 m7 s2
 unfold ibox at hW1
 rw [hW1]
 clear hW1
 have hb := HI.out.call rfl
 dsimp only at hb
 obtain ⟨q, rfl⟩ : ∃ q : Nat, a = q := ⟨a.toNat, by omega⟩
 have hk : q < fns.length := by omega
 obtain ⟨gF, cF2, hcv, hgF, pv2, iv2, n0, n1, n2, n3, n4, hpv, _⟩ := HM.out.fr.at hk
 rw [hcv] at m0
 have hki : (q : Int) < (fns.length : Int) := by omega
 have hr9 := (HF.out (fns.getD q fn0) (by rw [List.getD_eq_getElem?_getD, List.getElem?_eq_getElem hk]; exact List.getElem_mem hk)).result
 have HK : Hid (putK fns ⟨9, (q : Int), n, tx⟩ sl tk = (fns.getD q fn0).result) := hid rfl
 have HK0 : Hid ((fns.getD q fn0).result = 0 → putR fns ⟨9, (q : Int), n, tx⟩ sl tk = ([], true)) := hid (fun h => (if_neg (show ¬ putsT 9 = 0 by decide)).trans (if_pos ⟨rfl, h⟩))
 obtain ⟨y, hy⟩ : ∃ y, (fns.getD q fn0).result = y := ⟨_, rfl⟩
 have HYQ := hid hy
 rw [hy] at n2 hr9 HK
 have HY : Hid (0 ≤ y ∧ y ≤ 10) := hid hr9
 clear hb hy hr9 hcv n0 n1 n3 n4 hpv
 by_cases hy0 : y = 0
 ·subst hy0
  go_wp2_with fail
  go_quiet (fail)
  go_wp2_with fail
  go_ret2
  refine ⟨?_, below_drewN HLO.out _⟩
  rw [HK0.out HYQ.out]
  rfl
 ·have hyf : (y == 0) = false := by simpa using hy0
  have HN9 := hid hy0
  clear hy0
  go_wp2_with fail
  go_quiet (fail)
  go_wp2_with (go_at_call 132; refine (kindText_any _ HY.out _).mono ?_; rintro e w5 ⟨rfl, hb5⟩; have HB5 := hid ((below_drewN HLO.out _).trans (hb5.mono (below_drewN HLO.out _).size)); clear hb5)
  go_ret2
  have hz := put_end (fns := fns) (i := ⟨9, (q : Int), n, tx⟩) (sl := sl) (tk := tk) HB5.out (show ¬ putsT 9 = 0 by decide) (fun h2 => HN9.out (HYQ.out.symm.trans h2.2)) HK.out
  simpa [bne] using hz
theorem put_any {fns : List Fn} {f : Fn} {b : Nat} {cv pv iv xv wv : Value} {w : World} (hM : MS fns f b cv pv iv xv wv w) (hE : EnvI w) {i : In} (hi : InsR fns f i) {sl tk : List Int} {tv : Value} (hs : Ok10 sl) (ht : IntRow w tv tk) (hr : ∀ x ∈ tk, 1 ≤ x ∧ x ≤ 10) (hl : tk.length = takesN fns i) (hsl : sl.length = f.S) (hF : ∀ g ∈ fns, FnR fns g) :
  Calls Tryz.prog 131 #[.pointer (some ⟨b, 0, none⟩), inV i, .string (kt sl), tv] w (PutEnd fns i sl tk w) := by
 obtain ⟨op, a, n, tx⟩ := i
 have hop := hi.op
 dsimp only at hop
 obtain rfl | rfl | rfl | rfl | rfl | rfl | rfl | rfl | rfl | rfl | rfl | rfl | rfl | rfl | rfl | rfl : op = 1 ∨ op = 2 ∨ op = 3 ∨ op = 4 ∨ op = 5 ∨ op = 6 ∨ op = 7 ∨ op = 8 ∨ op = 9 ∨ op = 10 ∨ op = 11 ∨ op = 12 ∨ op = 13 ∨ op = 14 ∨ op = 15 ∨ op = 16 := by omega
 ·exact put_1 hM hE hi hs ht hr hl hsl hF
 ·exact put_2 hM hE hi hs ht hr hl hsl hF
 ·exact put_3 hM hE hi hs ht hr hl hsl hF
 ·exact put_4 hM hE hi hs ht hr hl hsl hF
 ·exact put_5 hM hE hi hs ht hr hl hsl hF
 ·exact put_6 hM hE hi hs ht hr hl hsl hF
 ·exact put_7 hM hE hi hs ht hr hl hsl hF
 ·exact put_8 hM hE hi hs ht hr hl hsl hF
 ·exact put_9 hM hE hi hs ht hr hl hsl hF
 ·exact put_10 hM hE hi hs ht hr hl hsl hF
 ·exact put_11 hM hE hi hs ht hr hl hsl hF
 ·exact put_12 hM hE hi hs ht hr hl hsl hF
 ·exact put_13 hM hE hi hs ht hr hl hsl hF
 ·exact put_14 hM hE hi hs ht hr hl hsl hF
 ·exact put_15 hM hE hi hs ht hr hl hsl hF
 ·exact put_16 hM hE hi hs ht hr hl hsl hF
end Go.Proofs.YtcjgcipacfcjnaaGreatDoor.C
