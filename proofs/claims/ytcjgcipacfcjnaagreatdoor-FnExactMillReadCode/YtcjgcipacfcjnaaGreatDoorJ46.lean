import Derived.Test.YtcjgcipacfcjnaaGreatDoorJ45
import Derived.Test.YtcjgcipacfcjnaaGreatDoorJ41
import Derived.Test.YtcjgcipacfcjnaaGreatDoorJ43
import Derived.Test.YtcjgcipacfcjnaaGreatDoorJ35
namespace Go.Proofs.YtcjgcipacfcjnaaGreatDoor.C.D
open Go.RowKit
set_option maxRecDepth 20000
theorem form_ser (fns : List Fn) : formF fns = begF ++ SerF fnF fns := rfl
theorem form_pre {s : ByteArray} {fns : List Fn} (h : formF fns = bts s) : Lib.hasPrefix s.data.toList begF = true := by
 show begF.isPrefixOf (bts s) = true
 rw [← h, form_ser, List.isPrefixOf_iff_prefix]
 exact List.prefix_append _ _
theorem form_drop {s : ByteArray} {fns : List Fn} (h : formF fns = bts s) : (bts s).drop 5 = SerF fnF fns := by
 rw [← h, form_ser]
 exact List.drop_left' rfl
theorem pre_form {s : ByteArray} (h : Lib.hasPrefix s.data.toList begF = true) : bts s = begF ++ (bts s).drop 5 ∧ 5 ≤ s.size := by
 have h1 : begF <+: bts s := List.isPrefixOf_iff_prefix.1 h
 obtain ⟨t, ht⟩ := h1
 have hl := congrArg List.length ht
 rw [List.length_append, bts_len] at hl
 refine ⟨?_, ?_⟩
 ·rw [← ht, List.drop_left' (by rfl)]
 ·have : begF.length = 5 := rfl
  omega
theorem fr_all {l d : List UInt8} (h : Fr l d) (hl : l.length = d.length) : d = l := by
 obtain ⟨r, rfl⟩ := h
 rw [List.length_append] at hl
 have : r = [] := List.eq_nil_of_length_eq_zero (by omega)
 rw [this, List.append_nil]
theorem ser_is {s : ByteArray} {l fns : List Fn} (hl : ∀ x ∈ l, FnW x) (hf : Fr (SerF fnF l) ((bts s).drop 5)) (hm : ∀ f ∈ fns, FnS f) (h : formF fns = bts s) : l = fns ∧ 5 + (SerF fnF l).length = s.size := by
 obtain ⟨r, hr⟩ := hf
 have e := form_drop h
 rw [e] at hr
 have hr2 : SerF fnF l ++ r = SerF fnF fns ++ [] := by rw [List.append_nil, ← hr]
 obtain ⟨e1, e2⟩ := ser_pre fn_pre hl (fun x hx => FnS.w (hm x hx)) hr2
 refine ⟨e1, ?_⟩
 have h5 := congrArg List.length h
 rw [form_ser, List.length_append, bts_len] at h5
 rw [e1]
 have : begF.length = 5 := rfl
 omega
theorem codeS_w {l : List Fn} (h : ∀ x ∈ l, FnW x) : CodeS l :=
 ⟨fun j hj => by
  have := (h _ (List.getElem_mem hj)).name
  rw [List.getD_eq_getElem?_getD, List.getElem?_eq_getElem hj]
  show (l[j]).name.size ≤ maxLen
  unfold maxLen
  omega,
 fun j hj p hp => by
  have h1 := (h _ (List.getElem_mem hj)).ins
  have e1 : l.getD j fn0 = l[j] := by rw [List.getD_eq_getElem?_getD, List.getElem?_eq_getElem hj]; rfl
  rw [e1] at hp ⊢
  have e2 : (l[j]).ins.getD p in0 = (l[j]).ins[p] := by rw [List.getD_eq_getElem?_getD, List.getElem?_eq_getElem hp]; rfl
  rw [e2]
  have := (h1 _ (List.getElem_mem hp)).n64
  omega⟩
theorem n64_w {l : List Fn} (h : ∀ x ∈ l, FnW x) : ∀ f ∈ l, ∀ x ∈ f.ins, -9223372036854775808 ≤ x.n ∧ x.n ≤ 9223372036854775807 := fun f hf x hx => by
 have := ((h f hf).ins x hx).n64
 omega
theorem farG_of {W : World} {g : Nat} (h : EnvF W) (hg : W.heap.size ≤ g) : FarG g := by
 obtain ⟨⟨t1, u1, a⟩, ⟨t2, u2, b⟩, ⟨t3, u3, c⟩, ⟨t4, u4, d⟩, e⟩ := h
 have := cell_in a
 have := cell_in b
 have := cell_in c
 have := cell_in d
 have := cell_in (e 1 (by omega) (by omega))
 exact ⟨by omega, by omega, by omega, by omega, by omega⟩
def IFmEnd (s : ByteArray) (w : World) (e : Ending) (w' : World) : Prop := Below w.heap.size w w' ∧ ((∃ (av : Option Addr) (cv B : Nat) (L : List FnE), e = .returned (.tuple #[.agg #[.slice av L.length cv], .nilIface]) ∧ w.heap.size ≤ B ∧ OwnE B w' (.slice av L.length cv) L ∧ RcAns s (some (L.map FnE.f))) ∨ ∃ (a : Int) (t : TypeId) (u : Value), e = .returned (.tuple #[.agg #[.slice none 0 0], .iface 70 (.agg #[.int .i64 a, .iface t u])]) ∧ RcAns s none)
structure FM (s : ByteArray) (w : World) (q : Nat) (W : World) : Prop where
 lo : Below w.heap.size w W
 e0 : W.heap[w.heap.size]? = some (.cells #[.slice none 0 0] 29 (0, 0))
 rs : RS W (w.heap.size + 1) s q
theorem FM.start (s : ByteArray) (w : World) : FM s w 0 ((w.alloc (.cells #[.slice none 0 0] 29)).alloc (.cells #[.string s, .int .i64 0] 100)) := by
 refine ⟨((Below.refl _ _).alloc (Nat.le_refl _) _).alloc (by simp) _, ?_, ?_⟩
 ·rw [Below.heap_alloc _ _ _ (by simp)]
  exact heap_alloc_new _ _
 ·have := heap_alloc_new (w.alloc (.cells #[.slice none 0 0] 29)) (.cells #[.string s, .int .i64 0] 100)
  rw [World.size_alloc] at this
  exact this
theorem FM.next {s : ByteArray} {w W V : World} {q : Nat} (h : FM s w q W) (hb : Below W.heap.size W V) : FM s w q V := ⟨h.lo.trans (hb.mono h.lo.size), hp_next h.e0 hb, h.rs.next hb⟩
theorem FM.grow {s : ByteArray} {w W V : World} {q q' : Nat} (h : FM s w q W) (hg : W.grownBy V (some (w.heap.size + 1))) (hd : RS V (w.heap.size + 1) s q') : FM s w q' V :=
 ⟨grown_lo' h.lo hg h.lo.size (by omega), grown_hp hg h.e0 (by omega), hd⟩
theorem FM.set {s : ByteArray} {w W : World} {q : Nat} (h : FM s w q W) (q' : Nat) (i : Int) (hi : i = q') : FM s w q' (W.setCell ⟨w.heap.size + 1, 1, none⟩ (.int .i64 i)) :=
 ⟨set_lo h.lo _ _ (by omega) _, (set_other _ _ _ _ _ (by omega)).trans h.e0, h.rs.set q' i hi⟩
theorem FM.fin {s : ByteArray} {w W : World} {q : Nat} (h : FM s w q W) (v : Value) : Below w.heap.size w (W.setCell ⟨w.heap.size, 0, none⟩ v) := set_lo h.lo _ _ (Nat.le_refl _) _
theorem fm_bad {s : ByteArray} {w W : World} {q : Nat} (h : FM s w q W) (v : Value) (a : Int) (t : TypeId) (u : Value) (hn : RcAns s none) : IFmEnd s w (.returned (.tuple #[.agg #[.slice none 0 0], .iface 70 (.agg #[.int .i64 a, .iface t u])])) (W.setCell ⟨w.heap.size, 0, none⟩ v) :=
 ⟨h.fin v, .inr ⟨a, t, u, rfl, hn⟩⟩
set_option maxHeartbeats 8000000 in
theorem readForm_any (s : ByteArray) (w : World) (hs : s.size ≤ 1048576) (hev : EnvF w) (hei : EnvI w) :
  Calls Tryz.prog 27 #[.string s] w (IFmEnd s w) := by
 have HM0 := hid (FM.start s w)
 have HEV := hid (hev.next HM0.out.lo)
 have HEI := hid (hei.next HM0.out.lo)
 have HF := hid (farG_of hev (show w.heap.size ≤ w.heap.size + 1 by omega))
 clear hev
 have hsi : (s.size : Int) ≤ 1048576 := by omega
 go_enter Tryz.func27, Tryz.ntmps27
 go_upto_region 2 with fail
 obtain ⟨W0, hW0⟩ : ∃ W, (w.alloc (.cells #[.slice none 0 0] 29)).alloc (.cells #[.string s, .int .i64 0] 100) = W := ⟨_, rfl⟩
 rw [hW0] at HM0 HEV HEI ⊢
 clear hW0
 by_cases hbig : 200000 < s.size
 ·have hbi : (s.size : Int) > 200000 := by omega
  obtain ⟨t9, u9, ce⟩ := HEV.out.long
  go_wp2_with fail
  refine (flaw_any HM0.out.rs t9 u9).mono ?_
  rintro e w9 ⟨rfl, hw⟩
  have hw2 := hw.symm
  clear hw
  subst hw2
  have k0 := cell_hp HM0.out.e0 0
  have f0 := frozen_hp HM0.out.e0 0
  go_wp2
  exact bodyPost_ret (v := .tuple #[.agg #[.slice none 0 0], .iface 70 (.agg #[.int .i64 ((0 : Nat) : Int), .iface t9 u9])]) (by simp [results, Tryz.results27, go_sem, k0]) rfl (fm_bad HM0.out _ _ _ _ (fun fns _ _ _ h => absurd h (by omega)))
 have hbi : ¬ (s.size : Int) > 200000 := by omega
 go_wp2_with fail
 refine (prefix_any s ⟨#[109, 105, 108, 108, 49]⟩ _).mono ?_
 rintro e w1 ⟨rfl, hw⟩
 have hw2 := hw.symm
 clear hw
 subst hw2
 cases hpre : Lib.hasPrefix s.data.toList begF with
 | false =>
  have hpr : Lib.hasPrefix s.data.toList (⟨#[109, 105, 108, 108, 49]⟩ : ByteArray).data.toList = false := hpre
  rw [hpr]
  obtain ⟨t9, u9, ce⟩ := HEV.out.begins
  go_wp2_with fail
  refine (flaw_any HM0.out.rs t9 u9).mono ?_
  rintro e w9 ⟨rfl, hw⟩
  have hw2 := hw.symm
  clear hw
  subst hw2
  have k0 := cell_hp HM0.out.e0 0
  have f0 := frozen_hp HM0.out.e0 0
  go_wp2
  exact bodyPost_ret (v := .tuple #[.agg #[.slice none 0 0], .iface 70 (.agg #[.int .i64 ((0 : Nat) : Int), .iface t9 u9])]) (by simp [results, Tryz.results27, go_sem, k0]) rfl (fm_bad HM0.out _ _ _ _ (fun fns _ _ _ _ h => by rw [form_pre h] at hpre; cases hpre))
 | true =>
  have hpr : Lib.hasPrefix s.data.toList (⟨#[109, 105, 108, 108, 49]⟩ : ByteArray).data.toList = true := hpre
  rw [hpr]
  clear hpr
  have HPF := hid (pre_form hpre)
  clear hpre
  obtain ⟨_, _, f1⟩ := HM0.out.rs.c
  have c1 := HM0.out.rs.c.2.1
  go_upto_region 7 with fail
  have HM1 := hid (HM0.out.set 5 5 rfl)
  have HE1 := hid (HEV.out.set HF.out (Nat.le_refl _) 1 (.int .i64 5))
  obtain ⟨W1, hW1⟩ : ∃ W, W0.setCell ⟨w.heap.size + 1, 1, none⟩ (.int .i64 5) = W := ⟨_, rfl⟩
  rw [hW1] at HM1 HE1 ⊢
  clear hW1 f1 c1 HEV
  have HSE := hid (iSerE_any HM1.out.rs HE1.out HF.out HPF.out.2 (by omega))
  go_wp2_with fail
  refine HSE.out.mono ?_
  rintro e w2 ⟨q2, hd2, h21, h22, hg2, hc2⟩
  have HM2 := hid (HM1.out.grow hg2 hd2)
  have HE2 := hid (HE1.out.grow hg2 HF.out)
  have HSZ1 := hid HM1.out.lo.size
  clear hd2 hg2 HSE HM1 HE1 HM0 HEI
  rcases hc2 with ⟨v, L, rfl, hown, hall, hlen, hq, hfr⟩ | ⟨a9, t9, u9, rfl, hno⟩
  ·have HOW := hid hown
   have HALL := hid hall
   have HQ := hid hq
   have HFR := hid hfr
   obtain ⟨av, cv, rfl⟩ := hown.sl
   clear hown hall hq hfr
   obtain ⟨c0, c1, _⟩ := HM2.out.rs.c
   by_cases hlt : q2 < s.size
   ·have hli : (q2 : Int) < (s.size : Int) := by omega
    obtain ⟨t9, u9, ce⟩ := HE2.out.long
    have HNO : Hid (RcAns s none) := hid fun fns _ hf _ _ h => by
     have := (ser_is HALL.out HFR.out hf h).2
     have := HQ.out
     omega
    go_wp2_with fail
    refine (flaw_any HM2.out.rs t9 u9).mono ?_
    rintro e w9 ⟨rfl, hw⟩
    have hw2 := hw.symm
    clear hw
    subst hw2
    have k0 := cell_hp HM2.out.e0 0
    have f0 := frozen_hp HM2.out.e0 0
    go_wp2
    exact bodyPost_ret (v := .tuple #[.agg #[.slice none 0 0], .iface 70 (.agg #[.int .i64 (q2 : Int), .iface t9 u9])]) (by simp [results, Tryz.results27, go_sem, k0]) rfl (fm_bad HM2.out _ _ _ _ (HNO.out))
   ·have hli : ¬ (q2 : Int) < (s.size : Int) := by omega
    have HFM : Hid (formF (L.map FnE.f) = bts s) := hid (by
     have h1 := fr_all HFR.out (by rw [List.length_drop, bts_len]; have := HQ.out; omega)
     rw [form_ser, ← h1]
     exact HPF.out.1.symm)
    have HX3 : Hid (Below w2.heap.size w2 (w2.alloc (.cells #[.slice av L.length cv] 29))) := hid ((Below.refl _ _).alloc (Nat.le_refl _) _)
    have HM3 := hid (HM2.out.next HX3.out)
    have HE3 := hid (HE2.out.next HX3.out)
    have HO3 := hid (HOW.out.next HX3.out)
    have HB3 : Hid ((w2.alloc (.cells #[.slice av L.length cv] 29)).heap[w2.heap.size]? = some (.cells #[.slice av L.length cv] 29 (0, 0))) := hid (heap_alloc_new _ _)
    have HCK := hid (code_any HO3.out.rows (codeS_w HALL.out) (hei.next HM3.out.lo))
    go_upto_region 13 with fail
    obtain ⟨W3, hW3⟩ : ∃ W, w2.alloc (.cells #[.slice av L.length cv] 29) = W := ⟨_, rfl⟩
    obtain ⟨g3, hg3⟩ : ∃ g, w2.heap.size = g := ⟨_, rfl⟩
    rw [hW3] at HM3 HE3 HO3 HB3 HCK ⊢
    rw [hg3] at HB3 ⊢
    clear hW3 hg3 HX3 HM2 HE2 HOW c0 c1
    have b0 := cell_hp HB3.out 0
    go_wp2_with fail
    refine HCK.out.mono ?_
    rintro e w4 ⟨hcs, hb4⟩
    have HM4 := hid (HM3.out.next hb4)
    have HE4 := hid (HE3.out.next hb4)
    have HO4 := hid (HO3.out.next hb4)
    have HB4 := hid (hp_next HB3.out hb4)
    clear hb4 HM3 HE3 HO3 HB3 HCK b0
    rcases hcs with ⟨rfl, hp⟩ | ⟨c, k, i, hc0, rfl, hp⟩
    ·have HAN : Hid (RcAns s (some (L.map FnE.f))) := hid ⟨hp, (fnS_of hp rfl (n64_w HALL.out)).2, (fnS_of hp rfl (n64_w HALL.out)).1, HFM.out, by omega⟩
     clear hp
     have b0 := cell_hp HB4.out 0
     have k0 := cell_hp HM4.out.e0 0
     have f0 := frozen_hp HM4.out.e0 0
     have HOF : Hid (OwnE W1.heap.size (w4.setCell ⟨w.heap.size, 0, none⟩ (.slice av L.length cv)) (.slice av L.length cv) L) := hid (HO4.out.setT HM4.out.e0 (by decide) 0 _)
     go_wp2
     exact bodyPost_ret (v := .tuple #[.agg #[.slice av L.length cv], .nilIface]) (by simp [results, Tryz.results27, go_sem, k0]) rfl (⟨HM4.out.fin _, .inl ⟨av, cv, W1.heap.size, L, rfl, HSZ1.out, HOF.out, HAN.out⟩⟩)
    ·have HNO : Hid (RcAns s none) := hid fun fns hck hf _ _ h => by
      have e1 := (ser_is HALL.out HFR.out hf h).1
      rw [e1] at hp
      exact hc0 (hp.uniq hck).1
     clear hp
     unfold flaw
     have HFL := hid (flaw_any HM4.out.rs 132 (.agg #[.int .i64 c, .int .i64 k, .int .i64 i]))
     go_wp2_with fail
     refine HFL.out.mono ?_
     rintro e w9 ⟨rfl, hw⟩
     have hw2 := hw.symm
     clear hw
     subst hw2
     have k0 := cell_hp HM4.out.e0 0
     have f0 := frozen_hp HM4.out.e0 0
     go_wp2
     exact bodyPost_ret (v := .tuple #[.agg #[.slice none 0 0], .iface 70 (.agg #[.int .i64 (q2 : Int), .iface 132 (.agg #[.int .i64 c, .int .i64 k, .int .i64 i])])]) (by simp [results, Tryz.results27, go_sem, k0]) rfl (fm_bad HM4.out _ _ _ _ HNO.out)
  ·have HNO : Hid (RcAns s none) := hid fun fns _ hf hl _ h => hno fns (fun x hx => FnS.w (hf x hx)) (by omega) (by rw [form_drop h]; exact ⟨[], (List.append_nil _).symm⟩)
   clear hno
   have k0 := cell_hp HM2.out.e0 0
   have f0 := frozen_hp HM2.out.e0 0
   go_wp2
   exact bodyPost_ret (v := .tuple #[.agg #[.slice none 0 0], .iface 70 (.agg #[.int .i64 a9, .iface t9 u9])]) (by simp [results, Tryz.results27, go_sem, k0]) rfl (fm_bad HM2.out _ _ _ _ HNO.out)
set_option maxHeartbeats 4000000 in
theorem markE_nil (K : Nat) (w : World) :
  Calls Tryz.prog 29 #[.slice none 0 0, .int .i64 K] w fun e w' => e = .returned (.int .i64 K) ∧ w' = w := by
 go_enter Tryz.func29, Tryz.ntmps29
 go_wp2
 go_loop [1, 5] (fun k i => k = .int .i64 K ∧ i = .int .i64 0) (fun _ _ => 0)
 case atStart => exact ⟨rfl, rfl⟩
 case round =>
  obtain ⟨rfl, rfl⟩ := hrel
  go_wp2
  go_ret
  exact ⟨rfl, rfl⟩
set_option maxHeartbeats 4000000 in
theorem heldE_nil (K : Nat) (w : World) :
  Calls Tryz.prog 30 #[.slice none 0 0, .int .i64 K] w fun e w' => e = .returned (.int .i64 K) ∧ w' = w := by
 go_enter Tryz.func30, Tryz.ntmps30
 go_wp2
 go_loop [1, 5] (fun k i => k = .int .i64 K ∧ i = .int .i64 0) (fun _ _ => 0)
 case atStart => exact ⟨rfl, rfl⟩
 case round =>
  obtain ⟨rfl, rfl⟩ := hrel
  go_wp2
  go_ret
  exact ⟨rfl, rfl⟩
theorem OwnE.cells {B g n cap : Nat} {W : World} {A C : List FnE} {x : FnE} (h : OwnE B W (.slice (some ⟨g, 0, none⟩) n cap) (A ++ x :: C)) : (W.cell? ⟨g, A.length * 5, none⟩ = some (.string x.f.name) ∧ W.cell? ⟨g, A.length * 5 + 1, none⟩ = some x.pv ∧ W.cell? ⟨g, A.length * 5 + 2, none⟩ = some (.int .i64 x.f.result) ∧ W.cell? ⟨g, A.length * 5 + 3, none⟩ = some (.int .i64 x.f.slots) ∧ W.cell? ⟨g, A.length * 5 + 4, none⟩ = some x.iv) ∧ ∀ i, W.frozen? ⟨g, i, none⟩ = false := by
 obtain ⟨cu, hc, _, _, hz, hcu⟩ := h.cur
 have hlt : A.length < (A ++ x :: C).length := by simp
 obtain ⟨a0, a1, a2, a3, a4⟩ := cellsE_get (A ++ x :: C) A.length hlt
 have e : (A ++ x :: C).getD A.length fne0 = x := by simp
 rw [e] at a0 a1 a2 a3 a4
 exact ⟨⟨(R.row_cell hc _).trans ((hcu _ (by omega)).trans a0), (R.row_cell hc _).trans ((hcu _ (by omega)).trans a1), (R.row_cell hc _).trans ((hcu _ (by omega)).trans a2), (R.row_cell hc _).trans ((hcu _ (by omega)).trans a3), (R.row_cell hc _).trans ((hcu _ (by omega)).trans a4)⟩, fun i => frozen_hp hc i⟩
theorem OwnE.mem {B : Nat} {W : World} {v : Value} {A C : List FnE} {x : FnE} (h : OwnE B W v (A ++ x :: C)) : RowE W x ∧ B ≤ x.lo := by
 obtain ⟨a, _, b⟩ := h.ins x (List.mem_append_right _ List.mem_cons_self)
 exact ⟨b, a⟩
theorem below_own {B e k n : Nat} {w W V : World} {v : Value} {xs : List Value} {lo : Nat} (h : Below B w W) (hB : B ≤ W.heap.size) (ho : W.ownsRow lo e k v n xs) (hl : B ≤ lo) (hg : W.grownBy V v.ownBlock) : Below B w V :=
 h.grown hg hB fun q e => Nat.le_trans hl (own_lo ho q e)
theorem markI_int {B K n T : Nat} {v : Value} {l : List Int} (w : World) (h : OwnI B w v l) (hl : l.length = n) (hn : n ≤ 200000) (hK : K ≤ 100000000) (a : Int) (he : a = (K : Nat)) (hT : K + n = T) :
  Calls Tryz.prog 57 #[v, .int .i64 a] w fun e w' => e = .returned (.int .i64 (T : Nat)) ∧ w.grownBy w' v.ownBlock ∧ OwnI B w' v (mkI K n) := by
 subst he hl hT
 exact markI_own w h hn hK
theorem markN_int {B K n T : Nat} {v : Value} {l : List In} (w : World) (h : OwnN B w v l) (hl : l.length = n) (hn : n ≤ 200000) (hK : 0 < K) (hK2 : K ≤ 5000000) (a : Int) (he : a = (K : Nat)) (hT : K + 4 * n = T) :
  Calls Tryz.prog 58 #[v, .int .i64 a] w fun e w' => e = .returned (.int .i64 (T : Nat)) ∧ w.grownBy w' v.ownBlock ∧ OwnN B w' v (mkN K n) := by
 subst he hl hT
 exact markN_own w h hn hK hK2
def KT (W V : World) : Prop := ∀ (g : Nat) (cur : Array Value) (t : TypeId), ¬ t = 57 → ¬ t = 3 → ¬ t = 84 → W.heap[g]? = some (.cells cur t (0, 0)) → V.heap[g]? = some (.cells cur t (0, 0))
theorem KT.refl (W : World) : KT W W := fun _ _ _ _ _ _ h => h
theorem KT.next {W V U : World} (h : KT W V) (hb : Below V.heap.size V U) : KT W U := fun g cur t h1 h2 h3 hc => hp_next (h g cur t h1 h2 h3 hc) hb
theorem KT.setF {W V : World} {g i : Nat} {cu : Array Value} {u : Value} (h : KT W V) (hc : V.heap[g]? = some (.cells cu 57 (0, 0))) : KT W (V.setCell ⟨g, i, none⟩ u) := fun b cur t h1 h2 h3 hb => (set_other _ _ _ _ _ fun ee => by
  have h4 := h b cur t h1 h2 h3 hb
  subst ee
  rw [hc] at h4
  injection h4 with h4
  injection h4 with _ h4 _
  exact h1 h4.symm).trans (h b cur t h1 h2 h3 hb)
theorem KT.own {W V U : World} {lo e k n : Nat} {v : Value} {xs : List Value} (h : KT W V) (ho : V.ownsRow lo e k v n xs) (he : e = 3 ∨ e = 84) (hg : V.grownBy U v.ownBlock) : KT W U := fun b cur t h1 h2 h3 hb => box_other (h b cur t h1 h2 h3 hb) ho (fun ee => by
  rcases he with he | he
  ·exact h2 (ee.symm.trans he)
  ·exact h3 (ee.symm.trans he)) hg
set_option maxHeartbeats 8000000 in
theorem markE_row {B K g cap : Nat} {L : List FnE} (w : World) (h : OwnE B w (.slice (some ⟨g, 0, none⟩) L.length cap) L) (hB : B ≤ w.heap.size) (hL : L.length ≤ 1000) (hK : 0 < K) (hw : K + kE L ≤ 4000000) (hx : ∀ x ∈ L, x.f.params.length ≤ 200000 ∧ x.f.ins.length ≤ 200000) :
  Calls Tryz.prog 29 #[.slice (some ⟨g, 0, none⟩) L.length cap, .int .i64 K] w fun e w' => e = .returned (.int .i64 (K + kE L : Nat)) ∧ Below B w w' ∧ KT w w' ∧ OwnE B w' (.slice (some ⟨g, 0, none⟩) L.length cap) (mkE K L) := by
 have HOW := hid h
 have HW := hid hw
 have HX := hid hx
 have HB := hid hB
 obtain ⟨_, _, hBg, _⟩ := h.cur
 have HBG := hid hBg
 clear h hw hx hB hBg
 go_enter Tryz.func29, Tryz.ntmps29
 go_wp2
 go_loopw [1, 5] (fun k i wr => ∃ (A C : List FnE), L = A ++ C ∧ i = .int .i64 A.length ∧ k = .int .i64 (K + kE A : Nat) ∧ Below B w wr ∧ KT w wr ∧ OwnE B wr (.slice (some ⟨g, 0, none⟩) L.length cap) (mkE K A ++ C)) (fun _ i _ => L.length - (intOf i).toNat)
 case atStart => exact ⟨[], L, rfl, rfl, rfl, Below.refl _ _, KT.refl _, HOW.out⟩
 case round =>
  obtain ⟨A, C, hAC, rfl, rfl, hlo, hkt, ho⟩ := hrel
  have HKT := hid hkt
  clear hkt
  cases C with
  | nil =>
   rw [List.append_nil] at hAC ho
   subst hAC
   have HLO := hid hlo
   have HO := hid ho
   clear hlo ho
   go_wp2
   go_ret
   exact ⟨rfl, HLO.out, HKT.out, HO.out⟩
  | cons x C =>
   have HAC := hid hAC
   have hlen : L.length = A.length + 1 + C.length := by rw [hAC]; simp; omega
   have hltn : A.length < L.length := by omega
   have hlti : (A.length : Int) < (L.length : Int) := by omega
   have hkk : kE L = kE A + (wE x + kE C) := by rw [hAC, kE_app]; rfl
   have HPX := hid (HX.out x (by rw [hAC]; simp))
   clear hAC
   have HWE : Hid (wE x = 3 + x.f.params.length + 4 * x.f.ins.length) := hid rfl
   have HLO := hid hlo
   have HO := hid ho
   clear hlo ho
   obtain ⟨M, hM⟩ : ∃ M, K + kE A = M := ⟨_, rfl⟩
   have HM := hid hM
   have hMa : 0 < M := by omega
   have hMb : M + 3 + x.f.params.length + 4 * x.f.ins.length ≤ 4000000 := by have := HW.out; have := HWE.out; omega
   rw [hM]
   clear hM hkk
   obtain ⟨P, hP⟩ : ∃ P, x.f.params.length = P := ⟨_, rfl⟩
   obtain ⟨I, hI⟩ : ∃ I, x.f.ins.length = I := ⟨_, rfl⟩
   have HP := hid hP
   have HI := hid hI
   rw [hP, hI] at hMb
   clear hlen
   have hml : (mkE K A).length = A.length := mkE_len A K
   clear hP hI
   go_upto_region 5 with (go_at_call 56; refine (markText_int _ M _ (by omega) (by omega) (by omega)).mono ?_; rintro e w1 ⟨rfl, hb1⟩; have HO1 := hid (HO.out.next hb1); have HL1 := hid (HLO.out.trans (hb1.mono (Nat.le_trans HB.out HLO.out.size))); have HK1 := hid (HKT.out.next hb1); have k1 := HO1.out.cells.1.1; have f1 := HO1.out.cells.2; rw [hml] at k1; clear hb1)
   have HO2 := hid (HO1.out.setName (mtxt M))
   rw [hml] at HO2
   have HK2 : Hid (KT w (w1.setCell ⟨g, A.length * 5, none⟩ (.string (mtxt M)))) := hid (by obtain ⟨cu, hc, _⟩ := HO1.out.cur; exact HK1.out.setF hc)
   have HL2 := hid (set_lo HL1.out g (A.length * 5) HBG.out (.string (mtxt M)))
   obtain ⟨W2, hW2⟩ : ∃ W, w1.setCell ⟨g, A.length * 5, none⟩ (.string (mtxt M)) = W := ⟨_, rfl⟩
   rw [hW2] at HO2 HL2 HK2 ⊢
   clear hW2 k1 f1 HO1 HL1 HO HLO
   have hPb : P ≤ 200000 := by have := HPX.out.1; have := HP.out; omega
   have hIb : I ≤ 200000 := by have := HPX.out.2; have := HI.out; omega
   obtain ⟨R, hR⟩ : ∃ R, M + 1 + P = R := ⟨_, rfl⟩
   have HR := hid hR
   have hRb : R + 4 * I ≤ 4000000 := by omega
   obtain ⟨T, hT⟩ : ∃ T, R + 2 + 4 * I = T := ⟨_, rfl⟩
   have HT := hid hT
   have hTb : T ≤ 4000002 := by omega
   clear hR hT
   have c1 := HO2.out.cells.1.2.1
   rw [hml] at c1
   dsimp only at c1
   go_upto_region 7 with (go_at_call 57; refine (markI_int (K := M + 1) (n := P) (l := x.f.params) _ HO2.out.mem.1.p HP.out hPb (by omega) _ (by omega) HR.out).mono ?_; rintro e w3 ⟨rfl, hg3, hp3⟩; have HO3 := hid (HO2.out.setPar hg3 hp3); have HK3 := hid (HK2.out.own HO2.out.mem.1.p (.inl rfl) hg3); have HL3 := hid (below_own HL2.out (Nat.le_trans HB.out HL2.out.size) HO2.out.mem.1.p HO2.out.mem.2 hg3); clear hg3 hp3)
   clear c1 HO2 HL2
   have c2 := HO3.out.cells.1.2.2.1
   have f3 := HO3.out.cells.2 (A.length * 5 + 2)
   rw [hml] at c2
   go_upto_region 8 with fail
   have HO4 := hid (HO3.out.setRes (R : Int))
   rw [hml] at HO4
   have HK4 : Hid (KT w (w3.setCell ⟨g, A.length * 5 + 2, none⟩ (.int .i64 (R : Int)))) := hid (by obtain ⟨cu, hc, _⟩ := HO3.out.cur; exact HK3.out.setF hc)
   have HL4 := hid (set_lo HL3.out g (A.length * 5 + 2) HBG.out (.int .i64 (R : Int)))
   obtain ⟨W4, hW4⟩ : ∃ W, w3.setCell ⟨g, A.length * 5 + 2, none⟩ (.int .i64 (R : Int)) = W := ⟨_, rfl⟩
   rw [hW4] at HO4 HL4 HK4 ⊢
   clear hW4 c2 f3 HO3 HL3
   have c3 := HO4.out.cells.1.2.2.2.1
   have f4 := HO4.out.cells.2 (A.length * 5 + 3)
   rw [hml] at c3
   go_upto_region 10 with fail
   have HO5 := hid (HO4.out.setSlots ((R : Int) + 1))
   rw [hml] at HO5
   have HK5 : Hid (KT w (W4.setCell ⟨g, A.length * 5 + 3, none⟩ (.int .i64 ((R : Int) + 1)))) := hid (by obtain ⟨cu, hc, _⟩ := HO4.out.cur; exact HK4.out.setF hc)
   have HL5 := hid (set_lo HL4.out g (A.length * 5 + 3) HBG.out (.int .i64 ((R : Int) + 1)))
   obtain ⟨W5, hW5⟩ : ∃ W, W4.setCell ⟨g, A.length * 5 + 3, none⟩ (.int .i64 ((R : Int) + 1)) = W := ⟨_, rfl⟩
   rw [hW5] at HO5 HL5 HK5 ⊢
   clear hW5 c3 f4 HO4 HL4
   have c4 := HO5.out.cells.1.2.2.2.2
   rw [hml] at c4
   dsimp only at c4
   go_upto_region 3 with (go_at_call 58; refine (markN_int (K := R + 2) (n := I) (l := x.f.ins) _ HO5.out.mem.1.i HI.out hIb (by omega) (by omega) _ (by omega) HT.out).mono ?_; rintro e w6 ⟨rfl, hg6, hp6⟩; have HO6 := hid (HO5.out.setIns hg6 hp6); have HK6 := hid (HK5.out.own HO5.out.mem.1.i (.inr rfl) hg6); have HL6 := hid (below_own HL5.out (Nat.le_trans HB.out HL5.out.size) HO5.out.mem.1.i HO5.out.mem.2 hg6); clear hg6 hp6)
   clear c4 HO5 HL5
   have HFIN : Hid (OwnE B w6 (.slice (some ⟨g, 0, none⟩) L.length cap) (mkE K (A ++ [x]) ++ C)) := hid (by
    have e : mkX (K + kE A) x = ⟨⟨mtxt M, mkI (M + 1) P, (R : Int), (R : Int) + 1, mkN (R + 2) I⟩, x.pv, x.iv, x.lo, x.hi⟩ := by
     unfold mkX mkFn
     rw [HM.out, HP.out, HI.out]
     have hr := HR.out
     have e1 : ((M + 1 + P : Nat) : Int) = (R : Int) := by omega
     have e2 : ((M + 2 + P : Nat) : Int) = (R : Int) + 1 := by omega
     have e3 : M + 3 + P = R + 2 := by omega
     rw [e1, e2, e3]
    rw [mkE_snoc, List.append_assoc, e]
    exact HO6.out)
   have HKK : Hid (K + kE (A ++ [x]) = T) := hid (by rw [kE_snoc, HWE.out, HP.out, HI.out]; have := HM.out; have := HR.out; have := HT.out; omega)
   have HAP : Hid (L = (A ++ [x]) ++ C) := hid (by rw [HAC.out]; simp)
   clear HO6
   go_wp2
   go_roundw
   case rel => exact ⟨A ++ [x], C, HAP.out, by rw [List.length_append]; go_num, by rw [HKK.out], HL6.out, HK6.out, HFIN.out⟩
   case measure => simp [intOf]; omega
end Go.Proofs.YtcjgcipacfcjnaaGreatDoor.C.D
