import Derived.Test.YtcjgcipacfcjnaaGreatDoorJ28
namespace Go.Proofs.YtcjgcipacfcjnaaGreatDoor.C
open Go.RowKit
set_option maxRecDepth 20000
theorem desc_len : ∀ {wk : List Nat} {n : Nat}, wk.Pairwise (· > ·) → (∀ q ∈ wk, q < n) → wk.length ≤ n
 | [], _, _, _ => Nat.zero_le _
 | x :: r, n, h, hb => by
  obtain ⟨h1, h2⟩ := List.pairwise_cons.1 h
  have := desc_len (wk := r) (n := x) h2 (fun q hq => h1 q hq)
  have := hb x (by simp)
  simp only [List.length_cons]
  omega
def RowK (W : World) (v : Value) (l : List Int) (ob : Option Nat) : Prop := IntRow W v l ∧ (l = [] ∨ ∃ g c, v = .slice (some ⟨g, 0, none⟩) l.length c ∧ g < W.heap.size ∧ some g ≠ ob)
theorem RowK.keep {W V : World} {v : Value} {l : List Int} {b gL : Nat} {wv wv' : Value} (h : RowK W v l wv.ownBlock) (hc : CK b gL wv.ownBlock W V) (ho : OwnLater W wv wv') {cs cs' : Array Value} {t t' : TypeId} (eb : W.heap[b]? = some (.cells cs t (0, 0))) (eg : W.heap[gL]? = some (.cells cs' t' (0, 0))) (ht : ¬ t = 3) (ht' : ¬ t' = 3) : RowK V v l wv'.ownBlock := by
 obtain ⟨⟨ad, c, e, h1, h2, h3⟩, h4⟩ := h
 rcases h3 with h3 | ⟨g, cur, e1, e2, e3⟩
 ·exact ⟨⟨ad, c, e, h1, h2, .inl h3⟩, .inl h3⟩
 ·rcases h4 with h4 | ⟨g', c', e4, hg, hob⟩
  ·exact ⟨⟨ad, c, e, h1, h2, .inl h4⟩, .inl h4⟩
  ·have hgg : g' = g := by
    rw [e, e1] at e4
    injection e4 with e4
    injection e4 with e4
    injection e4 with e4
    exact e4.symm
   subst hgg
   have hk : V.heap[g']? = W.heap[g']? := hc.block g' hg (fun eq => by rw [eq, eb] at e2; simp at e2; exact ht e2.2) (fun eq => by rw [eq, eg] at e2; simp at e2; exact ht' e2.2) hob
   refine ⟨⟨ad, c, e, h1, h2, .inr ⟨g', cur, e1, hk.trans e2, e3⟩⟩, .inr ⟨g', c', e4, Nat.lt_of_lt_of_le hg hc.size, ?_⟩⟩
   rcases ho with h9 | ⟨k, h9, h10⟩
   ·rw [h9]; exact hob
   ·rw [h9]
    intro h11
    injection h11 with h11
    omega
def GoEnd (fns : List Fn) (f : Fn) (w : World) (b gL : Nat) (cv pv iv : Value) (A : Nat → Sh) (wk : List Nat) (e : Ending) (w' : World) : Prop := e = .returned (.tuple #[]) ∧ ∃ A' wk' wv', SP fns f w b gL cv pv iv A' wk' wv' w' ∧ WInv fns f A' wk' ∧ ((A' = A ∧ wk' = wk) ∨ tot f.S A' f.ins.length < tot f.S A f.ins.length)
structure GX (fns : List Fn) (f : Fn) (w : World) (b gL : Nat) (cv pv iv : Value) (A : Nat → Sh) (wk : List Nat) (p z : Nat) (s : Sh) (b4 : Nat) (gv : Value) (i : In) (W : World) : Prop where
 sp : ∃ A3 wk3 wv3, SP fns f w b gL cv pv iv A3 wk3 wv3 W ∧ GInv fns f A3 wk3 p z s ∧ ((A3 = A ∧ wk3 = wk) ∨ tot f.S A3 f.ins.length < tot f.S A f.ins.length) ∧ RowK W gv (nums (goes i p)) wv3.ownBlock
 e4 : W.heap[b4]? = some (lbox (s.st : Nat) (kt s.sl) (kt s.sk))
 n4 : ¬ b4 = gL
theorem go_fresh {fns : List Fn} {f : Fn} {w : World} {b gL : Nat} {cv pv iv : Value} {A : Nat → Sh} {wk : List Nat} {wv gv : Value} {W V : World} {l : List Int} (h : SP fns f w b gL cv pv iv A wk wv W) (_hb : Below W.heap.size W V) (hr : IntRow V gv l) (hf : l = [] ∨ ∃ g c, gv = .slice (some ⟨g, 0, none⟩) l.length c ∧ W.heap.size ≤ g) : l = [] ∨ ∃ g c, gv = .slice (some ⟨g, 0, none⟩) l.length c ∧ g < V.heap.size ∧ some g ≠ wv.ownBlock := by
 rcases hf with hf | ⟨g, c, e, hg⟩
 ·exact .inl hf
 ·obtain ⟨ad, c', e1, _, _, h3⟩ := hr
  rcases h3 with h3 | ⟨g', cur, e2, e3, _⟩
  ·exact .inl h3
  ·refine .inr ⟨g, c, e, ?_, fun h9 => ?_⟩
   ·rw [e, e2] at e1
    injection e1 with e1
    injection e1 with e1
    injection e1 with e1
    rw [e1]
    exact lt_hp e3
   ·have := (h.own.lt g h9.symm).2
    omega
theorem go_step {fns : List Fn} {f : Fn} {w : World} {b gL : Nat} {cv pv iv : Value} {A : Nat → Sh} {wk : List Nat} {p z : Nat} {s : Sh} {b4 : Nat} {gv : Value} {i : In} {W : World} (hx : GX fns f w b gL cv pv iv A wk p z s b4 gv i W) {A3 : Nat → Sh} {wk3 : List Nat} {wv3 : Value} (hp : SP fns f w b gL cv pv iv A3 wk3 wv3 W) (hg : GInv fns f A3 wk3 p z s) (ho : (A3 = A ∧ wk3 = wk) ∨ tot f.S A3 f.ins.length < tot f.S A f.ins.length) (hr : RowK W gv (nums (goes i p)) wv3.ownBlock) {g : Nat} (hgz : (goes (f.ins.getD p in0) p)[z]? = some g) (hgn : g < f.ins.length) {V : World} {wv4 : Value} (hck : CK b gL wv3.ownBlock W V) (hol : OwnLater W wv3 wv4)
  (hc : (join (A3 g) s = A3 g ∧ SP fns f w b gL cv pv iv A3 wk3 wv4 V) ∨ (¬ join (A3 g) s = A3 g ∧ SP fns f w b gL cv pv iv (upd A3 g (join (A3 g) s)) (ins1 wk3 g) wv4 V)) : GX fns f w b gL cv pv iv A wk p (z + 1) s b4 gv i V := by
 obtain ⟨cu, elg, _⟩ := id hp.ly
 have hrk := hr.keep hck hol hp.e elg (by decide) (by decide)
 have hnb : ¬ b4 = b := fun e => by
  have h9 := hx.e4
  rw [e, hp.e] at h9
  simp [lbox] at h9
 have hno : some b4 ≠ wv3.ownBlock := own_neS hp.own (by decide) hx.e4
 have e4 : V.heap[b4]? = some (lbox (s.st : Nat) (kt s.sl) (kt s.sk)) := (hck.block b4 (lt_hp hx.e4) hnb hx.n4 hno).trans hx.e4
 rcases hc with ⟨hj, hs4⟩ | ⟨hj, hs4⟩
 ·exact ⟨⟨A3, wk3, wv4, hs4, hg.same hgz hgn hj, ho, hrk⟩, e4, hx.n4⟩
 ·obtain ⟨hgu, hlt⟩ := hg.up hgz hgn hj
  refine ⟨⟨_, _, wv4, hs4, hgu, .inr ?_, hrk⟩, e4, hx.n4⟩
  rcases ho with ⟨h1, _⟩ | h1
  ·rw [h1] at hlt; rw [h1]; exact hlt
  ·exact Nat.lt_trans hlt h1
set_option maxHeartbeats 8000000 in
theorem goOn_any {fns : List Fn} {f : Fn} {w : World} {b gL : Nat} {cv pv iv : Value} {A : Nat → Sh} {wk : List Nat} {wv : Value} {W : World} (hP : SP fns f w b gL cv pv iv A wk wv W) (hG : SG fns f w cv pv iv) {p : Nat} (hp : p < f.ins.length) (hF : ∀ g ∈ fns, FnR fns g) (hf : FnR fns f) (h0 : ¬ (A p).st = 0) (hI : GInv fns f A wk p 0 (behind fns f p (A p))) :
  Calls Tryz.prog 101 #[.pointer (some ⟨b, 0, none⟩), .int .i64 p] W (GoEnd fns f w b gL cv pv iv A wk) := by
 have hIL : f.ins.length ≤ 50000 := hf.some_.2
 have hpi : (p : Int) < (f.ins.length : Int) := by omega
 have HIR : Hid (InsR fns f (f.ins.getD p in0)) := hid (hf.ins _ (by rw [List.getD_eq_getElem?_getD, List.getElem?_eq_getElem hp]; exact List.getElem_mem hp))
 have HLV : Hid (Calls Tryz.prog 102 #[.pointer (some ⟨b, 0, none⟩), .int .i64 p] W (LvEnd fns f p (A p) W)) := hid (leaves_any (hP.ms hG) (hG.en.next hP.lo) hP.ly hp hF hf (hI.low.ok p hp) h0)
 have HP := hid hP
 have HG := hid hG
 have HI := hid hI
 have HS200 : Hid (f.S ≤ 200) := hid (by have := hf.slots; unfold Fn.S; omega)
 obtain ⟨s, hs⟩ : ∃ s, behind fns f p (A p) = s := ⟨_, rfl⟩
 unfold LvEnd at HLV
 rw [hs] at HI HLV
 have HSB := hid hs
 clear hP hG hI hF hf h0 hs
 go_enter Tryz.func101, Tryz.ntmps101
 go_upto_region 1 with (go_at_call 102; refine HLV.out.mono ?_; rintro e W1 ⟨st, u, v, fit, rfl, hft, hff, hb1⟩; have HFT := hid hft; have HFF := hid hff; have HB1 := hid hb1; clear hft hff hb1)
 have HP1 := hid (HP.out.next HB1.out)
 have HAL : Hid (Below W1.heap.size W1 (W1.alloc (lbox (s.st : Nat) (kt s.sl) (kt s.sk)))) := hid ((Below.refl _ _).alloc (Nat.le_refl _) _)
 have E4 : Hid ((W1.alloc (lbox (s.st : Nat) (kt s.sl) (kt s.sk))).heap[W1.heap.size]? = some (lbox (s.st : Nat) (kt s.sl) (kt s.sk))) := hid (heap_alloc_new _ _)
 cases fit with
 | true =>
  have hlv := HFT.out rfl
  unfold lv at hlv
  injection hlv with hlv
  simp at hlv
  obtain ⟨h1, h2, h3⟩ := hlv
  subst h1 h2 h3
  go_upto_region 3 with fail
  have HP2 := hid (HP1.out.next HAL.out)
  obtain ⟨b4, hb4⟩ : ∃ b4, W1.heap.size = b4 := ⟨_, rfl⟩
  have HN4 : Hid (¬ b4 = gL) := hid (by have := HP1.out.ly.lt; omega)
  obtain ⟨W2, hW2⟩ : ∃ W', W1.alloc (lbox (s.st : Nat) (kt s.sl) (kt s.sk)) = W' := ⟨_, rfl⟩
  rw [hW2] at HP2 E4 HAL
  rw [hb4] at E4
  unfold lbox at hW2
  rw [hW2, hb4]
  clear hW2 hb4 HP1 HAL HP HB1 HLV HFT HFF
  have HAF : Hid (Calls Tryz.prog 126 #[.pointer (some ⟨b, 0, none⟩), .int .i64 p] W2 (AftEnd (f.ins.getD p in0) p W2)) := hid (after_fresh (HP2.out.ms HG.out) hp (by omega) HIR.out)
  have HGF := hid (fun q hq => HI.out.good q hq)
  obtain ⟨i, hi⟩ : ∃ i, f.ins.getD p in0 = i := ⟨_, rfl⟩
  rw [hi] at HAF
  have HIE := hid hi
  clear hi
  go_wp2_with (go_at_call 126; refine HAF.out.mono ?_; rintro e W3 ⟨gv, rfl, hgr, hb3, hfr⟩; have HP3 := hid (HP2.out.next hb3); have E43 := hid (hp_next E4.out hb3); have HGX : Hid (GX fns f w b gL cv pv iv A wk p 0 s b4 gv i W3) := hid ⟨⟨A, wk, wv, HP3.out, HI.out, .inl ⟨rfl, rfl⟩, hgr, go_fresh HP2.out hb3 hgr hfr⟩, E43.out, HN4.out⟩; obtain ⟨gad, gc, hgv⟩ := hgr.sl; rw [nums_length] at hgv; subst hgv; clear hgr hb3 hfr)
  have hgl := goes_few i p
  clear HP2 HP3 E4 E43 HAF
  go_loopw [21] (fun ix wr => ∃ z : Nat, z ≤ (goes i p).length ∧ ix = .int .i64 z ∧ GX fns f w b gL cv pv iv A wk p z s b4 (.slice gad (goes i p).length gc) i wr) (fun ix _ => (goes i p).length - (intOf ix).toNat)
  case atStart => exact ⟨0, Nat.zero_le _, rfl, HGX.out⟩
  case round =>
   clear HGX
   obtain ⟨z, hz, rfl, hgx⟩ := hrel
   have HX := hid hgx
   obtain ⟨A3, wk3, wv3, hsp3, hg3, hor3, hrk3⟩ := hgx.sp
   have HP3 := hid hsp3
   have HG3 := hid hg3
   have HOR := hid hor3
   have HRK := hid hrk3
   clear hgx hsp3 hg3 hor3 hrk3
   obtain ⟨x0, x1, x2, _, _, _⟩ := six_l HX.out.e4
   have m6 : wr.cell? ⟨b, 6, none⟩ = some (.slice (some ⟨gL, 0, none⟩) f.ins.length f.ins.length) := (cell_hp HP3.out.e 6).trans rfl
   by_cases hzt : z < (goes i p).length
   ·have hzi : (z : Int) < ((goes i p).length : Int) := by omega
    obtain ⟨g, hgz⟩ : ∃ g, (goes i p)[z]? = some g := ⟨_, List.getElem?_eq_getElem hzt⟩
    have HGZ : Hid ((goes (f.ins.getD p in0) p)[z]? = some g) := hid (by rw [HIE.out]; exact hgz)
    obtain ⟨gg, gc2, e9, _, _, hggl, hgc⟩ := HRK.out.1.at (i := z) (by rw [nums_length]; exact hzt)
    injection e9 with e9 en ec
    clear en
    subst e9 ec
    have n0 := hgc z (by rw [nums_length]; exact hzt)
    rw [nums_get hgz] at n0
    clear hgc hgz
    by_cases hgn : g < f.ins.length
    ·have hgni : (g : Int) < (f.ins.length : Int) := by omega
     have HCM : Hid (Calls Tryz.prog 100 #[.pointer (some ⟨b, 0, none⟩), .int .i64 g, .agg #[.int .i64 (s.st : Nat), .string (kt s.sl), .string (kt s.sk)]] wr (ComeEnd fns f w b gL cv pv iv A3 wk3 wv3 wr g s)) := hid (come_any HP3.out hgn hIL (HG3.out.low.ok g hgn) HG3.out.src.ok HG3.out.src.st HS200.out HG3.out.desc (fun q hq => (HG3.out.good q hq).1) (by have := desc_len HG3.out.desc (fun q hq => (HG3.out.good q hq).1); omega))
     go_wp2_with (go_at_call 100; refine HCM.out.mono ?_; rintro e W4 ⟨rfl, hck, wv4, hol, hcase⟩; have HNX : Hid (GX fns f w b gL cv pv iv A wk p (z + 1) s b4 (.slice (some ⟨gg, 0, none⟩) (goes i p).length gc) i W4) := hid (go_step HX.out HP3.out HG3.out HOR.out HRK.out HGZ.out hgn hck hol hcase); clear hck hol hcase)
     go_roundw
     case rel => exact ⟨z + 1, by omega, by go_num, HNX.out⟩
     case measure => simp [intOf]; omega
    ·have hgni : ¬ (g : Int) < (f.ins.length : Int) := by omega
     go_wp2_with fail
     go_roundw
     case rel => exact ⟨z + 1, by omega, by go_num, ⟨⟨A3, wk3, wv3, HP3.out, HG3.out.out HGZ.out hgn, HOR.out, HRK.out⟩, HX.out.e4, HX.out.n4⟩⟩
     case measure => simp [intOf]; omega
   ·obtain rfl : z = (goes i p).length := by omega
    have hge : ¬ (((goes i p).length : Int) < ((goes i p).length : Int)) := by omega
    go_wp2_with fail
    go_end0
    exact ⟨rfl, A3, wk3, wv3, HP3.out, HG3.out.fin (by rw [HIE.out]; exact Nat.le_refl _), HOR.out⟩
 | false =>
  have HTOP := hid (HFF.out.1 rfl)
  go_upto_region 3 with fail
  have HP2 := hid (HP1.out.next HAL.out)
  obtain ⟨b4, hb4⟩ : ∃ b4, W1.heap.size = b4 := ⟨_, rfl⟩
  have HN4 : Hid (¬ b4 = gL) := hid (by have := HP1.out.ly.lt; omega)
  obtain ⟨W2, hW2⟩ : ∃ W', W1.alloc (lbox (s.st : Nat) (kt s.sl) (kt s.sk)) = W' := ⟨_, rfl⟩
  rw [hW2] at HP2 E4 HAL
  rw [hb4] at E4
  unfold lbox at hW2
  have hW2' : W1.alloc (.cells #[.int .i64 2, .string ⟨#[]⟩, .string ⟨#[]⟩] 187) = W2 := by have h9 := hW2; rw [HTOP.out] at h9; exact h9
  rw [hW2', hb4]
  clear hW2'
  clear hW2 hb4 HP1 HAL HP HB1 HLV HFT HFF
  have HAF : Hid (Calls Tryz.prog 126 #[.pointer (some ⟨b, 0, none⟩), .int .i64 p] W2 (AftEnd (f.ins.getD p in0) p W2)) := hid (after_fresh (HP2.out.ms HG.out) hp (by omega) HIR.out)
  have HGF := hid (fun q hq => HI.out.good q hq)
  obtain ⟨i, hi⟩ : ∃ i, f.ins.getD p in0 = i := ⟨_, rfl⟩
  rw [hi] at HAF
  have HIE := hid hi
  clear hi
  go_wp2_with (go_at_call 126; refine HAF.out.mono ?_; rintro e W3 ⟨gv, rfl, hgr, hb3, hfr⟩; have HP3 := hid (HP2.out.next hb3); have E43 := hid (hp_next E4.out hb3); have HGX : Hid (GX fns f w b gL cv pv iv A wk p 0 s b4 gv i W3) := hid ⟨⟨A, wk, wv, HP3.out, HI.out, .inl ⟨rfl, rfl⟩, hgr, go_fresh HP2.out hb3 hgr hfr⟩, E43.out, HN4.out⟩; obtain ⟨gad, gc, hgv⟩ := hgr.sl; rw [nums_length] at hgv; subst hgv; clear hgr hb3 hfr)
  have hgl := goes_few i p
  clear HP2 HP3 E4 E43 HAF
  go_loopw [21] (fun ix wr => ∃ z : Nat, z ≤ (goes i p).length ∧ ix = .int .i64 z ∧ GX fns f w b gL cv pv iv A wk p z s b4 (.slice gad (goes i p).length gc) i wr) (fun ix _ => (goes i p).length - (intOf ix).toNat)
  case atStart => exact ⟨0, Nat.zero_le _, rfl, HGX.out⟩
  case round =>
   clear HGX
   obtain ⟨z, hz, rfl, hgx⟩ := hrel
   have HX := hid hgx
   obtain ⟨A3, wk3, wv3, hsp3, hg3, hor3, hrk3⟩ := hgx.sp
   have HP3 := hid hsp3
   have HG3 := hid hg3
   have HOR := hid hor3
   have HRK := hid hrk3
   clear hgx hsp3 hg3 hor3 hrk3
   obtain ⟨x0, x1, x2, _, _, _⟩ := six_l HX.out.e4
   have m6 : wr.cell? ⟨b, 6, none⟩ = some (.slice (some ⟨gL, 0, none⟩) f.ins.length f.ins.length) := (cell_hp HP3.out.e 6).trans rfl
   by_cases hzt : z < (goes i p).length
   ·have hzi : (z : Int) < ((goes i p).length : Int) := by omega
    obtain ⟨g, hgz⟩ : ∃ g, (goes i p)[z]? = some g := ⟨_, List.getElem?_eq_getElem hzt⟩
    have HGZ : Hid ((goes (f.ins.getD p in0) p)[z]? = some g) := hid (by rw [HIE.out]; exact hgz)
    obtain ⟨gg, gc2, e9, _, _, hggl, hgc⟩ := HRK.out.1.at (i := z) (by rw [nums_length]; exact hzt)
    injection e9 with e9 en ec
    clear en
    subst e9 ec
    have n0 := hgc z (by rw [nums_length]; exact hzt)
    rw [nums_get hgz] at n0
    clear hgc hgz
    by_cases hgn : g < f.ins.length
    ·have hgni : (g : Int) < (f.ins.length : Int) := by omega
     have HCM : Hid (Calls Tryz.prog 100 #[.pointer (some ⟨b, 0, none⟩), .int .i64 g, .agg #[.int .i64 (s.st : Nat), .string (kt s.sl), .string (kt s.sk)]] wr (ComeEnd fns f w b gL cv pv iv A3 wk3 wv3 wr g s)) := hid (come_any HP3.out hgn hIL (HG3.out.low.ok g hgn) HG3.out.src.ok HG3.out.src.st HS200.out HG3.out.desc (fun q hq => (HG3.out.good q hq).1) (by have := desc_len HG3.out.desc (fun q hq => (HG3.out.good q hq).1); omega))
     go_wp2_with (go_at_call 100; refine HCM.out.mono ?_; rintro e W4 ⟨rfl, hck, wv4, hol, hcase⟩; have HNX : Hid (GX fns f w b gL cv pv iv A wk p (z + 1) s b4 (.slice (some ⟨gg, 0, none⟩) (goes i p).length gc) i W4) := hid (go_step HX.out HP3.out HG3.out HOR.out HRK.out HGZ.out hgn hck hol hcase); clear hck hol hcase)
     go_roundw
     case rel => exact ⟨z + 1, by omega, by go_num, HNX.out⟩
     case measure => simp [intOf]; omega
    ·have hgni : ¬ (g : Int) < (f.ins.length : Int) := by omega
     go_wp2_with fail
     go_roundw
     case rel => exact ⟨z + 1, by omega, by go_num, ⟨⟨A3, wk3, wv3, HP3.out, HG3.out.out HGZ.out hgn, HOR.out, HRK.out⟩, HX.out.e4, HX.out.n4⟩⟩
     case measure => simp [intOf]; omega
   ·obtain rfl : z = (goes i p).length := by omega
    have hge : ¬ (((goes i p).length : Int) < ((goes i p).length : Int)) := by omega
    go_wp2_with fail
    go_end0
    exact ⟨rfl, A3, wk3, wv3, HP3.out, HG3.out.fin (by rw [HIE.out]; exact Nat.le_refl _), HOR.out⟩
def NewEnd (fns : List Fn) (f : Fn) (w : World) (e : Ending) (w' : World) : Prop := ∃ (W2 : World) (b gL : Nat) (cv pv iv : Value) (A : Nat → Sh) (wv : Value), e = .returned (.pointer (some ⟨b, 0, none⟩)) ∧ Below w.heap.size w W2 ∧ SG fns f W2 cv pv iv ∧ SP fns f W2 b gL cv pv iv A [] wv w' ∧ Closed fns f A ∧ Low fns f A
theorem lying_info : (Tryz.prog.info? 187).map (fun i => (i.zero, i.size, i.bytes)) = some (some (.agg #[.int .i64 0, .string ⟨#[]⟩, .string ⟨#[]⟩]), 3, 40) := by kernel_rfl
theorem u8_info : (Tryz.prog.info? 5).map (fun i => (i.zero, i.size, i.bytes)) = some (some (.int .u8 0), 1, 1) := by kernel_rfl
theorem LyRow.made {W : World} {B g n : Nat} (h : W.ownsRow B 187 3 (.slice (some ⟨g, 0, none⟩) n n) n (madeCells #[.int .i64 0, .string ⟨#[]⟩, .string ⟨#[]⟩] (n * 3)).toList) : LyRow W g n fun _ => bot := by
 obtain ⟨h1, ⟨h2, _⟩ | ⟨k, c, cur, e, hb, h4, h5, h6, h7, h8⟩⟩ := h
 ·cases h2
 ·injection e with e1 _ e3
  injection e1 with e1
  injection e1 with e1
  subst e1 e3
  have hcur : cur.size = n * 3 := by rw [h7]
  have hcells : cur.toList = (madeCells #[.int .i64 0, .string ⟨#[]⟩, .string ⟨#[]⟩] (n * 3)).toList := by
   rw [← h8, List.take_of_length_le (by simp [hcur])]
  have hcc : cur = madeCells #[.int .i64 0, .string ⟨#[]⟩, .string ⟨#[]⟩] (n * 3) := Array.ext' hcells
  refine ⟨cur, h4, hcur, fun i hi => ?_⟩
  obtain ⟨m0, m1, m2⟩ := made3 (.int .i64 0) (.string ⟨#[]⟩) (.string ⟨#[]⟩) n i hi
  rw [hcc]
  exact ⟨m0, m1, m2⟩
theorem SP.last {fns : List Fn} {f : Fn} {w : World} {b gL : Nat} {cv pv iv : Value} {A : Nat → Sh} {l : List Nat} {x : Nat} {wv : Value} {W : World} (h : SP fns f w b gL cv pv iv A (l ++ [x]) wv W) : ∃ g c, wv = .slice (some ⟨g, 0, none⟩) (l.length + 1) c ∧ W.cell? ⟨g, l.length, none⟩ = some (.int .i64 (x : Nat)) ∧ l.length + 1 ≤ c ∧ c ≤ maxLen ∧ ∀ V, Below W.heap.size W V → SP fns f w b gL cv pv iv A l (.slice (some ⟨g, 0, none⟩) l.length c) (V.setCell ⟨b, 7, none⟩ (.slice (some ⟨g, 0, none⟩) l.length c)) := by
 have hl : (l ++ [x]).length = l.length + 1 := by simp
 obtain ⟨h1, ⟨_, h2⟩ | ⟨k, cap, cur, e, hb, hc, h4, h5, h6, h7⟩⟩ := h.own
 ·simp at h2
 ·rw [Nat.mul_one] at h6 h7
  rw [hl] at e h4 h7
  refine ⟨k, cap, e, ?_, h4, h5, fun V hV => (h.next hV).work ⟨rfl, rfl, rfl, Nat.le_refl _, fun _ _ _ => rfl⟩ ⟨by simp [nums], .inr ⟨k, cap, cur, rfl, hb, hp_next hc hV, by omega, h5, by rw [Nat.mul_one]; exact h6, ?_⟩⟩⟩
  ·refine (cell_hp hc l.length).trans ?_
   have e2 : (cur.toList.take (l.length + 1))[l.length]? = ((nums (l ++ [x])).map fun x => Value.int .i64 x)[l.length]? := by rw [h7]
   rw [List.getElem?_take_of_lt (by omega)] at e2
   rw [← Array.getElem?_toList, e2]
   simp [nums]
  ·have e3 := congrArg (List.take l.length) h7
   rw [List.take_take, Nat.min_eq_left (by omega)] at e3
   rw [Nat.mul_one, e3]
   simp [nums]
def bRow (l : List Int) (i j : Nat) : Value := .int .u8 (if j < i then l.getD j 0 else 0)
structure NI (l : List Int) (S : Nat) (w : World) (j : Nat) (W : World) : Prop where
 lo : Below w.heap.size w W
 row : W.rowIs w.heap.size 5 S (bRow l j)
theorem NI.more {l : List Int} {S : Nat} {w : World} {j : Nat} {W : World} (h : NI l S w j W) : NI l S w (j + 1) (W.setCell ⟨w.heap.size, j, none⟩ (.int .u8 (l.getD j 0))) := by
 refine ⟨set_lo h.lo _ _ (Nat.le_refl _) _, (h.row.set j _).congr fun q hq => ?_⟩
 unfold bRow
 by_cases e : q = j
 ·subst e; rw [if_pos rfl, if_pos (by omega)]
 ·rw [if_neg e]
  by_cases h9 : q < j
  ·rw [if_pos h9, if_pos (by omega)]
  ·rw [if_neg h9, if_neg (by omega)]
theorem NI.made {l : List Int} {S : Nat} {w W : World} (h : W.ownsRow w.heap.size 5 1 (.slice (some ⟨w.heap.size, 0, none⟩) S S) S (madeCells (Value.int .u8 0).cells (S * 1)).toList) (hg : w.grownBy W none) : NI l S w 0 W := by
 refine ⟨(Below.refl w.heap.size w).grown hg (Nat.le_refl _) (fun q e => by cases e), ?_⟩
 obtain ⟨_, ⟨h2, _⟩ | ⟨k, c, cur, e, _, h4, _, _, h7, h8⟩⟩ := h
 ·cases h2
 ·injection e with e1 _ e3
  injection e1 with e1
  injection e1 with e1
  subst e1 e3
  rw [Nat.mul_one] at h7 h8
  refine ⟨cur, h4, h7, fun i hi => ?_⟩
  have e2 : (cur.toList.take S)[i]? = (madeCells (Value.int .u8 0).cells S).toList[i]? := by rw [h8]
  rw [List.getElem?_take_of_lt hi] at e2
  rw [← Array.getElem?_toList, e2]
  have e5 : (Value.int .u8 0).cells = #[Value.int .u8 0] := rfl
  rw [e5, made1 _ _ _ hi]
  unfold bRow
  rw [if_neg (Nat.not_lt_zero _)]
theorem NI.text {fns : List Fn} {f : Fn} {S : Nat} {w W : World} (hf : FnR fns f) (hS : f.S = S) (hl : f.params.length ≤ S) (h : NI f.params S w f.params.length W) : (convert 39 9 (.slice (some ⟨w.heap.size, 0, none⟩) S S)).run Tryz.prog W = .ok (.string (kt (first f).sl)) W := by
 have hlen : ((first f).sl.map kb).length = S := by simp [first, hS]; omega
 have := run_convert_bytes_back (P := Tryz.prog) W 39 9 5 ⟨w.heap.size, 0, none⟩ S ((first f).sl.map kb) Tryz.underlying39 Tryz.underlying5 Tryz.underlying9 (fun j hj => by
  have hjS : j < S := by omega
  have ea : (⟨w.heap.size, 0, none⟩ : Addr).add j = ⟨w.heap.size, j, none⟩ := by simp [Addr.add]; exact fun h => h.symm
  rw [ea, h.row.cell hjS]
  unfold bRow
  have hj2 : j < (first f).sl.length := by simpa using hj
  have ok : Ok10 (first f).sl := (ok_sl (first_ok hf)).1
  rw [List.getElem_map, kb_nat (ok _ (List.getElem_mem hj2))]
  congr 2
  by_cases hp : j < f.params.length
  ·rw [if_pos hp]
   simp [first, hp, List.getElem_append_left, List.getD_eq_getElem?_getD]
  ·rw [if_neg hp]
   have e : ∀ (a c : List Int) (h : j < (a ++ c).length), a.length ≤ j → (∀ x ∈ c, x = 0) → (a ++ c)[j] = 0 := fun a c h ha hc => by
    rw [List.getElem_append_right ha]
    exact hc _ (List.getElem_mem _)
   exact (e f.params (List.replicate (f.S - f.params.length) 0) hj2 (by omega) (fun x hx => (List.mem_replicate.1 hx).2)).symm)
 rw [hlen] at this
 exact this
theorem come_first {fns : List Fn} {f : Fn} {w : World} {b gL : Nat} {cv pv iv wv : Value} {W : World} (h : (join ((fun _ => bot) 0) (first f) = (fun _ => bot) 0 ∧ SP fns f w b gL cv pv iv (fun _ => bot) [] wv W) ∨ (¬ join ((fun _ => bot) 0) (first f) = (fun _ => bot) 0 ∧ SP fns f w b gL cv pv iv (upd (fun _ => bot) 0 (join ((fun _ => bot) 0) (first f))) (ins1 [] 0) wv W)) : SP fns f w b gL cv pv iv (upd (fun _ => bot) 0 (first f)) [0] wv W := by
 rcases h with ⟨h, _⟩ | ⟨_, h⟩
 ·rw [join_bot rfl] at h
  have := congrArg Sh.st h
  simp [first, bot] at this
 ·rw [join_bot rfl] at h
  exact h
end Go.Proofs.YtcjgcipacfcjnaaGreatDoor.C
