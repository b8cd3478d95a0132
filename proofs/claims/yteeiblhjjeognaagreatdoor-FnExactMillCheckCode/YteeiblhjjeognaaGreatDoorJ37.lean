import Derived.Test.YteeiblhjjeognaaGreatDoorJ34
import Derived.Test.YteeiblhjjeognaaGreatDoorJ35
/-! Sizes. -/
namespace Go.Proofs.YteeiblhjjeognaaGreatDoor.R
open Go.RowKit
set_option maxRecDepth 20000
set_option maxHeartbeats 2000000 in
theorem szFn_any (x : C.Fn) {v0 v1 : Value} (l : Int) (w : World) (hl : 0 ≤ l) (hl2 : l ≤ 1048576) (hx : OkFn x) (k0 : SIntA w v0 x.params) (k1 : SInA w v1 x.ins) :
    Calls Tryz.prog 32 #[.agg #[.string x.name, v0, .int .i64 x.result, .int .i64 x.slots, v1], .int .i64 l] w (SzEnd l (wFn x) w) := by
  have HX := hid hx
  obtain ⟨hx0, hx1, hx2, hx3, hx4⟩ := hx
  have HB0 := hid (B1.start w (.cells #[.string x.name, v0, .int .i64 x.result, .int .i64 x.slots, v1] 72))
  have K0 := hid (k0.next HB0.out.lo)
  have K1 := hid (k1.next HB0.out.lo)
  obtain ⟨ad0, cp0, rfl⟩ := k0.sl
  obtain ⟨ad1, cp1, rfl⟩ := k1.sl
  clear k0 k1
  have hs_name := small hx0
  by_cases c0 : l - (x.name.size : Int) < 0
  · go_enter Tryz.func32, Tryz.ntmps32
    go_wp2
    go_ret
    exact ⟨⟨_, rfl, by omega, by omega, fun h => by omega⟩, HB0.out.lo⟩
  · go_enter Tryz.func32, Tryz.ntmps32
    go_wp2_with fail
    refine (szInt_any ad0 x.params.length cp0 _ _ (by omega) (by omega) hx1).mono ?_
    rintro e w1 ⟨⟨r0, rfl, p0, q0, h0⟩, hb0⟩
    have HP0 := hid h0
    have HN0 := hid hb0
    have HB1 := hid (HB0.out.next hb0)
    clear h0 hb0
    have b0_4 : w1.cell? ⟨w.heap.size, 4, none⟩ = some (.slice ad1 x.ins.length cp1) := row_cell HB1.out.e 4
    by_cases c1 : r0 < 0
    · go_wp2
      go_ret
      exact ⟨⟨_, rfl, by omega, by omega, fun h => by omega⟩, HB1.out.lo⟩
    · go_wp2_with fail
      refine (szSIn_any x.ins _ _ (by omega) (by omega) hx4 (K1.out.next HN0.out)).mono ?_
      rintro e w2 ⟨⟨r1, rfl, p1, q1, h1⟩, hb1⟩
      have HP1 := hid h1
      have HN1 := hid (HN0.out.trans (hb1.mono HN0.out.size))
      have HB2 := hid (HB1.out.next hb1)
      clear h1 hb1
      by_cases c4 : r1 < 0
      · go_wp2
        go_ret
        exact ⟨⟨_, rfl, by omega, by omega, fun h => by omega⟩, HB2.out.lo⟩
      · go_wp2
        go_ret
        refine ⟨⟨_, rfl, by omega, by omega, fun h => ?_⟩, HB2.out.lo⟩
        have eHP0 := HP0.out (by omega)
        have eHP1 := HP1.out (by omega)
        simp only [wFn]
        omega
set_option maxHeartbeats 2000000 in
theorem szSFn_any (l : List C.Fn) {v : Value} (m : Int) (w : World) (hl : 0 ≤ m) (hl2 : m ≤ 1048576) (hx : OkFnS l) (k0 : SFnA w v l) :
    Calls Tryz.prog 16 #[v, .int .i64 m] w (SzEnd m (wSFn l l.length) w) := by
  have HX := hid hx.2
  have hN := small hx.1
  have HK := hid k0
  obtain ⟨ad, cap, rfl⟩ := k0.sl
  clear hx k0
  by_cases h1 : m - (l.length : Int) < 0
  · go_enter Tryz.func16, Tryz.ntmps16
    go_wp2
    go_ret
    exact ⟨⟨_, rfl, by omega, by omega, fun h => by omega⟩, Below.refl _ _⟩
  · go_enter Tryz.func16, Tryz.ntmps16
    go_wp2
    go_loopw [1, 5] (fun q i wr => ∃ (j : Nat) (r : Int), j ≤ l.length ∧ i = .int .i64 j ∧ q = .int .i64 r ∧ 0 ≤ r ∧ r ≤ m ∧ (Hid (r + (l.length : Int) + (wSFn l j : Int) = m + (j : Int))) ∧ Below w.heap.size w wr) (fun _ i _ => l.length - (intOf i).toNat)
    case atStart => exact ⟨0, _, Nat.zero_le _, rfl, rfl, by omega, by omega, (by show _ = _; simp [wSFn]), Below.refl _ _⟩
    case round =>
      obtain ⟨j, r, hj, rfl, rfl, hr0, hr1, HS, hbw⟩ := hrel
      have HBW := hid hbw
      clear hbw
      by_cases hlt : j < l.length
      · obtain ⟨a, c, e9, hal, v0, v1, ⟨c0, c1, c2, c3, c4⟩, t0, t1⟩ := (HK.out.next HBW.out).at hlt
        injection e9 with ea en ec
        clear en
        subst ea ec
        obtain ⟨x, hx⟩ : ∃ x, l.getD j C.fn0 = x := ⟨_, rfl⟩
        have HXE := hid hx
        have HOK := hid (HX.out j hlt)
        rw [hx] at HOK c0 c2 c3 t0 t1
        clear hx
        have HT0 := hid t0
        obtain ⟨ae0, ce0, rfl⟩ := t0.sl
        clear t0
        have HT1 := hid t1
        obtain ⟨ae1, ce1, rfl⟩ := t1.sl
        clear t1
        go_wp2_with fail
        refine (szFn_any x _ _ (by omega) (by omega) HOK.out HT0.out HT1.out).mono ?_
        rintro e w1 ⟨⟨r2, rfl, hr3, hr4, hr5⟩, hb1⟩
        have HB1 := hid (HBW.out.trans (hb1.mono HBW.out.size))
        have HR5 := hid hr5
        clear hb1 hr5 c0 c1 c2 c3 c4
        by_cases hs : r2 < 0
        · go_wp2
          go_ret
          exact ⟨⟨-1, rfl, by omega, by omega, fun h => by omega⟩, HB1.out⟩
        · have HS2 : Hid (r2 + (l.length : Int) + (wSFn l (j + 1) : Int) = m + ((j + 1 : Nat) : Int)) := by
            show _ = _
            have := HS.out
            have := HR5.out (by omega)
            simp only [wSFn, HXE.out]
            omega
          go_wp2
          go_roundw
          case rel => exact ⟨j + 1, r2, by omega, by go_num, rfl, by omega, by omega, HS2, HB1.out⟩
          case measure => simp [intOf]; omega
      · obtain rfl : j = l.length := by omega
        go_wp2
        go_ret
        exact ⟨⟨r, rfl, by omega, hr1, fun _ => by have := HS.out; omega⟩, HBW.out⟩
end Go.Proofs.YteeiblhjjeognaaGreatDoor.R
/-! A place goes on, in the program. -/
namespace Go.Proofs.YteeiblhjjeognaaGreatDoor.C
open Go.RowKit
set_option maxRecDepth 20000
theorem desc_len : ∀ {wk : List Nat} {n : Nat}, wk.Pairwise (· > ·) → (∀ q ∈ wk, q < n) → wk.length ≤ n
  | [], _, _, _ => Nat.zero_le _
  | x :: r, n, h, hb => by
    obtain ⟨h1, h2⟩ := List.pairwise_cons.1 h
    have := desc_len (wk := r) (n := x) h2 (fun q hq => h1 q hq)
    have := hb x (by simp)
    simp only [List.length_cons]
    omega
/-- A row of numbers beside the work list. -/
def RowK (W : World) (v : Value) (l : List Int) (ob : Option Nat) : Prop := IntRow W v l ∧ (l = [] ∨ ∃ g c, v = .slice (some ⟨g, 0, none⟩) l.length c ∧ g < W.heap.size ∧ some g ≠ ob)
theorem RowK.keep {W V : World} {v : Value} {l : List Int} {b gL : Nat} {wv wv' : Value} (h : RowK W v l wv.ownBlock) (hc : CK b gL wv.ownBlock W V) (ho : OwnLater W wv wv') {cs cs' : Array Value} {t t' : TypeId} (eb : W.heap[b]? = some (.cells cs t (0, 0))) (eg : W.heap[gL]? = some (.cells cs' t' (0, 0))) (ht : ¬ t = 3) (ht' : ¬ t' = 3) : RowK V v l wv'.ownBlock := by
  obtain ⟨⟨ad, c, e, h1, h2, h3⟩, h4⟩ := h
  rcases h3 with h3 | ⟨g, cur, e1, e2, e3⟩
  · exact ⟨⟨ad, c, e, h1, h2, .inl h3⟩, .inl h3⟩
  · rcases h4 with h4 | ⟨g', c', e4, hg, hob⟩
    · exact ⟨⟨ad, c, e, h1, h2, .inl h4⟩, .inl h4⟩
    · have hgg : g' = g := by
        rw [e, e1] at e4
        injection e4 with e4
        injection e4 with e4
        injection e4 with e4
        exact e4.symm
      subst hgg
      have hk : V.heap[g']? = W.heap[g']? := hc.block g' hg (fun eq => by rw [eq, eb] at e2; simp at e2; exact ht e2.2) (fun eq => by rw [eq, eg] at e2; simp at e2; exact ht' e2.2) hob
      refine ⟨⟨ad, c, e, h1, h2, .inr ⟨g', cur, e1, hk.trans e2, e3⟩⟩, .inr ⟨g', c', e4, Nat.lt_of_lt_of_le hg hc.size, ?_⟩⟩
      rcases ho with h9 | ⟨k, h9, h10⟩
      · rw [h9]; exact hob
      · rw [h9]
        intro h11
        injection h11 with h11
        omega
def GoEnd (fns : List Fn) (f : Fn) (w : World) (b gL : Nat) (cv pv iv : Value) (A : Nat → Sh) (wk : List Nat) (e : Ending) (w' : World) : Prop := e = .returned (.tuple #[]) ∧ ∃ A' wk' wv', SP fns f w b gL cv pv iv A' wk' wv' w' ∧ WInv fns f A' wk' ∧ ((A' = A ∧ wk' = wk) ∨ tot f.S A' f.ins.length < tot f.S A f.ins.length)
/-- What holds while the ways are gone. -/
structure GX (fns : List Fn) (f : Fn) (w : World) (b gL : Nat) (cv pv iv : Value) (A : Nat → Sh) (wk : List Nat) (p z : Nat) (s : Sh) (b4 : Nat) (gv : Value) (i : In) (W : World) : Prop where
  sp : ∃ A3 wk3 wv3, SP fns f w b gL cv pv iv A3 wk3 wv3 W ∧ GInv fns f A3 wk3 p z s ∧ ((A3 = A ∧ wk3 = wk) ∨ tot f.S A3 f.ins.length < tot f.S A f.ins.length) ∧ RowK W gv (nums (goes i p)) wv3.ownBlock
  e4 : W.heap[b4]? = some (lbox (s.st : Nat) (kt s.sl) (kt s.sk))
  n4 : ¬ b4 = gL
theorem go_fresh {fns : List Fn} {f : Fn} {w : World} {b gL : Nat} {cv pv iv : Value} {A : Nat → Sh} {wk : List Nat} {wv gv : Value} {W V : World} {l : List Int} (h : SP fns f w b gL cv pv iv A wk wv W) (_hb : Below W.heap.size W V) (hr : IntRow V gv l) (hf : l = [] ∨ ∃ g c, gv = .slice (some ⟨g, 0, none⟩) l.length c ∧ W.heap.size ≤ g) : l = [] ∨ ∃ g c, gv = .slice (some ⟨g, 0, none⟩) l.length c ∧ g < V.heap.size ∧ some g ≠ wv.ownBlock := by
  rcases hf with hf | ⟨g, c, e, hg⟩
  · exact .inl hf
  · obtain ⟨ad, c', e1, _, _, h3⟩ := hr
    rcases h3 with h3 | ⟨g', cur, e2, e3, _⟩
    · exact .inl h3
    · refine .inr ⟨g, c, e, ?_, fun h9 => ?_⟩
      · rw [e, e2] at e1
        injection e1 with e1
        injection e1 with e1
        injection e1 with e1
        rw [e1]
        exact lt_hp e3
      · have := (h.own.lt g h9.symm).2
        omega
theorem go_step {fns : List Fn} {f : Fn} {w : World} {b gL : Nat} {cv pv iv : Value} {A : Nat → Sh} {wk : List Nat} {p z : Nat} {s : Sh} {b4 : Nat} {gv : Value} {i : In} {W : World} (hx : GX fns f w b gL cv pv iv A wk p z s b4 gv i W) {A3 : Nat → Sh} {wk3 : List Nat} {wv3 : Value} (hp : SP fns f w b gL cv pv iv A3 wk3 wv3 W) (hg : GInv fns f A3 wk3 p z s) (ho : (A3 = A ∧ wk3 = wk) ∨ tot f.S A3 f.ins.length < tot f.S A f.ins.length) (hr : RowK W gv (nums (goes i p)) wv3.ownBlock) {g : Nat} (hgz : (goes (f.ins.getD p in0) p)[z]? = some g) (hgn : g < f.ins.length) {V : World} {wv4 : Value} (hck : CK b gL wv3.ownBlock W V) (hol : OwnLater W wv3 wv4)
    (hc : (join (A3 g) s = A3 g ∧ SP fns f w b gL cv pv iv A3 wk3 wv4 V) ∨ (¬ join (A3 g) s = A3 g ∧ SP fns f w b gL cv pv iv (upd A3 g (join (A3 g) s)) (ins1 wk3 g) wv4 V)) : GX fns f w b gL cv pv iv A wk p (z + 1) s b4 gv i V := by
  obtain ⟨cu, elg, _⟩ := id hp.ly
  have hrk := hr.keep hck hol hp.e elg (by decide) (by decide)
  have hnb : ¬ b4 = b := fun e => by
    have h9 := hx.e4
    rw [e, hp.e] at h9
    simp [lbox] at h9
  have hno : some b4 ≠ wv3.ownBlock := own_neS hp.own (by decide) hx.e4
  have e4 : V.heap[b4]? = some (lbox (s.st : Nat) (kt s.sl) (kt s.sk)) := (hck.block b4 (lt_hp hx.e4) hnb hx.n4 hno).trans hx.e4
  rcases hc with ⟨hj, hs4⟩ | ⟨hj, hs4⟩
  · exact ⟨⟨A3, wk3, wv4, hs4, hg.same hgz hgn hj, ho, hrk⟩, e4, hx.n4⟩
  · obtain ⟨hgu, hlt⟩ := hg.up hgz hgn hj
    refine ⟨⟨_, _, wv4, hs4, hgu, .inr ?_, hrk⟩, e4, hx.n4⟩
    rcases ho with ⟨h1, _⟩ | h1
    · rw [h1] at hlt; rw [h1]; exact hlt
    · exact Nat.lt_trans hlt h1
set_option maxHeartbeats 8000000 in
theorem goOn_any {fns : List Fn} {f : Fn} {w : World} {b gL : Nat} {cv pv iv : Value} {A : Nat → Sh} {wk : List Nat} {wv : Value} {W : World} (hP : SP fns f w b gL cv pv iv A wk wv W) (hG : SG fns f w cv pv iv) {p : Nat} (hp : p < f.ins.length) (hF : ∀ g ∈ fns, FnR fns g) (hf : FnR fns f) (h0 : ¬ (A p).st = 0) (hI : GInv fns f A wk p 0 (behind fns f p (A p))) :
    Calls Tryz.prog 55 #[.pointer (some ⟨b, 0, none⟩), .int .i64 p] W (GoEnd fns f w b gL cv pv iv A wk) := by
  have hIL : f.ins.length ≤ 50000 := hf.some_.2
  have hpi : (p : Int) < (f.ins.length : Int) := by omega
  have HIR : Hid (InsR fns f (f.ins.getD p in0)) := hid (hf.ins _ (by rw [List.getD_eq_getElem?_getD, List.getElem?_eq_getElem hp]; exact List.getElem_mem hp))
  have HLV : Hid (Calls Tryz.prog 89 #[.pointer (some ⟨b, 0, none⟩), .int .i64 p] W (LvEnd fns f p (A p) W)) := hid (leaves_any (hP.ms hG) (hG.en.next hP.lo) hP.ly hp hF hf (hI.low.ok p hp) h0)
  have HP := hid hP
  have HG := hid hG
  have HI := hid hI
  have HS200 : Hid (f.S ≤ 200) := hid (by have := hf.slots; unfold Fn.S; omega)
  obtain ⟨s, hs⟩ : ∃ s, behind fns f p (A p) = s := ⟨_, rfl⟩
  unfold LvEnd at HLV
  rw [hs] at HI HLV
  have HSB := hid hs
  clear hP hG hI hF hf h0 hs
  go_enter Tryz.func55, Tryz.ntmps55
  go_upto_region 1 with (go_at_call 89; refine HLV.out.mono ?_; rintro e W1 ⟨st, u, v, fit, rfl, hft, hff, hb1⟩; have HFT := hid hft; have HFF := hid hff; have HB1 := hid hb1; clear hft hff hb1)
  have HP1 := hid (HP.out.next HB1.out)
  have HAL : Hid (Below W1.heap.size W1 (W1.alloc (lbox (s.st : Nat) (kt s.sl) (kt s.sk)))) := hid ((Below.refl _ _).alloc (Nat.le_refl _) _)
  have E4 : Hid ((W1.alloc (lbox (s.st : Nat) (kt s.sl) (kt s.sk))).heap[W1.heap.size]? = some (lbox (s.st : Nat) (kt s.sl) (kt s.sk))) := hid (heap_alloc_new _ _)
  cases fit with
  | true =>
    have hlv := HFT.out rfl
    unfold lv at hlv
    injection hlv with hlv
    simp at hlv
    obtain ⟨h1, h2, h3⟩ := hlv
    subst h1 h2 h3
    go_upto_region 3 with fail
    have HP2 := hid (HP1.out.next HAL.out)
    obtain ⟨b4, hb4⟩ : ∃ b4, W1.heap.size = b4 := ⟨_, rfl⟩
    have HN4 : Hid (¬ b4 = gL) := hid (by have := HP1.out.ly.lt; omega)
    obtain ⟨W2, hW2⟩ : ∃ W', W1.alloc (lbox (s.st : Nat) (kt s.sl) (kt s.sk)) = W' := ⟨_, rfl⟩
    rw [hW2] at HP2 E4 HAL
    rw [hb4] at E4
    unfold lbox at hW2
    rw [hW2, hb4]
    clear hW2 hb4 HP1 HAL HP HB1 HLV HFT HFF
    have HAF : Hid (Calls Tryz.prog 90 #[.pointer (some ⟨b, 0, none⟩), .int .i64 p] W2 (AftEnd (f.ins.getD p in0) p W2)) := hid (after_fresh (HP2.out.ms HG.out) hp (by omega) HIR.out)
    have HGF := hid (fun q hq => HI.out.good q hq)
    obtain ⟨i, hi⟩ : ∃ i, f.ins.getD p in0 = i := ⟨_, rfl⟩
    rw [hi] at HAF
    have HIE := hid hi
    clear hi
    go_wp2_with (go_at_call 90; refine HAF.out.mono ?_; rintro e W3 ⟨gv, rfl, hgr, hb3, hfr⟩; have HP3 := hid (HP2.out.next hb3); have E43 := hid (hp_next E4.out hb3); have HGX : Hid (GX fns f w b gL cv pv iv A wk p 0 s b4 gv i W3) := hid ⟨⟨A, wk, wv, HP3.out, HI.out, .inl ⟨rfl, rfl⟩, hgr, go_fresh HP2.out hb3 hgr hfr⟩, E43.out, HN4.out⟩; obtain ⟨gad, gc, hgv⟩ := hgr.sl; rw [nums_length] at hgv; subst hgv; clear hgr hb3 hfr)
    have hgl := goes_few i p
    clear HP2 HP3 E4 E43 HAF
    go_loopw [21] (fun ix wr => ∃ z : Nat, z ≤ (goes i p).length ∧ ix = .int .i64 z ∧ GX fns f w b gL cv pv iv A wk p z s b4 (.slice gad (goes i p).length gc) i wr) (fun ix _ => (goes i p).length - (intOf ix).toNat)
    case atStart => exact ⟨0, Nat.zero_le _, rfl, HGX.out⟩
    case round =>
      clear HGX
      obtain ⟨z, hz, rfl, hgx⟩ := hrel
      have HX := hid hgx
      obtain ⟨A3, wk3, wv3, hsp3, hg3, hor3, hrk3⟩ := hgx.sp
      have HP3 := hid hsp3
      have HG3 := hid hg3
      have HOR := hid hor3
      have HRK := hid hrk3
      clear hgx hsp3 hg3 hor3 hrk3
      obtain ⟨x0, x1, x2, _, _, _⟩ := six_l HX.out.e4
      have m6 : wr.cell? ⟨b, 6, none⟩ = some (.slice (some ⟨gL, 0, none⟩) f.ins.length f.ins.length) := (cell_hp HP3.out.e 6).trans rfl
      by_cases hzt : z < (goes i p).length
      · have hzi : (z : Int) < ((goes i p).length : Int) := by omega
        obtain ⟨g, hgz⟩ : ∃ g, (goes i p)[z]? = some g := ⟨_, List.getElem?_eq_getElem hzt⟩
        have HGZ : Hid ((goes (f.ins.getD p in0) p)[z]? = some g) := hid (by rw [HIE.out]; exact hgz)
        obtain ⟨gg, gc2, e9, _, _, hggl, hgc⟩ := HRK.out.1.at (i := z) (by rw [nums_length]; exact hzt)
        injection e9 with e9 en ec
        clear en
        subst e9 ec
        have n0 := hgc z (by rw [nums_length]; exact hzt)
        rw [nums_get hgz] at n0
        clear hgc hgz
        by_cases hgn : g < f.ins.length
        · have hgni : (g : Int) < (f.ins.length : Int) := by omega
          have HCM : Hid (Calls Tryz.prog 54 #[.pointer (some ⟨b, 0, none⟩), .int .i64 g, .agg #[.int .i64 (s.st : Nat), .string (kt s.sl), .string (kt s.sk)]] wr (ComeEnd fns f w b gL cv pv iv A3 wk3 wv3 wr g s)) := hid (come_any HP3.out hgn hIL (HG3.out.low.ok g hgn) HG3.out.src.ok HG3.out.src.st HS200.out HG3.out.desc (fun q hq => (HG3.out.good q hq).1) (by have := desc_len HG3.out.desc (fun q hq => (HG3.out.good q hq).1); omega))
          go_wp2_with (go_at_call 54; refine HCM.out.mono ?_; rintro e W4 ⟨rfl, hck, wv4, hol, hcase⟩; have HNX : Hid (GX fns f w b gL cv pv iv A wk p (z + 1) s b4 (.slice (some ⟨gg, 0, none⟩) (goes i p).length gc) i W4) := hid (go_step HX.out HP3.out HG3.out HOR.out HRK.out HGZ.out hgn hck hol hcase); clear hck hol hcase)
          go_roundw
          case rel => exact ⟨z + 1, by omega, by go_num, HNX.out⟩
          case measure => simp [intOf]; omega
        · have hgni : ¬ (g : Int) < (f.ins.length : Int) := by omega
          go_wp2_with fail
          go_roundw
          case rel => exact ⟨z + 1, by omega, by go_num, ⟨⟨A3, wk3, wv3, HP3.out, HG3.out.out HGZ.out hgn, HOR.out, HRK.out⟩, HX.out.e4, HX.out.n4⟩⟩
          case measure => simp [intOf]; omega
      · obtain rfl : z = (goes i p).length := by omega
        have hge : ¬ (((goes i p).length : Int) < ((goes i p).length : Int)) := by omega
        go_wp2_with fail
        go_end0
        exact ⟨rfl, A3, wk3, wv3, HP3.out, HG3.out.fin (by rw [HIE.out]; exact Nat.le_refl _), HOR.out⟩
  | false =>
    have HTOP := hid (HFF.out.1 rfl)
    go_upto_region 3 with fail
    have HP2 := hid (HP1.out.next HAL.out)
    obtain ⟨b4, hb4⟩ : ∃ b4, W1.heap.size = b4 := ⟨_, rfl⟩
    have HN4 : Hid (¬ b4 = gL) := hid (by have := HP1.out.ly.lt; omega)
    obtain ⟨W2, hW2⟩ : ∃ W', W1.alloc (lbox (s.st : Nat) (kt s.sl) (kt s.sk)) = W' := ⟨_, rfl⟩
    rw [hW2] at HP2 E4 HAL
    rw [hb4] at E4
    unfold lbox at hW2
    have hW2' : W1.alloc (.cells #[.int .i64 2, .string ⟨#[]⟩, .string ⟨#[]⟩] 64) = W2 := by have h9 := hW2; rw [HTOP.out] at h9; exact h9
    rw [hW2', hb4]
    clear hW2'
    clear hW2 hb4 HP1 HAL HP HB1 HLV HFT HFF
    have HAF : Hid (Calls Tryz.prog 90 #[.pointer (some ⟨b, 0, none⟩), .int .i64 p] W2 (AftEnd (f.ins.getD p in0) p W2)) := hid (after_fresh (HP2.out.ms HG.out) hp (by omega) HIR.out)
    have HGF := hid (fun q hq => HI.out.good q hq)
    obtain ⟨i, hi⟩ : ∃ i, f.ins.getD p in0 = i := ⟨_, rfl⟩
    rw [hi] at HAF
    have HIE := hid hi
    clear hi
    go_wp2_with (go_at_call 90; refine HAF.out.mono ?_; rintro e W3 ⟨gv, rfl, hgr, hb3, hfr⟩; have HP3 := hid (HP2.out.next hb3); have E43 := hid (hp_next E4.out hb3); have HGX : Hid (GX fns f w b gL cv pv iv A wk p 0 s b4 gv i W3) := hid ⟨⟨A, wk, wv, HP3.out, HI.out, .inl ⟨rfl, rfl⟩, hgr, go_fresh HP2.out hb3 hgr hfr⟩, E43.out, HN4.out⟩; obtain ⟨gad, gc, hgv⟩ := hgr.sl; rw [nums_length] at hgv; subst hgv; clear hgr hb3 hfr)
    have hgl := goes_few i p
    clear HP2 HP3 E4 E43 HAF
    go_loopw [21] (fun ix wr => ∃ z : Nat, z ≤ (goes i p).length ∧ ix = .int .i64 z ∧ GX fns f w b gL cv pv iv A wk p z s b4 (.slice gad (goes i p).length gc) i wr) (fun ix _ => (goes i p).length - (intOf ix).toNat)
    case atStart => exact ⟨0, Nat.zero_le _, rfl, HGX.out⟩
    case round =>
      clear HGX
      obtain ⟨z, hz, rfl, hgx⟩ := hrel
      have HX := hid hgx
      obtain ⟨A3, wk3, wv3, hsp3, hg3, hor3, hrk3⟩ := hgx.sp
      have HP3 := hid hsp3
      have HG3 := hid hg3
      have HOR := hid hor3
      have HRK := hid hrk3
      clear hgx hsp3 hg3 hor3 hrk3
      obtain ⟨x0, x1, x2, _, _, _⟩ := six_l HX.out.e4
      have m6 : wr.cell? ⟨b, 6, none⟩ = some (.slice (some ⟨gL, 0, none⟩) f.ins.length f.ins.length) := (cell_hp HP3.out.e 6).trans rfl
      by_cases hzt : z < (goes i p).length
      · have hzi : (z : Int) < ((goes i p).length : Int) := by omega
        obtain ⟨g, hgz⟩ : ∃ g, (goes i p)[z]? = some g := ⟨_, List.getElem?_eq_getElem hzt⟩
        have HGZ : Hid ((goes (f.ins.getD p in0) p)[z]? = some g) := hid (by rw [HIE.out]; exact hgz)
        obtain ⟨gg, gc2, e9, _, _, hggl, hgc⟩ := HRK.out.1.at (i := z) (by rw [nums_length]; exact hzt)
        injection e9 with e9 en ec
        clear en
        subst e9 ec
        have n0 := hgc z (by rw [nums_length]; exact hzt)
        rw [nums_get hgz] at n0
        clear hgc hgz
        by_cases hgn : g < f.ins.length
        · have hgni : (g : Int) < (f.ins.length : Int) := by omega
          have HCM : Hid (Calls Tryz.prog 54 #[.pointer (some ⟨b, 0, none⟩), .int .i64 g, .agg #[.int .i64 (s.st : Nat), .string (kt s.sl), .string (kt s.sk)]] wr (ComeEnd fns f w b gL cv pv iv A3 wk3 wv3 wr g s)) := hid (come_any HP3.out hgn hIL (HG3.out.low.ok g hgn) HG3.out.src.ok HG3.out.src.st HS200.out HG3.out.desc (fun q hq => (HG3.out.good q hq).1) (by have := desc_len HG3.out.desc (fun q hq => (HG3.out.good q hq).1); omega))
          go_wp2_with (go_at_call 54; refine HCM.out.mono ?_; rintro e W4 ⟨rfl, hck, wv4, hol, hcase⟩; have HNX : Hid (GX fns f w b gL cv pv iv A wk p (z + 1) s b4 (.slice (some ⟨gg, 0, none⟩) (goes i p).length gc) i W4) := hid (go_step HX.out HP3.out HG3.out HOR.out HRK.out HGZ.out hgn hck hol hcase); clear hck hol hcase)
          go_roundw
          case rel => exact ⟨z + 1, by omega, by go_num, HNX.out⟩
          case measure => simp [intOf]; omega
        · have hgni : ¬ (g : Int) < (f.ins.length : Int) := by omega
          go_wp2_with fail
          go_roundw
          case rel => exact ⟨z + 1, by omega, by go_num, ⟨⟨A3, wk3, wv3, HP3.out, HG3.out.out HGZ.out hgn, HOR.out, HRK.out⟩, HX.out.e4, HX.out.n4⟩⟩
          case measure => simp [intOf]; omega
      · obtain rfl : z = (goes i p).length := by omega
        have hge : ¬ (((goes i p).length : Int) < ((goes i p).length : Int)) := by omega
        go_wp2_with fail
        go_end0
        exact ⟨rfl, A3, wk3, wv3, HP3.out, HG3.out.fin (by rw [HIE.out]; exact Nat.le_refl _), HOR.out⟩
end Go.Proofs.YteeiblhjjeognaaGreatDoor.C
