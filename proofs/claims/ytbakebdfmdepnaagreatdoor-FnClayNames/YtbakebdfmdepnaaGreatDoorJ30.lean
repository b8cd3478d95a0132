import Derived.Test.YtbakebdfmdepnaaGreatDoorJ29
import Derived.Test.YtbakebdfmdepnaaGreatDoorJ23
namespace Go.Proofs.YtbakebdfmdepnaaGreatDoor
open Go.RowKit
set_option maxRecDepth 20000
theorem Mx.Ends.congr {x : Mx} {w w' : World} {F : Nat × Nat → Prop} {bn : Nat → Int} {e e' : List Ev} (h : x.Ends w w' F bn e) (h1 : ∀ y, y ∈ fls e ↔ y ∈ fls e') (h2 : fls e' = [] → apB bn e = apB bn e') : x.Ends w w' F bn e' := by
 obtain ⟨s, cf, b, a, k, n⟩ := h
 refine ⟨s, cf, b, a, k.congr fun y => by rw [h1], fun hq => ?_⟩
 have : fls e = [] := List.eq_nil_iff_forall_not_mem.2 fun y hy => by rw [h1, hq] at hy; cases hy
 rw [n this, h2 hq]
def dupB (nd : Nat → Nd) (l : List Nat) (t : ByteArray) : Bool := l.any fun q => decide ((nd q).text = t)
theorem dupB_snoc (nd : Nat → Nd) (l : List Nat) (q : Nat) (t : ByteArray) : dupB nd (l ++ [q]) t = (dupB nd l t || decide ((nd q).text = t)) := by simp [dupB]
theorem inL_names (nd : Nat → Nd) (l : List Nat) (t : ByteArray) : inL t (l.map fun q => (nd q).text).reverse = dupB nd l t := by
 simp [inL, dupB, List.any_map, Function.comp_def]
def flt8 (b : Bool) (y c : Nat) : List Ev := if b = true then [.flt y c] else []
theorem Mx.Ends.twice {x : Mx} {w w' : World} {F : Nat × Nat → Prop} {bn : Nat → Int} {es : List Ev} {b : Bool} {y c : Nat} (h : x.Ends w w' F bn ((es ++ flt8 b y c) ++ [.flt y c])) : x.Ends w w' F bn (es ++ flt8 true y c) := by
 refine h.congr (fun z => ?_) (fun hq => ?_)
 ·cases b <;> simp [flt8, fls_append, fls]
 ·simp [flt8, fls_append, fls] at hq
theorem Mx.Ends.turn {x : Mx} {w w' : World} {F : Nat × Nat → Prop} {bn : Nat → Int} {es kw : List Ev} {b b' : Bool} {y : Nat} (h : x.Ends w w' F bn (((es ++ flt8 b y 8) ++ flt8 b' y 10) ++ kw)) : x.Ends w w' F bn (es ++ (kw ++ (flt8 b y 8 ++ flt8 b' y 10))) := by
 refine h.congr (fun z => ?_) (fun hq => ?_)
 ·simp only [fls_append, List.mem_append]
  constructor
  ·rintro (((h | h) | h) | h)
   ·exact .inl h
   ·exact .inr (.inr (.inl h))
   ·exact .inr (.inr (.inr h))
   ·exact .inr (.inl h)
  ·rintro (h | h | h | h)
   ·exact .inl (.inl (.inl h))
   ·exact .inr h
   ·exact .inl (.inl (.inr h))
   ·exact .inl (.inr h)
 ·cases b <;> cases b' <;> simp [flt8, fls_append, fls] at hq ⊢
theorem fault_more {x : Mx} (hx : x.Ok) (k : Nat) (code : Int) (hc : 0 < code) {w wr : World} {F : Nat × Nat → Prop} {cf : Nat → Nat} {bn bn1 : Nat → Int} {es : List Ev} (hkN : k < x.N) (hs : Sv x.S w wr) (ha : x.At wr cf bn1) (ht : x.Tree wr) (hok : CodesOk cf (fun y => F y ∨ y ∈ fls es)) (hn : fls es = [] → bn1 = apB bn es) :
  Calls Tryz.prog 28 #[.pointer (some ⟨x.wb, 0, none⟩), .int .i64 k, .int .i64 code] wr fun e w' => e = .returned (.tuple #[]) ∧ x.Ends w w' F bn (es ++ [.flt k code.toNat]) ∧ Sv x.S wr w' := by
 obtain ⟨c, rfl⟩ := Int.eq_ofNat_of_zero_le (Int.le_of_lt hc)
 refine (fault_any x hx k c (by omega) _ cf bn1 wr hkN ha ht hok).mono ?_
 rintro e w' ⟨rfl, h⟩
 exact ⟨rfl, mends_join hs hn h, h.1⟩
theorem Mx.Ends.grown {x : Mx} {w W W' : World} {F : Nat × Nat → Prop} {bn : Nat → Int} {e : List Ev} {gi : Nat} {o : Obj} (h : x.Ends w W F bn e) (hg : (W.alloc o).grownBy W' (some gi)) (hgi : w.heap.size ≤ gi) (hS : ¬ x.S gi) : x.Ends w W' F bn e := by
 obtain ⟨s, cf, b, a, k, n⟩ := h
 refine ⟨(s.alloc o).grown hg (fun q e => by injection e with e; subst e; exact .inr hgi), cf, b, ?_, k, n⟩
 have a1 := a.go ((Below.refl _ _).alloc (Nat.le_refl _) o)
 have hl := a1.lt
 obtain ⟨⟨c1, h1, h3⟩, c2, h2, h4⟩ := a1
 exact ⟨⟨c1, (hg.block _ (hl _ (.inl rfl)) (fun e => hS (by injection e with e; exact .inl e.symm))).trans h1, h3⟩, c2, (hg.block _ (hl _ (.inr rfl)) (fun e => hS (by injection e with e; exact .inr e.symm))).trans h2, h4⟩
theorem prm_round {nd : Nat → Nd} {o : List (List Nat)} {W : Env → Nat → List Ev} {ps : List Nat} {q y : Nat} {es T : List Ev} {kn : Env} {ns : List ByteArray} {d : Bool} (h : es ++ (prm nd o W (ps.drop q) kn ns d).1 = T) (hy : ps[q]? = some y) :
  (es ++ ((o.getD y []).flatMap (W kn) ++ (flt8 (inL (nd y).text ns) y 8 ++ flt8 (d && (o.getD y []).isEmpty) y 10))) ++ (prm nd o W (ps.drop (q + 1)) (kn.ext (nd y).text y) ((nd y).text :: ns) (d || !(o.getD y []).isEmpty)).1 = T := by
 rw [prm_drop _ _ _ hy] at h
 rw [← h]
 have e : (if d = true ∧ o.getD y [] = [] then [Ev.flt y 10] else []) = flt8 (d && (o.getD y []).isEmpty) y 10 := by
  unfold flt8
  cases d <;> simp
 rw [e]
 simp only [List.append_assoc]
 rfl
theorem cell_two_new (w : World) (a b : Value) (t : TypeId) : ∀ j u, [a, b][j]? = some u → (w.alloc (.cells #[a, b] t)).cell? ((⟨w.heap.size, 0, none⟩ : Addr).add j) = some u := by
 intro j u hj
 have e1 : ((⟨w.heap.size, 0, none⟩ : Addr).add j) = ⟨w.heap.size, j, none⟩ := by unfold Addr.add; simp; intro h; exact h.symm
 rw [e1, cell_new_row, ← hj]; simp
set_option maxHeartbeats 4000000 in
theorem function_m (x : Mx) (hx : x.Ok) (k : Nat) (ps : List Nat) (l : Nat) (L : List (ByteArray × Nat)) (hw : ∀ q ∈ ps, ∀ j ∈ x.o.getD q [], j < k ∧ GoOk x j) (hlk : l < k) (hlast : GoOk x l) (hpN : ∀ q ∈ ps, q < x.N) (h8 : ps.length ≤ 8) (hone : ∀ q ∈ ps, (x.o.getD q []).length ≤ 1)
  (g' cp g c : Nat) (F : Nat × Nat → Prop) (cf : Nat → Nat) (bn : Nat → Int) (w : World) (hcp : ps.length + 1 ≤ cp) (hb : L.length + 10 * k ≤ 2000000) (hp : Stb x.S w fun W => ∀ i, i < ps.length + 1 → W.cell? ⟨g', i, none⟩ = some (.int .i64 ((ps ++ [l]).getD i 0 : Nat))) (h : x.At w cf bn) (ht : Stb x.S w x.Tree) (hok : CodesOk cf F) (hk : KnR w g c L) (hSg : ¬ x.S g) :
  Calls Tryz.prog 50 #[.pointer (some ⟨x.wb, 0, none⟩), .slice (some ⟨g', 0, none⟩) (ps.length + 1) cp, .slice (some ⟨g, 0, none⟩) L.length c] w fun e w' => e = .returned (.tuple #[]) ∧
   x.Ends w w' F bn ((prm x.nd x.o (fun kn j => wk x.nd x.o j kn) ps (envL L) [] false).1 ++ wk x.nd x.o l (prm x.nd x.o (fun kn j => wk x.nd x.o j kn) ps (envL L) [] false).2) := by
 have HX := hid hx
 have HW := hid hw
 have HL := hid hlast
 have HPN := hid hpN
 have HONE := hid hone
 have HP := hid hp
 have H := hid h
 have HT := hid ht
 have HOK := hid hok
 have HK := hid hk
 have HSg := hid hSg
 clear hx hw hlast hpN hone hp h ht hok hk hSg
 obtain ⟨m, hm⟩ : ∃ m, ps.length = m := ⟨_, rfl⟩
 have HM := hid hm
 rw [hm] at h8 hcp HP ⊢
 obtain ⟨nL, hnL⟩ : ∃ nL, L.length = nL := ⟨_, rfl⟩
 have HNL := hid hnL
 rw [hnL] at hb ⊢
 clear hm hnL
 obtain ⟨i0, hi, hz0, hz1, hz2⟩ := info_parts info_kn
 have HHI := hid (And.intro hi (And.intro hz0 (And.intro hz1 hz2)))
 clear hi hz0 hz1 hz2
 have OWN1 := hid (World.ownsRow_made (base := w.heap.size) (e := 62) (size := 2) w #[] 0 (Nat.le_refl _) (by unfold maxLen; omega) rfl)
 have HC1 : Hid (∀ j u, (knRow L)[j]? = some u → (w.alloc (.cells #[] 62)).cell? ((⟨g, 0, none⟩ : Addr).add j) = some u) := (HK.out.keep (Below.heap_alloc w _ g HK.out.lt)).cells
 go_enter Tryz.func50, Tryz.ntmps50
 go_wp2_with (first
  | (at_builtin; refine wpList_append_own_at _ rfl _ _ 59 rfl w.heap.size 62 i0 (.agg #[.string ⟨#[]⟩, .int .i64 0]) 2 24 Tryz.underlying59 HHI.out.1 HHI.out.2.1 HHI.out.2.2.1 HHI.out.2.2.2 rfl (by decide) _ _ _ rfl OWN1.out ⟨g, 0, none⟩ nL c (knRow L) rfl (by rw [knRow_length, HNL.out]) HC1.out (knRow_one L) (by unfold maxLen; omega) (by omega) (by simp) ?_; intro v1 w1 o1 g1 nn1 b1; rw [Nat.zero_add, List.nil_append] at o1; have hnn1 := some_not_nil nn1; clear nn1; obtain ⟨g1', c1', rfl, hbg, hkr⟩ := KnR.of_own o1 HNL.out hnn1; have HKR := hid hkr; have HG1 := hid g1; clear o1 g1 hnn1 b1 hkr))
 have HSL := hid H.out.lt
 have HB1 : Hid (Below w.heap.size w w1) := ((Below.refl _ _).alloc (Nat.le_refl _) _).grown HG1.out (by simp) (fun q e => by cases e; exact Nat.le_refl _)
 clear HG1
 go_loopw [6, 7, 8] (fun vin dv i wr => ∃ (j : Nat) (d : Bool) (Lj : List (ByteArray × Nat)) (gi ci : Nat) (es : List Ev), j ≤ m ∧ i = .int .i64 j ∧ dv = .bool d ∧ vin = .slice (some ⟨gi, 0, none⟩) (nL + j) ci ∧ Lj.length = nL + j ∧ KnR wr gi ci Lj ∧ w.heap.size ≤ gi ∧ x.Ends w wr F bn es ∧
   es ++ (prm x.nd x.o (fun kn j => wk x.nd x.o j kn) (ps.drop j) (envL Lj) ((ps.take j).map fun q => (x.nd q).text).reverse d).1 = (prm x.nd x.o (fun kn j => wk x.nd x.o j kn) ps (envL L) [] false).1 ∧ (prm x.nd x.o (fun kn j => wk x.nd x.o j kn) (ps.drop j) (envL Lj) ((ps.take j).map fun q => (x.nd q).text).reverse d).2 = (prm x.nd x.o (fun kn j => wk x.nd x.o j kn) ps (envL L) [] false).2) (fun _ _ i _ => m - (intOf i).toNat)
 case atStart => exact ⟨0, false, L, g1', c1', [], Nat.zero_le _, rfl, rfl, rfl, HNL.out, HKR.out, hbg, ⟨Sv.of_below HB1.out, cf, bn, H.out.go HB1.out, HOK.out.congr (fun y => by simp [fls]), fun _ => rfl⟩, rfl, rfl⟩
 case round =>
  obtain ⟨j, d, Lj, gi, ci, es, hj, rfl, rfl, rfl, hlj, hkr, hgi, hen, hes, hkn⟩ := hrel
  clear HKR
  have HKR := hid hkr
  have HLJ := hid hlj
  have HES := hid hes
  have HKN := hid hkn
  obtain ⟨hsc, cfc, bnc, hac, hoc, hnc⟩ := hen
  have HSC := hid hsc
  have HAC := hid hac
  have HOC := hid hoc
  have HNC := hid hnc
  have HSgi : Hid (¬ x.S gi) := fun h => by have := HSL.out gi h; omega
  clear hkr hlj hes hkn hsc hac hoc hnc
  by_cases hlt : j < m
  ·obtain ⟨y, hy⟩ : ∃ y, ps[j]? = some y := ⟨_, List.getElem?_eq_getElem (by have := HM.out; omega)⟩
   have HY := hid hy
   have HYM := hid (List.mem_of_getElem? hy)
   have hyN := HPN.out y HYM.out
   have hN5 := HX.out.N
   have c0 := HP.out _ HSC.out j (by omega)
   rw [List.getD_eq_getElem?_getD, List.getElem?_append_left (by have := HM.out; omega), hy] at c0
   simp only [Option.getD_some] at c0
   clear hy
   go_wp2
   clear c0
   obtain ⟨wo, hwo⟩ : ∃ wo, wo = wr := ⟨_, rfl⟩
   subst hwo
   go_loopw [10] (fun i wq => ∃ (q : Nat), q ≤ j ∧ i = .int .i64 q ∧ Sv x.S wo wq ∧ x.Ends w wq F bn (es ++ flt8 (dupB x.nd (ps.take q) (x.nd y).text) y 8)) (fun i _ => j - (intOf i).toNat)
   case atStart =>
    refine ⟨0, Nat.zero_le _, rfl, Sv.refl _ _, ?_⟩
    have : es ++ flt8 (dupB x.nd (ps.take 0) (x.nd y).text) y 8 = es := by simp [flt8, dupB]
    rw [this]
    exact ⟨HSC.out, cfc, bnc, HAC.out, HOC.out, HNC.out⟩
   case round =>
    obtain ⟨q, hq, rfl, hsr, hen⟩ := hrel
    have HSR := hid hsr
    clear HSC HAC HOC HNC hsr
    obtain ⟨hsc, cfc, bnc, hac, hoc, hnc⟩ := hen
    have HSC := hid hsc
    have HAC := hid hac
    have HOC := hid hoc
    have HNC := hid hnc
    clear hsc hac hoc hnc
    obtain ⟨f0, f1, f2, f3⟩ := (HT.out _ HSC.out).four
    by_cases hqj : q < j
    ·obtain ⟨z, hz⟩ : ∃ z, ps[q]? = some z := ⟨_, List.getElem?_eq_getElem (by have := HM.out; omega)⟩
     have hzN := HPN.out z (List.mem_of_getElem? hz)
     have c0 := HP.out _ HSC.out q (by omega)
     rw [List.getD_eq_getElem?_getD, List.getElem?_append_left (by have := HM.out; omega), hz] at c0
     simp only [Option.getD_some] at c0
     have HTQ : Hid (ps.take (q + 1) = ps.take q ++ [z]) := by
      show _ = _
      rw [List.take_succ_eq_append_getElem (by have := HM.out; omega), (List.getElem?_eq_some_iff.1 hz).2]
     clear hz
     obtain ⟨_, _, _, z3, _⟩ := (HT.out _ HSC.out).2.1 z hzN
     obtain ⟨_, _, _, y3, _⟩ := (HT.out _ HSC.out).2.1 y hyN
     cases he : ((x.nd z).text.toList == (x.nd y).text.toList)
     ·have HNE : Hid (¬ (x.nd z).text = (x.nd y).text) := fun h => by rw [h] at he; simp at he
      have HNX : Hid (x.Ends w wr.drew F bn (es ++ flt8 (dupB x.nd (ps.take (q + 1)) (x.nd y).text) y 8)) := by
       rw [HTQ.out, dupB_snoc]
       have e : decide ((x.nd z).text = (x.nd y).text) = false := by simp [HNE.out]
       rw [e, Bool.or_false]
       exact ⟨HSC.out.drew, cfc, bnc, HAC.out, HOC.out, HNC.out⟩
      have HSR2 := hid HSR.out.drew
      go_wp2
      go_region
      go_wp2
      go_roundw
      case rel => exact ⟨q + 1, by omega, by go_num, HSR2.out, HNX.out⟩
      case measure => simp [intOf]; omega
     ·have HEQ : Hid ((x.nd z).text = (x.nd y).text) := bytes_eq he
      go_wp2
      go_region
      have HSC2 := hid HSC.out.drew
      have HSR2 := hid HSR.out.drew
      have HAC2 : Hid (x.At wr.drew cfc bnc) := HAC.out
      clear f0 f1 f2 f3 z3 y3 c0 HSC HSR HAC
      generalize wr.drew = w2 at *
      go_wp2_with (first
       | (go_at_call 28; refine (fault_more HX.out y _ (by decide) hyN HSC2.out HAC2.out (HT.out _ HSC2.out) HOC.out HNC.out).mono ?_; rintro e w4 ⟨rfl, hen, hsv⟩; have HEN := hid hen.twice; have HSR := hid (HSR2.out.trans hsv); clear hen hsv))
      have HNX : Hid (x.Ends w w4 F bn (es ++ flt8 (dupB x.nd (ps.take (q + 1)) (x.nd y).text) y 8)) := by
       rw [HTQ.out, dupB_snoc]
       have e : decide ((x.nd z).text = (x.nd y).text) = true := by simp [HEQ.out]
       rw [e, Bool.or_true]
       exact HEN.out
      go_roundw
      case rel => exact ⟨q + 1, by omega, by go_num, HSR.out, HNX.out⟩
      case measure => simp [intOf]; omega
    ·obtain rfl : q = j := by omega
     obtain ⟨kl, hkl⟩ : ∃ kl, x.o.getD y [] = kl := ⟨_, rfl⟩
     have HKL := hid hkl
     obtain ⟨ad, c', hk1, hk2, hk3, hk4⟩ := Mx.kids HX.out HT.out y hyN
     rw [hkl] at hk4 hk1 hk3
     have HK4 := hid hk4
     have k0 := (hk4 _ HSC.out).1
     have hone := HONE.out y HYM.out
     rw [hkl] at hone
     obtain ⟨y0, y1, y2, y3, y4⟩ := (HT.out _ HSC.out).2.1 y hyN
     have HWY := hid (HW.out y HYM.out)
     rw [hkl] at HWY
     have HKO : Hid (∀ W, Sv x.S wo W → W.ownsRow w.heap.size 62 2 (.slice (some ⟨gi, 0, none⟩) (nL + q) ci) (nL + q) (knRow Lj)) := fun W hW => by
      have := (HKR.out.keep (hW.block gi HKR.out.lt HSgi.out)).own hgi
      rw [HLJ.out] at this
      exact this
     have HDUP : Hid (inL (x.nd y).text ((ps.take q).map fun q => (x.nd q).text).reverse = dupB x.nd (ps.take q) (x.nd y).text) := inL_names _ _ _
     have HTQ : Hid (((ps.take (q + 1)).map fun q => (x.nd q).text).reverse = (x.nd y).text :: ((ps.take q).map fun q => (x.nd q).text).reverse) := by
      show _ = _
      rw [List.take_succ_eq_append_getElem (by have := HM.out; omega), (List.getElem?_eq_some_iff.1 HY.out).2]
      simp
     clear hk4 hkl
     match kl, hone with
     | [], _ =>
      simp only [List.length_nil] at k0
      cases hdd : d
      ·go_wp2_with (first
        | (at_builtin; refine wpList_append_own_at _ rfl (.tmp 91) (.tmp 103) 59 rfl w.heap.size 62 i0 (.agg #[.string ⟨#[]⟩, .int .i64 0]) 2 24 Tryz.underlying59 HHI.out.1 HHI.out.2.1 HHI.out.2.2.1 HHI.out.2.2.2 rfl (by decide) (.slice (some ⟨gi, 0, none⟩) (nL + q) ci) _ _ rfl (HKO.out _ (HSR.out.alloc _)) ⟨_, 0, none⟩ 1 1 [.string (x.nd y).text, .int .i64 y] rfl rfl (cell_two_new _ _ _ _) (by simp [Value.oneCell']) (by unfold maxLen; omega) (by omega) (by have := HSC.out.size; simp; omega) ?_; intro v5 w5 o5 g5 nn5 b5; have O5 := hid o5; have G5 := hid g5; have NN5 := hid nn5; clear o5 g5 nn5 b5))
       obtain ⟨g6, c6, rfl, hb6, hk6⟩ := KnR.of_own (L := Lj ++ [((x.nd y).text, y)]) (by rw [knRow_append]; exact O5.out) (by rw [List.length_append, HLJ.out]; rfl) (some_not_nil NN5.out)
       have HK6 := hid hk6
       have HEX : Hid (x.Ends w w5 F bn (es ++ ((x.o.getD y []).flatMap (fun j => wk x.nd x.o j (envL Lj)) ++ (flt8 (inL (x.nd y).text ((ps.take q).map fun q => (x.nd q).text).reverse) y 8 ++ flt8 (false && (x.o.getD y []).isEmpty) y 10)))) := by
        rw [HDUP.out, HKL.out]
        refine Mx.Ends.grown (gi := gi) (Mx.Ends.turn ?_) G5.out hgi HSgi.out
        rw [show flt8 (false && ([] : List Nat).isEmpty) y 10 = [] from rfl, List.append_nil, List.flatMap_nil, List.append_nil]
        exact ⟨HSC.out, cfc, bnc, HAC.out, HOC.out, HNC.out⟩
       have HE6 : Hid (envL (Lj ++ [((x.nd y).text, y)]) = (envL Lj).ext (x.nd y).text y) := envL_snoc _ _
       have HRD := hid (prm_round HES.out HY.out)
       have HRK := hid HKN.out
       rw [prm_drop _ _ _ HY.out] at HRK
       rw [hdd, HKL.out] at HRD HRK
       clear O5 G5 NN5 hk6 f0 f1 f2 f3 y0 y1 y2 y3 y4 HES HKN
       go_wp2
       go_roundw
       case rel =>
        refine ⟨q + 1, false, Lj ++ [((x.nd y).text, y)], g6, c6, _, by omega, by go_num, rfl, rfl, by rw [List.length_append, HLJ.out]; rfl, HK6.out, hb6, HEX.out, ?_, ?_⟩
        ·rw [HE6.out, HTQ.out, HKL.out]
         exact HRD.out
        ·rw [HE6.out, HTQ.out]
         exact HRK.out
       case measure => simp [intOf]; omega
      ·go_wp2_with (first
        | (go_at_call 28; refine (fault_more HX.out y _ (by decide) hyN HSC.out HAC.out (HT.out _ HSC.out) HOC.out HNC.out).mono ?_; rintro e w4 ⟨rfl, hen, hsv⟩; have HEN := hid hen; have HSR := hid (HSR.out.trans hsv); clear hen hsv HSC HAC HNC HOC f0 f1 f2 f3 k0; obtain ⟨hsc, cfc, bnc, hac, hoc, hnc⟩ := HEN.out; have HSC := hid hsc; have HAC := hid hac; have HOC := hid hoc; have HNC := hid hnc; clear hsc hac hoc hnc HEN y0 y1 y2 y3 y4; obtain ⟨f0, f1, f2, f3⟩ := (HT.out _ HSC.out).four; have k0 := (HK4.out _ HSC.out).1; obtain ⟨y0, y1, y2, y3, y4⟩ := (HT.out _ HSC.out).2.1 y hyN)
        | (at_builtin; refine wpList_append_own_at _ rfl (.tmp 91) (.tmp 103) 59 rfl w.heap.size 62 i0 (.agg #[.string ⟨#[]⟩, .int .i64 0]) 2 24 Tryz.underlying59 HHI.out.1 HHI.out.2.1 HHI.out.2.2.1 HHI.out.2.2.2 rfl (by decide) (.slice (some ⟨gi, 0, none⟩) (nL + q) ci) _ _ rfl (HKO.out _ (HSR.out.alloc _)) ⟨_, 0, none⟩ 1 1 [.string (x.nd y).text, .int .i64 y] rfl rfl (cell_two_new _ _ _ _) (by simp [Value.oneCell']) (by unfold maxLen; omega) (by omega) (by have := HSC.out.size; simp; omega) ?_; intro v5 w5 o5 g5 nn5 b5; have O5 := hid o5; have G5 := hid g5; have NN5 := hid nn5; clear o5 g5 nn5 b5))
       obtain ⟨g6, c6, rfl, hb6, hk6⟩ := KnR.of_own (L := Lj ++ [((x.nd y).text, y)]) (by rw [knRow_append]; exact O5.out) (by rw [List.length_append, HLJ.out]; rfl) (some_not_nil NN5.out)
       have HK6 := hid hk6
       have HEX : Hid (x.Ends w w5 F bn (es ++ ((x.o.getD y []).flatMap (fun j => wk x.nd x.o j (envL Lj)) ++ (flt8 (inL (x.nd y).text ((ps.take q).map fun q => (x.nd q).text).reverse) y 8 ++ flt8 (true && (x.o.getD y []).isEmpty) y 10)))) := by
        rw [HDUP.out, HKL.out]
        refine Mx.Ends.grown (gi := gi) (Mx.Ends.turn ?_) G5.out hgi HSgi.out
        rw [show flt8 (true && ([] : List Nat).isEmpty) y 10 = [.flt y 10] from rfl, List.flatMap_nil, List.append_nil]
        exact ⟨HSC.out, cfc, bnc, HAC.out, HOC.out, HNC.out⟩
       have HE6 : Hid (envL (Lj ++ [((x.nd y).text, y)]) = (envL Lj).ext (x.nd y).text y) := envL_snoc _ _
       have HRD := hid (prm_round HES.out HY.out)
       have HRK := hid HKN.out
       rw [prm_drop _ _ _ HY.out] at HRK
       rw [hdd, HKL.out] at HRD HRK
       clear O5 G5 NN5 hk6 f0 f1 f2 f3 y0 y1 y2 y3 y4 HES HKN
       go_wp2
       go_roundw
       case rel =>
        refine ⟨q + 1, true, Lj ++ [((x.nd y).text, y)], g6, c6, _, by omega, by go_num, rfl, rfl, by rw [List.length_append, HLJ.out]; rfl, HK6.out, hb6, HEX.out, ?_, ?_⟩
        ·rw [HE6.out, HTQ.out, HKL.out]
         exact HRD.out
        ·rw [HE6.out, HTQ.out]
         exact HRK.out
       case measure => simp [intOf]; omega
     | [z], _ =>
      rcases hk3 with e | ⟨gg, rfl⟩
      ·cases e
      have z0 : wr.cell? ⟨gg, 0, none⟩ = some (.int .i64 (z : Nat)) := by
       rcases (HK4.out _ HSC.out).2 with e | ⟨g'', q', e, hc⟩
       ·cases e
       ·cases e; exact hc 0 (by simp)
      have hzk := (HWY.out z (by simp)).1
      have HZ := hid (HWY.out z (by simp)).2
      have hbz : Lj.length + 10 * z ≤ 2000000 := by rw [HLJ.out]; omega
      have HZ2 : Hid (∀ (F : Nat × Nat → Prop) (cf : Nat → Nat) (bn : Nat → Int) (w : World), x.At w cf bn → Stb x.S w x.Tree → CodesOk cf F → KnR w gi ci Lj →
        Calls Tryz.prog 29 #[.pointer (some ⟨x.wb, 0, none⟩), .int .i64 z, .slice (some ⟨gi, 0, none⟩) (nL + q) ci] w fun e w' => e = .returned (.tuple #[]) ∧ x.Ends w w' F bn (wk x.nd x.o z (envL Lj))) := fun F cf bn w h1 h2 h3 h4 => by
       have := HZ.out Lj gi ci F cf bn w hbz h1 h2 h3 h4 HSgi.out
       rw [HLJ.out] at this
       exact this
      clear hbz HZ
      simp only [List.length_cons, List.length_nil] at k0 hk1
      cases hdd : d
      ·go_wp2_with (first
        | (go_at_call 29; refine (HZ2.out _ cfc bnc _ HAC.out (HT.out.go HSC.out) HOC.out (HKR.out.keep (HSR.out.block gi HKR.out.lt HSgi.out))).mono ?_; rintro e w4 ⟨rfl, hen0⟩; have HEN := hid (mends_join HSC.out HNC.out hen0); have HSR := hid (HSR.out.trans hen0.1); clear hen0 HSC HAC HNC HOC f0 f1 f2 f3 k0 y0 y1 y2 y3 y4; obtain ⟨hsc, cfc, bnc, hac, hoc, hnc⟩ := HEN.out; have HSC := hid hsc; have HAC := hid hac; have HOC := hid hoc; have HNC := hid hnc; clear hsc hac hoc hnc HEN; obtain ⟨f0, f1, f2, f3⟩ := (HT.out _ HSC.out).four; obtain ⟨y0, y1, y2, y3, y4⟩ := (HT.out _ HSC.out).2.1 y hyN)
        | (at_builtin; refine wpList_append_own_at _ rfl (.tmp 91) (.tmp 103) 59 rfl w.heap.size 62 i0 (.agg #[.string ⟨#[]⟩, .int .i64 0]) 2 24 Tryz.underlying59 HHI.out.1 HHI.out.2.1 HHI.out.2.2.1 HHI.out.2.2.2 rfl (by decide) (.slice (some ⟨gi, 0, none⟩) (nL + q) ci) _ _ rfl (HKO.out _ (HSR.out.alloc _)) ⟨_, 0, none⟩ 1 1 [.string (x.nd y).text, .int .i64 y] rfl rfl (cell_two_new _ _ _ _) (by simp [Value.oneCell']) (by unfold maxLen; omega) (by omega) (by have := HSC.out.size; simp; omega) ?_; intro v5 w5 o5 g5 nn5 b5; have O5 := hid o5; have G5 := hid g5; have NN5 := hid nn5; clear o5 g5 nn5 b5))
       obtain ⟨g6, c6, rfl, hb6, hk6⟩ := KnR.of_own (L := Lj ++ [((x.nd y).text, y)]) (by rw [knRow_append]; exact O5.out) (by rw [List.length_append, HLJ.out]; rfl) (some_not_nil NN5.out)
       have HK6 := hid hk6
       have HEX : Hid (x.Ends w w5 F bn (es ++ ((x.o.getD y []).flatMap (fun j => wk x.nd x.o j (envL Lj)) ++ (flt8 (inL (x.nd y).text ((ps.take q).map fun q => (x.nd q).text).reverse) y 8 ++ flt8 (false && (x.o.getD y []).isEmpty) y 10)))) := by
        rw [HDUP.out, HKL.out]
        refine Mx.Ends.grown (gi := gi) (Mx.Ends.turn ?_) G5.out hgi HSgi.out
        rw [show flt8 (false && [z].isEmpty) y 10 = [] from rfl, List.append_nil, List.flatMap_cons, List.flatMap_nil, List.append_nil]
        exact ⟨HSC.out, cfc, bnc, HAC.out, HOC.out, HNC.out⟩
       have HE6 : Hid (envL (Lj ++ [((x.nd y).text, y)]) = (envL Lj).ext (x.nd y).text y) := envL_snoc _ _
       have HRD := hid (prm_round HES.out HY.out)
       have HRK := hid HKN.out
       rw [prm_drop _ _ _ HY.out] at HRK
       rw [hdd, HKL.out] at HRD HRK
       clear O5 G5 NN5 hk6 f0 f1 f2 f3 y0 y1 y2 y3 y4 HES HKN
       go_wp2
       go_roundw
       case rel =>
        refine ⟨q + 1, true, Lj ++ [((x.nd y).text, y)], g6, c6, _, by omega, by go_num, rfl, rfl, by rw [List.length_append, HLJ.out]; rfl, HK6.out, hb6, HEX.out, ?_, ?_⟩
        ·rw [HE6.out, HTQ.out, HKL.out]
         exact HRD.out
        ·rw [HE6.out, HTQ.out]
         exact HRK.out
       case measure => simp [intOf]; omega
      ·go_wp2_with (first
        | (go_at_call 29; refine (HZ2.out _ cfc bnc _ HAC.out (HT.out.go HSC.out) HOC.out (HKR.out.keep (HSR.out.block gi HKR.out.lt HSgi.out))).mono ?_; rintro e w4 ⟨rfl, hen0⟩; have HEN := hid (mends_join HSC.out HNC.out hen0); have HSR := hid (HSR.out.trans hen0.1); clear hen0 HSC HAC HNC HOC f0 f1 f2 f3 k0 y0 y1 y2 y3 y4; obtain ⟨hsc, cfc, bnc, hac, hoc, hnc⟩ := HEN.out; have HSC := hid hsc; have HAC := hid hac; have HOC := hid hoc; have HNC := hid hnc; clear hsc hac hoc hnc HEN; obtain ⟨f0, f1, f2, f3⟩ := (HT.out _ HSC.out).four; obtain ⟨y0, y1, y2, y3, y4⟩ := (HT.out _ HSC.out).2.1 y hyN)
        | (at_builtin; refine wpList_append_own_at _ rfl (.tmp 91) (.tmp 103) 59 rfl w.heap.size 62 i0 (.agg #[.string ⟨#[]⟩, .int .i64 0]) 2 24 Tryz.underlying59 HHI.out.1 HHI.out.2.1 HHI.out.2.2.1 HHI.out.2.2.2 rfl (by decide) (.slice (some ⟨gi, 0, none⟩) (nL + q) ci) _ _ rfl (HKO.out _ (HSR.out.alloc _)) ⟨_, 0, none⟩ 1 1 [.string (x.nd y).text, .int .i64 y] rfl rfl (cell_two_new _ _ _ _) (by simp [Value.oneCell']) (by unfold maxLen; omega) (by omega) (by have := HSC.out.size; simp; omega) ?_; intro v5 w5 o5 g5 nn5 b5; have O5 := hid o5; have G5 := hid g5; have NN5 := hid nn5; clear o5 g5 nn5 b5))
       obtain ⟨g6, c6, rfl, hb6, hk6⟩ := KnR.of_own (L := Lj ++ [((x.nd y).text, y)]) (by rw [knRow_append]; exact O5.out) (by rw [List.length_append, HLJ.out]; rfl) (some_not_nil NN5.out)
       have HK6 := hid hk6
       have HEX : Hid (x.Ends w w5 F bn (es ++ ((x.o.getD y []).flatMap (fun j => wk x.nd x.o j (envL Lj)) ++ (flt8 (inL (x.nd y).text ((ps.take q).map fun q => (x.nd q).text).reverse) y 8 ++ flt8 (true && (x.o.getD y []).isEmpty) y 10)))) := by
        rw [HDUP.out, HKL.out]
        refine Mx.Ends.grown (gi := gi) (Mx.Ends.turn ?_) G5.out hgi HSgi.out
        rw [show flt8 (true && [z].isEmpty) y 10 = [] from rfl, List.append_nil, List.flatMap_cons, List.flatMap_nil, List.append_nil]
        exact ⟨HSC.out, cfc, bnc, HAC.out, HOC.out, HNC.out⟩
       have HE6 : Hid (envL (Lj ++ [((x.nd y).text, y)]) = (envL Lj).ext (x.nd y).text y) := envL_snoc _ _
       have HRD := hid (prm_round HES.out HY.out)
       have HRK := hid HKN.out
       rw [prm_drop _ _ _ HY.out] at HRK
       rw [hdd, HKL.out] at HRD HRK
       clear O5 G5 NN5 hk6 f0 f1 f2 f3 y0 y1 y2 y3 y4 HES HKN
       go_wp2
       go_roundw
       case rel =>
        refine ⟨q + 1, true, Lj ++ [((x.nd y).text, y)], g6, c6, _, by omega, by go_num, rfl, rfl, by rw [List.length_append, HLJ.out]; rfl, HK6.out, hb6, HEX.out, ?_, ?_⟩
        ·rw [HE6.out, HTQ.out, HKL.out]
         exact HRD.out
        ·rw [HE6.out, HTQ.out]
         exact HRK.out
       case measure => simp [intOf]; omega
  ·obtain rfl : j = m := by omega
   have c0 := HP.out _ HSC.out j (by omega)
   rw [List.getD_eq_getElem?_getD, List.getElem?_append_right (by have := HM.out; omega), HM.out, Nat.sub_self] at c0
   simp only [List.getElem?_cons_zero, Option.getD_some] at c0
   have e : ps.drop j = [] := List.drop_eq_nil_of_le (by have := HM.out; omega)
   rw [e] at HES HKN
   simp only [prm, List.append_nil] at HES HKN
   have e2 : es = (prm x.nd x.o (fun kn j => wk x.nd x.o j kn) ps (envL L) [] false).1 := HES.out
   have e3 : envL Lj = (prm x.nd x.o (fun kn j => wk x.nd x.o j kn) ps (envL L) [] false).2 := HKN.out
   have hbl : Lj.length + 10 * l ≤ 2000000 := by rw [HLJ.out]; omega
   have HZ2 : Hid (∀ (F : Nat × Nat → Prop) (cf : Nat → Nat) (bn : Nat → Int) (w : World), x.At w cf bn → Stb x.S w x.Tree → CodesOk cf F → KnR w gi ci Lj →
     Calls Tryz.prog 29 #[.pointer (some ⟨x.wb, 0, none⟩), .int .i64 l, .slice (some ⟨gi, 0, none⟩) (nL + j) ci] w fun e w' => e = .returned (.tuple #[]) ∧ x.Ends w w' F bn (wk x.nd x.o l (prm x.nd x.o (fun kn j => wk x.nd x.o j kn) ps (envL L) [] false).2)) := fun F cf bn w h1 h2 h3 h4 => by
    have := HL.out Lj gi ci F cf bn w hbl h1 h2 h3 h4 HSgi.out
    rw [HLJ.out, e3] at this
    exact this
   rw [e2] at HOC HNC
   clear e e2 e3 hbl
   go_wp2_with (first
    | (go_at_call 29; refine (HZ2.out _ cfc bnc _ HAC.out (HT.out.go HSC.out) HOC.out HKR.out).mono ?_; rintro e w4 ⟨rfl, hen0⟩; have HEN := hid (mends_join HSC.out HNC.out hen0); clear hen0))
   go_end0
   exact ⟨rfl, HEN.out⟩
structure FI (R G : Nat) (w : World) (N a nn nf P : Nat) (pv : Value) (wr : World) : Prop where
 gs : ∃ ns fs, ns.length ≤ nn ∧ fs.length ≤ nf ∧ GS R G ns fs P wr
 parts : Parts w wr pv a N
 gd : Gd R w wr
 lt : R < w.heap.size
section
variable {R G : Nat} {w : World} {N a nn nf P : Nat} {pv : Value} {wr : World}
theorem FI.gd' (h : FI R G w N a nn nf P pv wr) {w2 : World} {nn' nf' P' : Nat} (hg : ∃ ns fs, ns.length ≤ nn' ∧ fs.length ≤ nf' ∧ GS R G ns fs P' w2) (hk : Gd R wr w2) : FI R G w N a nn' nf' P' pv w2 := ⟨hg, h.parts.gd hk, h.gd.trans hk, h.lt⟩
theorem FI.next (h : FI R G w N a nn nf P pv wr) {w2 : World} (hb : Below wr.heap.size wr w2) : FI R G w N a nn nf P pv w2 := by
 obtain ⟨ns, fs, h1, h2, h3⟩ := h.gs
 exact h.gd' ⟨ns, fs, h1, h2, h3.next hb⟩ (Gd.of_below hb h3.bw)
theorem FI.mono (h : FI R G w N a nn nf P pv wr) {N' nn' nf' P' : Nat} (h1 : N ≤ N') (h2 : nn ≤ nn') (h3 : nf ≤ nf') (h4 : P ≤ P') : FI R G w N' a nn' nf' P' pv wr := by
 obtain ⟨ns, fs, e1, e2, e3⟩ := h.gs
 obtain ⟨xs, ls, p1, p2, p3, p4, p5⟩ := h.parts
 exact ⟨⟨ns, fs, by omega, by omega, e3.mono h4⟩, ⟨xs, ls, p1, p2, p3, p4, p5.mono h1⟩, h.gd, h.lt⟩
theorem FI.g0 (h : FI R G w N a nn nf P pv wr) : wr.cell? ⟨G, 0, none⟩ = some (.pointer (some ⟨R, 0, none⟩)) := by
 obtain ⟨ns, fs, _, _, h3⟩ := h.gs
 exact h3.g0
theorem FI.psl (h : FI R G w N a nn nf P pv wr) : ∃ pa pc, pv = .slice pa a pc := by
 obtain ⟨xs, ls, _, h2, _⟩ := h.parts
 exact own_sl h2
theorem FI.pick (h : FI R G w N a nn nf P pv wr) (hP : P + 10 ≤ 1000000) (n : Int) (hn : n ≤ 1000000000) :
  Calls Tryz.prog 17 #[.pointer (some ⟨R, 0, none⟩), .int .i64 n] wr fun e w2 => ∃ x : Nat, e = .returned (.int .i64 x) ∧ (x = 0 ∨ (x : Int) < n) ∧ FI R G w N a nn nf (P + 1) pv w2 := by
 obtain ⟨ns, fs, h1, h2, h3⟩ := h.gs
 refine (pick_gs h3 hP n hn).mono ?_
 rintro e w2 ⟨x, rfl, hx, g, k⟩
 exact ⟨x, rfl, hx, h.gd' ⟨ns, fs, h1, h2, g⟩ k.d⟩
theorem FI.e {d : Int} {K Ce : Nat} (he : EOk d K Ce) (h : FI R G w N a nn nf P pv wr) (hP : P + Ce + 10 ≤ 1000000) (hn : nn + Ce + 10 ≤ 1000000) (hf : nf ≤ 1000) (kind : Int) :
  Calls Tryz.prog 86 #[.pointer (some ⟨G, 0, none⟩), .int .i64 kind, .int .i64 d] wr fun e w2 => ∃ g n k, e = .returned (.slice (some ⟨g, 0, none⟩) n k) ∧ Has K w2 (.slice (some ⟨g, 0, none⟩) n k) ∧ FI R G w N a nn nf (P + Ce) pv w2 := by
 obtain ⟨ns, fs, h1, h2, h3⟩ := h.gs
 refine (e_gs he h3 hP (by omega) (by omega) kind).mono ?_
 rintro e w2 ⟨g, n, k, rfl, hl, hg, hk⟩
 exact ⟨g, n, k, rfl, hl, h.gd' ⟨ns, fs, h1, h2, hg⟩ hk.d⟩
theorem FI.def (h : FI R G w N a nn nf P pv wr) (hP : P + 4000 ≤ 1000000) (hn : nn ≤ 10000) (hf : nf ≤ 900) (name : ByteArray) (hnm : name.size ≤ 100) :
  Calls Tryz.prog 85 #[.pointer (some ⟨G, 0, none⟩), .string name, .int .i64 3] wr fun e w2 => ∃ g n k, e = .returned (.slice (some ⟨g, 0, none⟩) n k) ∧ Has 260 w2 (.slice (some ⟨g, 0, none⟩) n k) ∧ FI R G w N a nn (nf + 2) (P + 3000) pv w2 := by
 obtain ⟨ns, fs, h1, h2, h3⟩ := h.gs
 refine (def_any R G P wr ns fs name h3 hP (by omega) (by omega) hnm).mono ?_
 rintro e w2 ⟨g, n, k, fs', rfl, hl, hg, hlen, hk⟩
 exact ⟨g, n, k, rfl, hl, h.gd' ⟨ns, fs', h1, by omega, hg⟩ hk⟩
theorem FI.put1 (h : FI R G w N a nn nf P pv wr) (x : Nd) (u : Value) {K : Nat} (hu : Has K wr u) (hx : x.text.size ≤ 1000) (hK : K ≤ 100000) :
  Calls Tryz.prog 57 #[.agg #[.int .i64 x.kind, .int .i64 x.op, .int .i64 x.n, .string x.text, .int .i64 x.kids], .slice (some ⟨wr.heap.size, 0, none⟩) 1 1] (wr.alloc (.cells #[u] 23)) fun e w2 => ∃ g n k, e = .returned (.slice (some ⟨g, 0, none⟩) n k) ∧ Has (K + 1) w2 (.slice (some ⟨g, 0, none⟩) n k) ∧ FI R G w N a nn nf P pv w2 := by
 obtain ⟨l, h1, h2⟩ := hu
 refine (over1 x u l wr h1 (by have := h2.1; omega)).mono ?_
 rintro e w2 ⟨v, rfl, h3, h4⟩
 obtain ⟨g, n, k, rfl⟩ := h3.sl
 exact ⟨g, n, k, rfl, ⟨_, h3, h2.over hx⟩, h.next h4⟩
theorem FI.putAll (h : FI R G w N a nn nf P pv wr) (x : Nd) {g k : Nat} (hv : pv = .slice (some ⟨g, 0, none⟩) a k) (ha : a ≤ 1000) (hx : x.text.size ≤ 1000) (hK : N ≤ 100000) :
  Calls Tryz.prog 57 #[.agg #[.int .i64 x.kind, .int .i64 x.op, .int .i64 x.n, .string x.text, .int .i64 x.kids], .slice (some ⟨g, 0, none⟩) a k] wr fun e w2 => ∃ g n k, e = .returned (.slice (some ⟨g, 0, none⟩) n k) ∧ Has (N + 1) w2 (.slice (some ⟨g, 0, none⟩) n k) ∧ FI R G w N a nn nf P pv w2 := by
 obtain ⟨xs, ls, h1, h2, h3, h4, h5⟩ := h.parts
 subst hv
 have hparts : PartsIn wr (some ⟨g, 0, none⟩) xs ls := by
  refine ⟨h3, ?_, h4⟩
  rcases h2.2 with ⟨e, _⟩ | ⟨g', cap, cur, e, _, b3, _, _, _, b4⟩
  ·cases e
  ·cases e
   refine .inr ⟨g, rfl, cur, b3, fun j u hu => ?_⟩
   rw [Nat.mul_one] at b4
   rw [← b4] at hu
   have hj := (List.getElem?_eq_some_iff.1 hu).1
   rw [List.length_take] at hj
   rw [List.getElem?_take_of_lt (by omega)] at hu
   simpa using hu
 refine (l2Over_any x (some ⟨g, 0, none⟩) a k xs ls wr h1 (by omega) hparts (by have := h5.1; omega)).mono ?_
 rintro e w2 ⟨v, rfl, h6, h7⟩
 obtain ⟨g2, n2, k2, rfl⟩ := h6.sl
 exact ⟨g2, n2, k2, rfl, ⟨_, h6, h5.over hx⟩, h.next h7⟩
theorem FI.parted (h : FI R G w N a nn nf P pv wr) {w2 : World} {v2 u : Value} {K : Nat} {xs : List Value} {ls : List (List Nd)} (hn : xs.length = a) (hl : xs.length = ls.length) (hh : ∀ (j : Nat) u l, xs[j]? = some u → ls[j]? = some l → NdIn wr u l) (hok : NdOk N ls.flatten) (hv : wr.ownsRow w.heap.size 23 1 pv a xs) (hu : Has K wr u) (hg : wr.grownBy w2 pv.ownBlock) (ho : w2.ownsRow w.heap.size 23 1 v2 (a + 1) (xs ++ [u])) : FI R G w (N + K) (a + 1) nn nf P v2 w2 := by
 have hlo := own_lo hv
 have keep : ∀ (k : Nat) cs t fr, wr.heap[k]? = some (.cells cs t fr) → t ≠ 23 → w2.heap[k]? = wr.heap[k]? := fun k cs t fr hc ht => hg.block k (Array.getElem?_eq_some_iff.1 hc).1 fun e2 => by
  obtain ⟨_, cur, hc2⟩ := hlo k e2.symm
  rw [hc] at hc2
  cases hc2
  exact ht rfl
 have old : ∀ k, k < w.heap.size → w2.heap[k]? = wr.heap[k]? := fun k hk => hg.block k (Nat.lt_of_lt_of_le hk h.gd.size) fun e => by have := (hlo k e.symm).1; omega
 obtain ⟨⟨ns, fs, e1, e2, c0, sz0, p0, g0, gb⟩, _, h8, h9⟩ := h
 obtain ⟨lu, u1, u2⟩ := hu
 have hnd : ∀ u l, NdIn wr u l → NdIn w2 u l := fun u l hn => hn.keep fun g cur hc => keep g _ _ _ hc (by decide)
 refine ⟨⟨ns, fs, e1, e2, c0, sz0, p0, g0.keep (fun k cs t fr hc ht => keep k cs t fr hc ?_) (fun k hk => old k (by omega)) (fun x hx => (g0.fok x hx).other hg fun k hk => by obtain ⟨_, cur, e5⟩ := hlo k hk; exact ⟨cur, _, e5, by decide⟩), gb⟩, ⟨xs ++ [u], ls ++ [lu], by simp [hn], ho, by simp [hl], fun j u' l' hu' hl' => ?_, by rw [List.flatten_append]; simpa using hok.app u2⟩, ⟨hg.os.trans h8.os, hg.tape.trans h8.tape, hg.output.trans h8.output, Nat.le_trans h8.size hg.size, fun k hk => (old k (by omega)).trans (h8.low k hk), fun k cs t fr hc ht h2 => (old k (Array.getElem?_eq_some_iff.1 hc).1).trans (h8.block k cs t fr hc ht h2)⟩, h9⟩
 ·rcases ht with ht | ⟨rfl, _⟩
  ·rintro rfl
   revert ht
   unfold GenT
   decide
  ·decide
 by_cases hj : j < xs.length
 ·rw [List.getElem?_append_left hj] at hu'
  rw [List.getElem?_append_left (by omega)] at hl'
  exact hnd _ _ (hh j u' l' hu' hl')
 ·rw [List.getElem?_append_right (by omega)] at hu'
  rw [List.getElem?_append_right (by omega)] at hl'
  have hj0 : j - xs.length = 0 := by
   have := (List.getElem?_eq_some_iff.1 hu').1
   simp at this
   omega
  rw [hj0] at hu'
  rw [show j - ls.length = 0 by omega] at hl'
  cases hu'; cases hl'
  exact hnd _ _ u1
theorem FI.regrown (h : FI R G w N a nn nf P pv wr) {w2 : World} {v2 : Value} {xs : List Value} {ls : List (List Nd)} (hn : xs.length = a) (hl : xs.length = ls.length) (hh : ∀ (j : Nat) u l, xs[j]? = some u → ls[j]? = some l → NdIn wr u l) (hok : NdOk N ls.flatten) (hv : wr.ownsRow w.heap.size 23 1 pv a xs) (hg : wr.grownBy w2 pv.ownBlock) (ho : w2.ownsRow w.heap.size 23 1 v2 a xs) : FI R G w N a nn nf P v2 w2 := by
 have hlo := own_lo hv
 have keep : ∀ (k : Nat) cs t fr, wr.heap[k]? = some (.cells cs t fr) → t ≠ 23 → w2.heap[k]? = wr.heap[k]? := fun k cs t fr hc ht => hg.block k (Array.getElem?_eq_some_iff.1 hc).1 fun e2 => by
  obtain ⟨_, cur, hc2⟩ := hlo k e2.symm
  rw [hc] at hc2
  cases hc2
  exact ht rfl
 have old : ∀ k, k < w.heap.size → w2.heap[k]? = wr.heap[k]? := fun k hk => hg.block k (Nat.lt_of_lt_of_le hk h.gd.size) fun e => by have := (hlo k e.symm).1; omega
 obtain ⟨⟨ns, fs, e1, e2, c0, sz0, p0, g0, gb⟩, _, h8, h9⟩ := h
 have hnd : ∀ u l, NdIn wr u l → NdIn w2 u l := fun u l hn => hn.keep fun g cur hc => keep g _ _ _ hc (by decide)
 refine ⟨⟨ns, fs, e1, e2, c0, sz0, p0, g0.keep (fun k cs t fr hc ht => keep k cs t fr hc ?_) (fun k hk => old k (by omega)) (fun x hx => (g0.fok x hx).other hg fun k hk => by obtain ⟨_, cur, e5⟩ := hlo k hk; exact ⟨cur, _, e5, by decide⟩), gb⟩, ⟨xs, ls, hn, ho, hl, fun j u l hu hl => hnd _ _ (hh j u l hu hl), hok⟩, ⟨hg.os.trans h8.os, hg.tape.trans h8.tape, hg.output.trans h8.output, Nat.le_trans h8.size hg.size, fun k hk => (old k (by omega)).trans (h8.low k hk), fun k cs t fr hc ht h2 => (old k (Array.getElem?_eq_some_iff.1 hc).1).trans (h8.block k cs t fr hc ht h2)⟩, h9⟩
 rcases ht with ht | ⟨rfl, _⟩
 ·rintro rfl
  revert ht
  unfold GenT
  decide
 ·decide
theorem FI.named (h : FI R G w N a nn nf P pv wr) : ∃ (ns : List (ByteArray × Int)) (an : Option Addr) (cn : Nat), ns.length ≤ nn ∧ wr.cell? ⟨G, 1, none⟩ = some (.slice an ns.length cn) ∧ wr.frozen? ⟨G, 1, none⟩ = false ∧ wr.ownsRow R 130 2 (.slice an ns.length cn) ns.length (seenRow ns) ∧
  ∀ (x : ByteArray × Int) (v2 : Value) (w1 : World), x.1.size ≤ 100 → wr.grownBy w1 (Value.slice an ns.length cn).ownBlock → w1.ownsRow R 130 2 v2 (ns.length + 1) (seenRow ns ++ [.string x.1, .int .i64 x.2]) →
   w1.cell? ⟨G, 1, none⟩ = some (.slice an ns.length cn) ∧ w1.frozen? ⟨G, 1, none⟩ = false ∧ FI R G w N a (nn + 1) nf P pv (w1.setCell ⟨G, 1, none⟩ v2) := by
 have hself := h
 obtain ⟨⟨ns, fs, e1, e2, c0, sz0, p0, g0, gb⟩, _, h8, h9⟩ := h
 obtain ⟨un, uf, f1, f2, f3⟩ := g0.ex
 have f4 := cell_hp f1 1
 have f5 := frozen_hp f1 1
 simp at f4
 obtain ⟨an, cn, rfl⟩ := own_sl f2
 refine ⟨ns, an, cn, e1, f4, f5, f2, fun x v2 w1 hx hg ho => ?_⟩
 obtain ⟨⟨vn2, vf2, b1, b2, b3⟩, rd2, fk2, gk2⟩ := g0.grown f2 rfl hg
 have b1' := cell_hp b1 1
 rw [f4] at b1'
 simp at b1'
 have b4 := cell_hp b2 1
 simp at b4
 have hs := gen_set (ns' := ns ++ [x]) b2 b3 rd2 g0.le.2 fk2 v2 (by rw [seenRow_append, List.length_append]; exact ho) (fun y hy => by
  rcases List.mem_append.1 hy with hy | hy
  ·exact g0.nok y hy
  ·simp at hy; subst hy; exact hx)
 exact ⟨by rw [b1']; exact b4, frozen_hp b2 1, hself.gd' ⟨ns ++ [x], fs, by simp; omega, e2, c0, sz0, p0, hs.1, gb⟩ (gk2.trans hs.2).d⟩
end
theorem GS.set_other {R G P : Nat} {ns : List (ByteArray × Int)} {fs : List Fn} {W : World} (h : GS R G ns fs P W) {g i : Nat} {cs : Array Value} {t : TypeId} (hc : W.heap[g]? = some (.cells cs t (0, 0))) (h1 : ¬ GenT t) (h2 : t ≠ 140) (h3 : t ≠ 3) (hR : R ≤ g) (v : Value) : GS R G ns fs P (W.setCell ⟨g, i, none⟩ v) := by
 obtain ⟨c0, sz0, p0, g0, gb⟩ := h
 have hg := set_grown W g i v
 have keep : ∀ (k : Nat) cs' t' fr, W.heap[k]? = some (.cells cs' t' fr) → t' ≠ t → (W.setCell ⟨g, i, none⟩ v).heap[k]? = W.heap[k]? := fun k cs' t' fr hc' ht => Below.heap_setCell _ _ _ _ (fun e => by
  have e' : k = g := e
  subst e'
  rw [hc] at hc'
  cases hc'
  exact ht rfl)
 refine ⟨c0, sz0, p0, g0.keep (fun k cs' t' fr hc' ht => keep k cs' t' fr hc' ?_) (fun k hk => Below.heap_setCell _ _ _ _ (by show k ≠ g; omega)) (fun x hx => (g0.fok x hx).other hg fun k e => by cases e; exact ⟨_, _, hc, h3⟩), gb⟩
 rcases ht with ht | ⟨rfl, _⟩
 ·rintro rfl
  exact h1 ht
 ·exact fun e => h2 e.symm
end Go.Proofs.YtbakebdfmdepnaaGreatDoor
