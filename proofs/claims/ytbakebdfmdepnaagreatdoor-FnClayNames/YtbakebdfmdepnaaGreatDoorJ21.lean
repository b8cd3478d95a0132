import Derived.Orders
import Derived.Test.YtbakebdfmdepnaaGreatDoorJ20
import Derived.Test.YtbakebdfmdepnaaGreatDoorJ19
import Derived.Test.YtbakebdfmdepnaaGreatDoorJ18
namespace Go.Proofs.YtbakebdfmdepnaaGreatDoor
open Go.RowKit Go.Maps Go.WideMaps
set_option maxRecDepth 20000
theorem ends_join {x : Bx} {w wr w1 : World} {bn bn1 : Nat → Int} {p : Int × Int} {e1 e2 : List Ev} (hs : Sv x.S w wr) (hn : fls e1 = [] → bn1 = apB bn e1) (h2 : x.Ends wr w1 bn1 (ft p (fls e1)) e2) : x.Ends w w1 bn p (e1 ++ e2) := by
 obtain ⟨s2, b2, a2, n2⟩ := h2
 refine ⟨hs.trans s2, b2, by rw [fls_append, ft_append]; exact a2, fun h => ?_⟩
 rw [fls_append] at h
 obtain ⟨e3, e4⟩ := List.append_eq_nil_iff.1 h
 rw [n2 e4, hn e3, apB_append]
theorem Bx.kids {x : Bx} (hx : x.Ok) {w : World} (ht : Stb x.S w x.Tree) (k : Nat) (hk : k < x.N) : ∃ ad c, (x.o.getD k []).length ≤ c ∧ c ≤ maxLen ∧ (x.o.getD k [] = [] ∨ ∃ g, ad = some ⟨g, 0, none⟩) ∧
  Stb x.S w fun W => W.cell? ⟨x.gk, k, none⟩ = some (.slice ad (x.o.getD k []).length c) ∧ PlA W ad (x.o.getD k []) := by
 obtain ⟨ad, c, h1, h2, h3, h4⟩ := ht.now.2 k hk
 refine ⟨ad, c, h2, h3, h4.imp_right fun ⟨g, h, _⟩ => ⟨g, h⟩, fun W hW => ?_⟩
 have e := (hW.cell (p := ⟨x.gk, k, none⟩) (World.block_lt_of_cell? w _ h1) hx.gk).trans h1
 obtain ⟨ad', c', h5, _, _, h6⟩ := (ht W hW).2 k hk
 rw [e] at h5
 cases h5
 refine ⟨e, h6.imp_right ?_⟩
 rintro ⟨g, rfl, h7⟩
 exact ⟨g, 0, rfl, fun i hi => by rw [Nat.zero_add]; exact h7 i hi⟩
theorem Bx.At.grown {x : Bx} {W W' : World} {bn : Nat → Int} {c a : Int} {m : Nat} (h : x.At W bn c a) (hg : W.grownBy W' (some m)) (hm : ¬ x.S m) : x.At W' bn c a := by
 have hl := h.lt
 obtain ⟨h1, cur, h2, h3⟩ := h
 exact ⟨(hg.block _ (hl _ (.inl rfl)) (fun e => hm (by injection e with e; exact .inl e.symm))).trans h1, cur, (hg.block _ (hl _ (.inr rfl)) (fun e => hm (by injection e with e; exact .inr e.symm))).trans h2, h3⟩
theorem finds_more {x : Bx} (hne : x.bb ≠ x.gb) (code at_ : Nat) {w wr : World} {bn bn1 : Nat → Int} {p : Int × Int} {ec : List Ev} (hs : Sv x.S w wr) (ha : x.At wr bn1 (ft p (fls ec)).1 (ft p (fls ec)).2) (hn : fls ec = [] → bn1 = apB bn ec) :
  Calls Tryz.prog 67 #[.pointer (some ⟨x.bb, 0, none⟩), .int .i64 code, .int .i64 at_] wr fun e w' => e = .returned (.tuple #[]) ∧ x.Ends w w' bn p (ec ++ [.flt at_ code]) ∧ Sv x.S wr w' := by
 refine (finds_any x code at_ bn1 (ft p (fls ec)) wr ha hne).mono ?_
 rintro e w' ⟨rfl, h⟩
 exact ⟨rfl, ends_join hs hn h, h.1⟩
theorem finds_int {x : Bx} (hne : x.bb ≠ x.gb) (code : Int) (hc : 0 ≤ code) (at_ : Nat) {w wr : World} {bn bn1 : Nat → Int} {p : Int × Int} {ec : List Ev} (hs : Sv x.S w wr) (ha : x.At wr bn1 (ft p (fls ec)).1 (ft p (fls ec)).2) (hn : fls ec = [] → bn1 = apB bn ec) :
  Calls Tryz.prog 67 #[.pointer (some ⟨x.bb, 0, none⟩), .int .i64 code, .int .i64 at_] wr fun e w' => e = .returned (.tuple #[]) ∧ x.Ends w w' bn p (ec ++ [.flt at_ code.toNat]) ∧ Sv x.S wr w' := by
 obtain ⟨c, rfl⟩ := Int.eq_ofNat_of_zero_le hc
 exact finds_more hne c at_ hs ha hn
structure PInv (x : Bx) (W : Env → Nat → List Ev) (w wr : World) (a : Option Addr) (kn : Env) (bn : Nat → Int) (p : Int × Int) (ps : List Nat) (j : Nat) (b m : Nat) (d : Bool) : Prop where
 run : ∃ f ns es, Top wr b m j f (.pointer a) ∧ x.Ends w wr bn p es ∧ (∀ t, (f t).isSome = inL t ns) ∧
  es ++ (prm x.nd x.o W (ps.drop j) (fun t => (f t).getD (kn t)) ns d).1 = (prm x.nd x.o W ps kn [] false).1 ∧ (prm x.nd x.o W (ps.drop j) (fun t => (f t).getD (kn t)) ns d).2 = (prm x.nd x.o W ps kn [] false).2
theorem ext_set (f : ByteArray → Option Int) (kn : Env) (s : ByteArray) (v : Int) : (fun t => (setF f s v t).getD (kn t)) = Env.ext (fun t => (f t).getD (kn t)) s v := by
 funext t
 unfold setF Env.ext
 split <;> rfl
theorem inL_cons (t s : ByteArray) (ns : List ByteArray) : inL t (s :: ns) = (decide (s = t) || inL t ns) := rfl
theorem set_some {f : ByteArray → Option Int} {ns : List ByteArray} (h : ∀ t, (f t).isSome = inL t ns) (s : ByteArray) (v : Int) : ∀ t, (setF f s v t).isSome = inL t (s :: ns) := by
 intro t
 rw [inL_cons]
 unfold setF
 by_cases e : t = s
 ·subst e; simp
 ·rw [if_neg e, h t]
  have : ¬ s = t := fun h => e h.symm
  simp [this]
theorem prm_drop (nd : Nat → Nd) (o : List (List Nat)) (W : Env → Nat → List Ev) {ps : List Nat} {j y : Nat} (h : ps[j]? = some y) (kn : Env) (ns : List ByteArray) (d : Bool) :
  prm nd o W (ps.drop j) kn ns d = ((o.getD y []).flatMap (W kn) ++ ((if inL (nd y).text ns = true then [.flt y 8] else []) ++ ((if d = true ∧ o.getD y [] = [] then [.flt y 10] else []) ++
   (prm nd o W (ps.drop (j + 1)) (kn.ext (nd y).text y) ((nd y).text :: ns) (d || !(o.getD y []).isEmpty)).1)),
   (prm nd o W (ps.drop (j + 1)) (kn.ext (nd y).text y) ((nd y).text :: ns) (d || !(o.getD y []).isEmpty)).2) := by
 have hl := (List.getElem?_eq_some_iff.1 h).1
 have e : ps[j] = y := (List.getElem?_eq_some_iff.1 h).2
 rw [List.drop_eq_getElem_cons hl, e]
 rfl
set_option maxHeartbeats 2000000 in
theorem function_of (x : Bx) (hx : x.Ok) (ps : List Nat) (l : Nat) (kn : Env) (W : Env → Nat → List Ev) (hw : ∀ q ∈ ps, ∀ j ∈ x.o.getD q [], ∀ kn, WalksTo x j (fun kn => W kn j) kn) (hlast : ∀ kn, WalksTo x l (fun kn => W kn l) kn) (hpN : ∀ q ∈ ps, q < x.N) (hlen : ps.length ≤ 4000)
  (g cp : Nat) (a : Option Addr) (bn : Nat → Int) (p : Int × Int) (w : World) (hcp : ps.length + 1 ≤ cp) (hp : Stb x.S w fun W => ∀ i, i < ps.length + 1 → W.cell? ⟨g, i, none⟩ = some (.int .i64 ((ps ++ [l]).getD i 0 : Nat))) (h : x.At w bn p.1 p.2) (ht : Stb x.S w x.Tree) (hk : Kn x.S w (.pointer a) kn) :
  Calls Tryz.prog 42 #[.pointer (some ⟨x.bb, 0, none⟩), .slice (some ⟨g, 0, none⟩) (ps.length + 1) cp, .pointer a] w fun e w' => e = .returned (.tuple #[]) ∧ x.Ends w w' bn p ((prm x.nd x.o W ps kn [] false).1 ++ W (prm x.nd x.o W ps kn [] false).2 l) := by
 have HX := hid hx
 have HW := hid hw
 have HL := hid hlast
 have HPN := hid hpN
 have HP := hid hp
 have H := hid h
 have HT := hid ht
 have HK := hid hk
 clear hx hw hlast hpN hp h ht hk
 obtain ⟨m, hm⟩ : ∃ m, ps.length = m := ⟨_, rfl⟩
 have HM := hid hm
 rw [hm] at hlen hcp HP ⊢
 clear hm
 go_enter Tryz.func42, Tryz.ntmps42
 go_wp2_with (first
  | (go_at_call 68; refine (inside_any a _).mono ?_; rintro e w1 ⟨b, mm, rfl, htop, hb, hmm, hbw⟩; have HTOP := hid htop; have HBW := hid hbw; clear htop hbw))
 have HSb : Hid (¬ x.S b) := fun h => by have := H.out.lt b h; omega
 have HSm : Hid (¬ x.S mm) := fun h => by have := H.out.lt mm h; omega
 go_loopw [8, 23] (fun dv i wr => ∃ (j : Nat) (d : Bool), j ≤ m ∧ i = .int .i64 j ∧ dv = .bool d ∧ PInv x W w wr a kn bn p ps j b mm d) (fun _ i _ => m - (intOf i).toNat)
 case atStart => exact ⟨0, false, Nat.zero_le _, rfl, rfl, ⟨_, [], [], HTOP.out, ⟨Sv.of_below HBW.out, bn, H.out.go HBW.out, fun _ => rfl⟩, fun t => rfl, rfl, rfl⟩⟩
 case round =>
  obtain ⟨j, d, hj, rfl, rfl, ⟨f, ns, es, htop, hen, hfs, hes, hkn⟩⟩ := hrel
  clear HTOP
  have HTOP := hid htop
  have HFS := hid hfs
  have HES := hid hes
  have HKN := hid hkn
  obtain ⟨hs1, bn1, ha1, hn1⟩ := hen
  have HS1 := hid hs1
  have HA1 := hid ha1
  have HN1 := hid hn1
  clear htop hfs hes hkn hs1 ha1 hn1
  by_cases hlt : j < m
  ·obtain ⟨y, hy⟩ : ∃ y, ps[j]? = some y := ⟨_, List.getElem?_eq_getElem (by have := HM.out; omega)⟩
   have HY := hid hy
   have HYM := hid (List.mem_of_getElem? hy)
   have hyN := HPN.out y HYM.out
   have hN5 := HX.out.N
   have c0 := HP.out _ HS1.out j (by omega)
   rw [List.getD_eq_getElem?_getD, List.getElem?_append_left (by have := HM.out; omega), hy] at c0
   simp only [Option.getD_some] at c0
   clear hy
   obtain ⟨ad, c, hk1, hk2, hk3, hk4⟩ := Bx.kids HX.out HT.out y hyN
   obtain ⟨kl, hkl⟩ : ∃ kl, x.o.getD y [] = kl := ⟨_, rfl⟩
   have HKL := hid hkl
   have HK5 := hid (HX.out.kids y)
   rw [hkl] at hk4 hk1 HK5
   have HK4 := hid hk4
   have k0 := (hk4 _ HS1.out).1
   clear hk4 hk3 hkl
   obtain ⟨f0, f1, f2, f3, f4, f5, f6⟩ := HA1.out.five
   go_wp2_with (first
    | (go_at_call 40; refine (walkAll_of x kl (fun t => (f t).getD (kn t)) (fun j kn => W kn j) (fun j hj => HW.out y HYM.out j (by rw [HKL.out]; exact hj) _) ad c (some ⟨b, 0, none⟩) bn1 (ft p (fls es)) _ HK5.out (fun W' hW' => (HK4.out W' (HS1.out.trans hW')).2) HA1.out (HT.out.go HS1.out) (HK.out.top HS1.out HTOP.out HSb.out HSm.out hb)).mono ?_; rintro e w2 ⟨rfl, hen1⟩; have HE1 := hid hen1; clear hen1))
   clear f0 f1 f2 f3 f4 f5 f6 k0 c0
   have HEN : Hid (x.Ends w w2 bn p (es ++ kl.flatMap (fun j => W (fun t => (f t).getD (kn t)) j))) := ends_join HS1.out HN1.out HE1.out
   have HSR := hid HE1.out.1
   clear HE1 HA1 HN1
   obtain ⟨hsc, bnc, hac, hnc⟩ := HEN.out
   have HSC := hid hsc
   have HAC := hid hac
   have HNC := hid hnc
   have HTC := hid (HTOP.out.go HSR.out HSb.out HSm.out)
   clear hsc hac hnc HEN
   obtain ⟨f0, f1, f2, f3, f4, f5, f6⟩ := HAC.out.five
   have t0 := HTC.out.made
   obtain ⟨c0, c1, c2, c3, c4⟩ := (HT.out _ HSC.out).1 y hyN
   have hget := (HTC.out.map.keep (W' := w2.drew) rfl).get (x.nd y).text (HX.out.text y hyN)
   rw [HFS.out] at hget
   go_region
   have HSC : Hid (Sv x.S w w2.drew) := HSC.out.drew
   have HSR : Hid (Sv x.S wr w2.drew) := HSR.out.drew
   have HAC : Hid (x.At w2.drew bnc (ft p (fls (es ++ kl.flatMap (fun j => W (fun t => (f t).getD (kn t)) j)))).1 (ft p (fls (es ++ kl.flatMap (fun j => W (fun t => (f t).getD (kn t)) j)))).2) := HAC.out
   clear f0 f1 f2 f3 f4 f5 f6 c0 c1 c2 c3 c4 t0 hget HTC
   generalize w2.drew = w3 at *
   obtain ⟨f0, f1, f2, f3, f4, f5, f6⟩ := HAC.out.five
   have k0 := (HK4.out _ HSC.out).1
   cases htw : inL (x.nd y).text ns
   all_goals cases hkk : kl
   all_goals cases hdd : d
   all_goals
    rw [hkk] at k0 hk1 HK4 HKL HAC HNC
    simp only [List.length_nil, List.length_cons] at k0
    have HTW := hid htw
    clear htw
    go_wp2_with (first | (go_at_call 67; refine (finds_int HX.out.ne _ (by decide) y HSC.out HAC.out HNC.out).mono ?_; rintro e w4 ⟨rfl, hen, hsv⟩; have HEN := hid hen; have HSR := hid (HSR.out.trans hsv); clear hen hsv HSC HAC HNC f0 f1 f2 f3 f4 f5 f6 k0; obtain ⟨hsc, bnc, hac, hnc⟩ := HEN.out; have HSC := hid hsc; have HAC := hid hac; have HNC := hid hnc; clear hsc hac hnc HEN; obtain ⟨f0, f1, f2, f3, f4, f5, f6⟩ := HAC.out.five; have k0 := (HK4.out _ HSC.out).1))
    have HTC0 := hid (HTOP.out.go HSR.out HSb.out HSm.out)
    have HTC := hid (HTC0.out.go ((Sv.refl x.S _).drew) HSb.out HSm.out)
    have t0 := HTC0.out.made
    obtain ⟨c0, c1, c2, c3, c4⟩ := (HT.out _ HSC.out).1 y hyN
    obtain ⟨w6, hput, hmap, hgr⟩ := HTC.out.map.put (by unfold maxLen; omega) (x.nd y).text (HX.out.text y hyN) y (wf_nat y (by omega))
    have HPUT := hid (top_put HTC.out hgr hmap HSC.out.drew hmm)
    have HA6 := hid (Bx.At.grown (W := World.drew _) HAC.out hgr HSm.out)
    clear hmap hgr
    go_region
    clear c0 c1 c2 c3 c4 t0 f0 f1 f2 f3 f4 f5 f6 hput
    go_wp2
    go_roundw
    case rel =>
     refine ⟨j + 1, _, by omega, by go_num, rfl, ⟨_, _, _, HPUT.out.1, ⟨HPUT.out.2, bnc, HA6.out, HNC.out⟩, set_some HFS.out (x.nd y).text y, ?_, ?_⟩⟩
     ·rw [← HES.out, prm_drop _ _ _ HY.out, ext_set, HKL.out, HTW.out]
      simp [List.append_assoc, hdd]
     ·rw [← HKN.out, prm_drop _ _ _ HY.out, ext_set, HKL.out]
      simp [hdd]
    case measure => simp [intOf]; omega
  ·obtain rfl : j = m := by omega
   have c0 := HP.out _ HS1.out j (by omega)
   rw [List.getD_eq_getElem?_getD, List.getElem?_append_right (by have := HM.out; omega), HM.out, Nat.sub_self] at c0
   simp only [List.getElem?_cons_zero, Option.getD_some] at c0
   have e : ps.drop j = [] := List.drop_eq_nil_of_le (by have := HM.out; omega)
   rw [e] at HES HKN
   simp only [prm, List.append_nil] at HES HKN
   have e2 : es = (prm x.nd x.o W ps kn [] false).1 := HES.out
   have e3 : (fun t => (f t).getD (kn t)) = (prm x.nd x.o W ps kn [] false).2 := HKN.out
   have HKT := hid (HK.out.top HS1.out HTOP.out HSb.out HSm.out hb)
   rw [e3] at HKT
   rw [e2] at HA1 HN1
   clear e e2 e3
   go_wp2_with (first
    | (go_at_call 21; refine (HL.out _ _ bn1 _ _ HA1.out (HT.out.go HS1.out) HKT.out).mono ?_; rintro e w2 ⟨rfl, hen1⟩; have HE1 := hid hen1; clear hen1))
   go_end0
   exact ⟨rfl, ends_join HS1.out HN1.out HE1.out⟩
end Go.Proofs.YtbakebdfmdepnaaGreatDoor
namespace Go.Proofs.YtbakebdfmdepnaaGreatDoor
open Go.RowKit
set_option maxRecDepth 20000
theorem count_set {l : Array Bool} {i : Nat} (h : l.getD i true = false) : (l.setIfInBounds i true).toList.count false + 1 = l.toList.count false := by
 have hi : i < l.size := by
  rcases Nat.lt_or_ge i l.size with h' | h'
  ·exact h'
  ·simp [Array.getElem?_eq_none h'] at h
 have hv : l[i] = false := by simpa [hi] using h
 have hp : 0 < l.toList.count false := List.count_pos_iff.2 (by rw [← hv]; exact Array.getElem_mem_toList hi)
 have hv' : l.toList[i]'(by simpa using hi) = false := by simpa using hv
 rw [Array.toList_setIfInBounds, List.count_set (by simpa using hi), hv']
 show l.toList.count false - 1 + 0 + 1 = _
 omega
def Closed (ops : Array Oper) (l : Array Bool) : Prop := ∀ (k : Nat) o, ops[k]? = some o → l.getD k false = true → ∀ e ∈ o.after, Region.binds .any e = true → l.getD e.on false = true
theorem Closed.put {ops : Array Oper} {l : Array Bool} {i : Nat} {o : Oper} (h : Closed ops l) (ho : ops[i]? = some o) (hall : ∀ e ∈ o.after, Region.binds .any e = true → l.getD e.on false = true) : Closed ops (l.setIfInBounds i true) := by
 intro k o' ho' hk e he hb
 by_cases hik : i = k
 ·subst hik
  rw [ho] at ho'
  cases ho'
  exact getD_set_true (hall e he hb)
 ·rw [getD_set_ne false hik] at hk
  exact getD_set_true (h k o' ho' hk e he hb)
theorem wpAny_inv {P : Program} {ops : Array Oper} {Q : Exit → Act → World → Prop} (I : Array Bool → Act → World → Prop)
  (hs : ∀ l a w i o, l.size = ops.size → Closed ops l → I l a w → ops[i]? = some o → l.getD i true = false → (∀ e ∈ o.after, Region.binds .any e = true → l.getD e.on false = true) → wpOp P ops Q i (I (l.setIfInBounds i true)) a w)
  (hlt : ∀ (i : Nat) o, ops[i]? = some o → ∀ e ∈ o.after, e.on < i)
  (hf : ∀ l a w, I l a w → (∀ k, k < ops.size → l.getD k false = true) → Q .normal a w) :
  ∀ (fuel : Nat) (l : Array Bool) (a : Act) (w : World), l.size = ops.size → Closed ops l → l.toList.count false ≤ fuel → I l a w → wpAny P .any ops Q fuel l a w := by
 have hend : ∀ l a w, l.size = ops.size → I l a w → Region.ready .any ops l = [] → Q .normal a w := fun l a w hl hI hr => by
  refine hf l a w hI fun k => ?_
  induction k using Nat.strongRecOn with
  | _ k ih =>
   intro hk
   cases hlk : l.getD k false with
   | true => rfl
   | false =>
    exfalso
    have hmem : k ∈ Region.ready .any ops l := by
     rw [mem_ready]
     refine ⟨?_, ops[k], Array.getElem?_eq_getElem hk, fun e he _ => ?_⟩
     ·have hkl : k < l.size := by omega
      simp [hkl] at hlk ⊢
      exact hlk
     ·have h1 := hlt k _ (Array.getElem?_eq_getElem hk) e he
      exact ih e.on h1 (by omega)
    rw [hr] at hmem
    cases hmem
 intro fuel
 induction fuel with
 | zero =>
  intro l a w hl _ hc hI
  have hnone : Region.ready .any ops l = [] := by
   rw [List.eq_nil_iff_forall_not_mem]
   intro j hj
   rw [mem_ready] at hj
   have h1 := count_set hj.1
   omega
  exact ⟨hnone, hend l a w hl hI hnone⟩
 | succ fuel ih =>
  intro l a w hl hcl hc hI
  refine ⟨hend l a w hl hI, fun i hi => ?_⟩
  rw [mem_ready] at hi
  obtain ⟨h0, o, ho, hall⟩ := hi
  refine wpOp_mono (fun a' w' hI' => ?_) (hs l a w i o hl hcl hI ho h0 hall)
  have h1 := count_set h0
  exact ih _ a' w' (by simpa using hl) (hcl.put ho hall) (by omega) hI'
theorem wp_region_inv {P : Program} {id : Nat} {ops : Array Oper} {Q : Exit → Act → World → Prop} {a : Act} {w : World} (hm : P.follows .mixedOrders = true) (I : Array Bool → Act → World → Prop)
  (h0 : I (Array.replicate ops.size false) a w.drew)
  (hs : ∀ l a w i o, l.size = ops.size → Closed ops l → I l a w → ops[i]? = some o → l.getD i true = false → (∀ e ∈ o.after, Region.binds .any e = true → l.getD e.on false = true) → wpOp P ops Q i (I (l.setIfInBounds i true)) a w)
  (hlt : ∀ (i : Nat) o, ops[i]? = some o → ∀ e ∈ o.after, e.on < i)
  (hf : ∀ l a w, I l a w → (∀ k, k < ops.size → l.getD k false = true) → Q .normal a w) : (Code.region id ops true).wp P Q a w :=
 wp_region_any hm (wpAny_inv I hs hlt hf ops.size _ a _ (by simp) (fun k o _ hk => by
  exfalso
  rcases Nat.lt_or_ge k ops.size with h | h
  ·simp [h] at hk
  ·simp [h] at hk) (by simp) h0)
theorem Parts.none {w W : World} (hw : w.heap.size ≤ W.heap.size) : Parts w (W.alloc (.cells #[] 23)) (.slice (some ⟨W.heap.size, 0, none⟩) 0 0) 0 0 :=
 ⟨[], [], rfl, ⟨rfl, .inr ⟨W.heap.size, 0, #[], rfl, hw, heap_alloc_new W _, Nat.le_refl _, by unfold maxLen; omega, rfl, rfl⟩⟩, rfl, fun j u l hu _ => by simp at hu, by simp [NdOk]⟩
structure Rc where
 s : Gs
 d : Int
 t : Nat
 x : Nat
 b : Nat
 pv : Value
 w0 : World
 K : Nat
 Ce : Nat
 m : Nat
 C : Nat
 a15 : Value
 a16 : Value
def TA (c : Rc) (u : Nat → Value) : Act := { tmps := #[.pointer (some ⟨c.s.G, 0, none⟩), .int .i64 c.d, undef, undef, .slice none 0 0, u 5, .int .i64 ((c.t : Int) + 1), .slice (some ⟨c.b, 0, none⟩) 0 0, .pointer (some ⟨c.s.G, 0, none⟩), .pointer (some ⟨c.s.G, 0, none⟩), .pointer (some ⟨c.s.G, 0, none⟩), .pointer (some ⟨c.s.R, 0, none⟩), .int .i64 c.x, .int .i64 ((c.t : Int) + 1), .bool true, c.a15, c.a16, u 17, u 18, u 19, u 20, u 21, u 22, u 23, u 24, u 25, u 26, u 27, u 28, u 29, u 30, u 31, u 32, u 33, u 34, u 35, u 36, u 37, u 38, u 39, u 40, u 41, u 42, u 43, u 44, undef, undef, undef], defers := [] }
def upd (u : Nat → Value) (k : Nat) (v : Value) : Nat → Value := fun n => if n = k then v else u n
def HasS (K : Nat) (w : World) (x : Value) : Prop := ∃ g n c, x = .slice (some ⟨g, 0, none⟩) n c ∧ Has K w x
def Phi (c : Rc) : Nat → Value → World → Prop
 | 0, x, _ => x = c.pv
 | 1, x, w => ∃ b, x = .slice (some ⟨b, 0, none⟩) 2 2 ∧ w.heap[b]? = some (.cells #[.string ⟨#[98]⟩, .string ⟨#[95]⟩] 9 (0, 0))
 | 5, x, _ => x = .pointer (some ⟨c.s.R, 0, none⟩)
 | 6, x, _ => ∃ n : Nat, x = .int .i64 n ∧ n < 2
 | 7, x, w => ∃ b n, n < 2 ∧ x = .pointer (some ⟨b, n, none⟩) ∧ w.heap[b]? = some (.cells #[.string ⟨#[98]⟩, .string ⟨#[95]⟩] 9 (0, 0))
 | 8, x, _ => ∃ y : ByteArray, x = .string y ∧ y.size ≤ 1000
 | 9, x, w => ∃ b y, x = .slice (some ⟨b, 0, none⟩) 3 3 ∧ w.heap[b]? = some (.cells #[.string ⟨#[97]⟩, .string y, .string ⟨#[99, 32, 100]⟩] 9 (0, 0)) ∧ y.size ≤ 1000
 | 10, x, _ => x = .int .i64 ((c.t : Int) + 1)
 | 11, x, _ => x = .int .i64 c.t
 | 12, x, w => ∃ b y, x = .pointer (some ⟨b, c.t, none⟩) ∧ w.heap[b]? = some (.cells #[.string ⟨#[97]⟩, .string y, .string ⟨#[99, 32, 100]⟩] 9 (0, 0)) ∧ y.size ≤ 1000
 | 13, x, _ => ∃ y : ByteArray, x = .string y ∧ y.size ≤ 1000
 | 14, x, _ => ∃ y : ByteArray, x = .agg #[.int .i64 17, .int .i64 0, .int .i64 0, .string y, .int .i64 0] ∧ y.size ≤ 1000
 | 19, x, _ => x = .pointer (some ⟨c.s.R, 0, none⟩)
 | 20, x, _ => ∃ n : Nat, x = .int .i64 n
 | 21, x, _ => x = .int .i64 c.d
 | 22, x, _ => x = .int .i64 (c.d - 1)
 | 23, x, w => HasS c.K w x
 | 24, x, w => ∃ b v, x = .slice (some ⟨b, 0, none⟩) 1 1 ∧ w.heap[b]? = some (.cells #[v] 23 (0, 0)) ∧ HasS c.K w v
 | 25, x, w => HasS (c.K + 1) w x
 | 26, x, w => ∃ b v, x = .slice (some ⟨b, 0, none⟩) 1 1 ∧ w.heap[b]? = some (.cells #[v] 23 (0, 0)) ∧ HasS (c.K + 1) w v
 | 27, x, w => Parts c.w0 w x (c.m + 1) (c.m * (c.K + 1) + (c.K + 1))
 | 28, x, w => Parts c.w0 w x (c.m + 1) (c.m * (c.K + 1) + (c.K + 1))
 | _, x, _ => x = .pointer (some ⟨c.s.G, 0, none⟩)
theorem HasS.gk {K B : Nat} {w w' : World} {x : Value} (h : HasS K w x) (hg : Gk B w w') : HasS K w' x := by obtain ⟨g, n, c, e, h⟩ := h; exact ⟨g, n, c, e, h.gk hg⟩
theorem str_keep {B b : Nat} {w w' : World} {cs : Array Value} (hg : Gk B w w') (h : w.heap[b]? = some (.cells cs 9 (0, 0))) : w'.heap[b]? = some (.cells cs 9 (0, 0)) := (hg.block _ _ _ _ h (by unfold GenT; decide)).trans h
theorem row_keep {B b : Nat} {w w' : World} {cs : Array Value} (hg : Gk B w w') (h : w.heap[b]? = some (.cells cs 23 (0, 0))) : w'.heap[b]? = some (.cells cs 23 (0, 0)) := (hg.block _ _ _ _ h (by unfold GenT; decide)).trans h
theorem Phi.gk {c : Rc} {k B : Nat} {x : Value} {w w' : World} (hk : k < 29) (h : Phi c k x w) (hg : Gk B w w') : Phi c k x w' := by
 have h7 : k = 0 ∨ k = 1 ∨ k = 2 ∨ k = 3 ∨ k = 4 ∨ k = 5 ∨ k = 6 ∨ k = 7 ∨ k = 8 ∨ k = 9 ∨ k = 10 ∨ k = 11 ∨ k = 12 ∨ k = 13 ∨ k = 14 ∨ k = 15 ∨ k = 16 ∨ k = 17 ∨ k = 18 ∨ k = 19 ∨ k = 20 ∨ k = 21 ∨ k = 22 ∨ k = 23 ∨ k = 24 ∨ k = 25 ∨ k = 26 ∨ k = 27 ∨ k = 28 := by omega
 rcases h7 with rfl | rfl | rfl | rfl | rfl | rfl | rfl | rfl | rfl | rfl | rfl | rfl | rfl | rfl | rfl | rfl | rfl | rfl | rfl | rfl | rfl | rfl | rfl | rfl | rfl | rfl | rfl | rfl | rfl
 case _ => exact h
 ·obtain ⟨b, e, h⟩ := h; exact ⟨b, e, str_keep hg h⟩
 all_goals first
  | exact h
  | (obtain ⟨b, n, hn, e, h⟩ := h; exact ⟨b, n, hn, e, str_keep hg h⟩)
  | (obtain ⟨b, y, e, h, hy⟩ := h; exact ⟨b, y, e, str_keep hg h, hy⟩)
  | exact HasS.gk h hg
  | (obtain ⟨b, v, e, h, hv⟩ := h; exact ⟨b, v, e, row_keep hg h, hv.gk hg⟩)
  | exact Parts.gk h hg
def dstR (k : Nat) : Nat := if k = 28 then 5 else 17 + k
structure AtL (c : Rc) (l : Array Bool) (w : World) : Prop where
 f6 : l.getD 6 false = false → At c.s c.C c.w0 w
 f20 : l.getD 20 false = false → At c.s (c.C + 1) c.w0 w
 f23 : l.getD 23 false = false → At c.s (c.C + 1 + 1) c.w0 w
 fz : At c.s (c.C + 1 + 1 + c.Ce) c.w0 w
theorem getD_unset {l : Array Bool} {i k : Nat} (h : (l.setIfInBounds i true).getD k false = false) : l.getD k false = false := by
 cases hk : l.getD k false with
 | false => rfl
 | true => rw [getD_set_true hk] at h; cases h
theorem AtL.keep {c : Rc} {l : Array Bool} {w w' : World} (h : AtL c l w) (i : Nat) (hb : Below w.heap.size w w') : AtL c (l.setIfInBounds i true) w' :=
 ⟨fun k => (h.f6 (getD_unset k)).next hb, fun k => (h.f20 (getD_unset k)).next hb, fun k => (h.f23 (getD_unset k)).next hb, h.fz.next hb⟩
structure RI (c : Rc) (l : Array Bool) (a : Act) (w : World) : Prop where
 ex : ∃ u, a = TA c u ∧ (l.getD 28 false = false → u 5 = c.pv) ∧ ∀ k, k < 29 → l.getD k false = true → (l.getD 27 false = false ∨ 27 ≤ k) → Phi c k (u (dstR k)) w
 at_ : AtL c l w
 all : l.getD 27 false = true → ∀ k, k < 27 → l.getD k false = true
 pv : l.getD 27 false = false → Parts c.w0 w c.pv c.m (c.m * (c.K + 1))
 old : c.w0.heap.size ≤ w.heap.size
theorem unl {l : Array Bool} {i : Nat} (h : l.getD i true = false) : l.getD i false = false := by
 cases hk : l[i]? with
 | none => simp [hk] at h
 | some v => simp [hk] at h ⊢; exact h
theorem lst {l : Array Bool} {i : Nat} (h : i < l.size) : (l.setIfInBounds i true).getD i false = true := by simp [h]
theorem dstR_ne {i k : Nat} (hi : i < 29) (hk : k < 29) (h : k ≠ i) : dstR k ≠ dstR i := by
 unfold dstR
 split <;> split <;> omega
theorem RI.put {c : Rc} {l : Array Bool} {u : Nat → Value} {w w' : World} {i : Nat} {a' : Act} (v : Value) (hi : i < 29) (h27 : i ≠ 27) (hs : i < l.size)
  (h5 : l.getD 28 false = false → u 5 = c.pv) (hphi : ∀ k, k < 29 → l.getD k false = true → (l.getD 27 false = false ∨ 27 ≤ k) → Phi c k (u (dstR k)) w)
  (hall : l.getD 27 false = true → ∀ k, k < 27 → l.getD k false = true) (hpv : l.getD 27 false = false → Parts c.w0 w c.pv c.m (c.m * (c.K + 1))) (hold : c.w0.heap.size ≤ w.heap.size)
  (ha : a' = TA c (upd u (dstR i) v)) (hg : Gk c.s.R w w') (hat : AtL c (l.setIfInBounds i true) w') (hnew : Phi c i v w') : RI c (l.setIfInBounds i true) a' w' := by
 have e27 : (l.setIfInBounds i true).getD 27 false = l.getD 27 false := getD_set_ne false h27
 refine ⟨⟨upd u (dstR i) v, ha, fun h => ?_, fun k hk hl hc => ?_⟩, hat, fun h k hk => ?_, fun h => (hpv (by rw [← e27]; exact h)).gk hg, Nat.le_trans hold hg.size⟩
 ·have hi28 : i ≠ 28 := fun e => by subst e; rw [lst hs] at h; cases h
  have : upd u (dstR i) v 5 = u 5 := by unfold upd dstR; rw [if_neg hi28, if_neg (by omega)]
  rw [this]
  exact h5 (getD_unset h)
 ·by_cases hki : k = i
  ·subst hki
   have : upd u (dstR k) v (dstR k) = v := by simp [upd]
   rw [this]
   exact hnew
  ·have : upd u (dstR i) v (dstR k) = u (dstR k) := by unfold upd; rw [if_neg (dstR_ne hi hk hki)]
   rw [this]
   rw [getD_set_ne false (Ne.symm hki)] at hl
   rw [e27] at hc
   exact (hphi k hk hl hc).gk hk hg
 ·rw [e27] at h
  exact getD_set_true (hall h k hk)
theorem wpOp_via {P : Program} {ops : Array Oper} {Q : Exit → Act → World → Prop} {i : Nat} {I : Act → World → Prop} {a : Act} {w : World} (h : ∀ K : Act → World → Prop, (∀ a' w', I a' w' → K a' w') → wpOp P ops Q i K a w) : wpOp P ops Q i I a w := h _ fun _ _ h => h
theorem wpOp_enter {P : Program} {ops : Array Oper} {Q : Exit → Act → World → Prop} {i : Nat} {K : Act → World → Prop} {a : Act} {w : World} {o : Oper} (ho : ops[i]? = some o) (hg : o.guard = none) {f : FuncId} {vals : Array Value}
  (hx : (execOp a.eval o).run P w = .ok (.enter f vals) w) {Q' : Ending → World → Prop} (hc : Calls P f vals w Q') (h : ∀ e w', Q' e w' → ∃ v, e = .returned v ∧ K (a.put o.dst v) w') : wpOp P ops Q i K a w := by
 unfold wpOp
 rw [ho]
 have hw : Region.wanted o (yielded ops a.tmps) = true := by simp [Region.wanted, hg]
 simp only [hw, if_true]
 refine .inl ?_
 unfold Oper.wp
 rw [hx, Oper.upon_enter]
 refine hc.mono fun e w' hq => ?_
 obtain ⟨v, rfl, hk⟩ := h e w' hq
 exact hk
theorem wpOp_append {P : Program} {ops : Array Oper} {Q : Exit → Act → World → Prop} {j : Nat} {K : Act → World → Prop} {a : Act} {w : World} {o : Oper} (ho : ops[j]? = some o) (hg : o.guard = none) (s x : Operand) (t : TypeId)
  (hop : o.op = Op.call { callee := Callee.builtin Builtin.append, args := #[s, x], argTypes := #[t, t] })
  (base : Nat) (e : TypeId) (i : TypeInfo) (z : Value) (bytes : Nat) (ht : P.underlying t = some (.slice e)) (hi : P.info? e = some i) (hz : i.zero = some z)
  (hsize : i.size = 1) (hby : i.bytes = bytes) (hzs : z.cells.size = 1)
  (v : Value) (n : Nat) (xs : List Value) (hs : a.eval s = v) (hown : w.ownsRow base e 1 v n xs)
  (ad : Addr) (y : Value) (hx : a.eval x = .slice (some ad) 1 1) (hnews : w.cell? ad = some y) (h1 : y.oneCell' = true)
  (h63 : n + 1 ≤ maxLen) (hbytes : (n + 1) * bytes ≤ 140737488355328) (hbase : base ≤ w.heap.size)
  (h : ∀ v' w', w'.ownsRow base e 1 v' (n + 1) (xs ++ [y]) → w.grownBy w' v.ownBlock → K (a.put o.dst v') w') : wpOp P ops Q j K a w := by
 unfold wpOp
 rw [ho]
 have hw : Region.wanted o (yielded ops a.tmps) = true := by simp [Region.wanted, hg]
 simp only [hw, if_true]
 refine .inl ?_
 obtain ⟨v', w', hr, h2, h3, _, _⟩ := run_append_own_at (P := P) w base t o.type e i z 1 bytes ht hi hz hsize hby hzs (by decide) v n xs hown ad 1 1 [y] rfl (fun q u hq => by
  match q, hq with
  | 0, hq => cases hq; simpa [Addr.add] using hnews) (fun u hu => by simp at hu; subst hu; exact h1) h63 hbytes hbase
 unfold Oper.wp
 simp [execOp, hop, resolve, invoke, builtin, hs, hx, hr, Result.andThen]
 exact h v' w' h2 h3
theorem wpOp_run {P : Program} {ops : Array Oper} {Q : Exit → Act → World → Prop} {i : Nat} {K : Act → World → Prop} {a : Act} {w : World} {o : Oper} (ho : ops[i]? = some o) (hg : o.guard = none) (h : Oper.wp P o a w K Q) : wpOp P ops Q i K a w := by
 unfold wpOp
 rw [ho]
 have hw : Region.wanted o (yielded ops a.tmps) = true := by simp [Region.wanted, hg]
 simp only [hw, if_true]
 exact .inl h
theorem Parts.any {w W : World} {v : Value} {n N : Nat} (h : Parts w W v n N) : ∃ ad c, v = .slice ad n c := by
 obtain ⟨xs, ls, h1, h2, _⟩ := h
 exact own_sl h2
theorem overQ_at {s : Gs} {C n N c : Nat} {ad : Option Addr} {w w' : World} (h : At s C w w') (x : Nd) (hp : Parts w w' (.slice ad n c) n N) (hn : n ≤ 1000) (hx : x.text.size ≤ 1000) (hK : N ≤ 100000) :
  Calls Tryz.prog 57 #[.agg #[.int .i64 x.kind, .int .i64 x.op, .int .i64 x.n, .string x.text, .int .i64 x.kids], .slice ad n c] w' (NdEnd s (N + 1) C w w') := by
 obtain ⟨xs, ls, h1, h2, h3, h4, h5⟩ := hp
 have hparts : PartsIn w' ad xs ls := by
  refine ⟨h3, ?_, h4⟩
  rcases h2.2 with ⟨_, h0⟩ | ⟨g', cap, cur, e, _, b3, _, _, _, b4⟩
  ·exact .inl (List.eq_nil_of_length_eq_zero (by omega))
  ·cases e
   refine .inr ⟨g', rfl, cur, b3, fun j u hu => ?_⟩
   rw [Nat.mul_one] at b4
   rw [← b4] at hu
   have hj := (List.getElem?_eq_some_iff.1 hu).1
   rw [List.length_take] at hj
   rw [List.getElem?_take_of_lt (by omega)] at hu
   simpa using hu
 refine (l2Over_any x ad n c xs ls w' h1 (by omega) hparts (by have := h5.1; omega)).mono ?_
 rintro e w2 ⟨v, rfl, h6, h7⟩
 exact ⟨v, _, rfl, h6, h5.over hx, h.next h7, h.gk_next h7⟩
theorem repl_getD (n k : Nat) : (Array.replicate n false).getD k false = false := by
 by_cases h : k < n <;> simp [h]
theorem lt_of_check {ops : Array Oper} (h : ((List.range ops.size).all fun i => match ops[i]? with | some o => o.after.all fun e => decide (e.on < i) | none => true) = true) : ∀ (i : Nat) o, ops[i]? = some o → ∀ e ∈ o.after, e.on < i := by
 intro i o ho e he
 have hi := (Array.getElem?_eq_some_iff.1 ho).1
 rw [List.all_eq_true] at h
 have := h i (List.mem_range.2 hi)
 rw [ho] at this
 simp only [Array.all_eq_true_iff_forall_mem] at this
 exact of_decide_eq_true (this e he)
set_option maxHeartbeats 16000000 in
theorem record_root {d : Int} {K Ce : Nat} (he : EOk (d - 1) K Ce) (hK0 : K ≤ 10000) (hd : 1 ≤ d) (hd2 : d ≤ 10) (s : Gs) (w : World) (h : GenAt s.R s.G s.R w s.ns s.fs s.c s.sz s.p) (hr : Room (3 * Ce + 50) s) :
  Calls Tryz.prog 114 #[.pointer (some ⟨s.G, 0, none⟩), .int .i64 d] w (NdEnd s (3 * K + 8) (3 * Ce + 20) w w) := by
 obtain ⟨R, G, ns, fs, c0, sz0, p0⟩ := s
 simp only at h ⊢
 have HE := hid he
 have HR := hid hr
 obtain ⟨i0, hi0, hz0, hz1, hz2⟩ := info_parts info_ns
 have HHI := hid (And.intro hi0 (And.intro hz0 (And.intro hz1 hz2)))
 have HV1 := hid ((Below.refl w.heap.size w).alloc (Nat.le_refl _) (.cells #[] 23))
 have HA1 := hid ((At.refl (s := ⟨R, G, ns, fs, c0, sz0, p0⟩) h).next HV1.out)
 have HP1 := hid (Parts.none (w := w) (W := w) (Nat.le_refl _))
 have hg1 := HA1.out.g0
 clear he hr h hi0 hz0 hz1 hz2
 go_enter Tryz.func114, Tryz.ntmps114
 go_wp2_with fail
 refine (pick_at HA1.out (HR.out.sub (by omega)) 4 (by omega)).mono ?_
 rintro e w1 ⟨x, rfl, hx, at1, gk1⟩
 have HA2 := hid at1
 have HP2 := hid (HP1.out.gk gk1)
 have hx3 : x ≤ 3 := by omega
 clear hx at1 gk1 hg1
 go_wp2
 go_loopw [5, 6] (fun pv c wr => ∃ t m : Nat, t + m ≤ 3 ∧ c = .int .i64 t ∧ Parts w wr pv m (m * (K + 1)) ∧ At ⟨R, G, ns, fs, c0, sz0, p0⟩ (0 + 1 + m * (Ce + 2)) w wr ∧ (m = 0 ∨ 0 < m)) (fun _ c _ => (intOf c).toNat)
 case atStart => exact ⟨x, 0, by omega, rfl, by simpa using HP2.out, by simpa using HA2.out, by omega⟩
 case round =>
  obtain ⟨t, m, htm, rfl, hp, ha, _⟩ := hrel
  have HP := hid hp
  have HA := hid ha
  have hmc : m * (Ce + 2) ≤ 3 * (Ce + 2) := Nat.mul_le_mul_right _ (by omega)
  have hmk : m * (K + 1) ≤ 3 * (K + 1) := Nat.mul_le_mul_right _ (by omega)
  clear hp ha
  by_cases ht : 0 < t
  ·obtain ⟨tn, rfl⟩ : ∃ tn, t = tn + 1 := ⟨t - 1, by omega⟩
   have hmc2 : m * (Ce + 2) ≤ 2 * (Ce + 2) := Nat.mul_le_mul_right _ (by omega)
   have htn : tn ≤ 2 := by omega
   have htz : (tn : Int) < 3 := by omega
   have hti : (0 : Int) < (tn : Int) + 1 := by omega
   have ecast : ((tn + 1 : Nat) : Int) = (tn : Int) + 1 := by omega
   have hwd : IntKind.i64.wrap (d - 1) = d - 1 := by rw [IntKind.wrap_i64]; omega
   have hwt : IntKind.i64.wrap ((tn : Int) + 1 - 1) = tn := by rw [IntKind.wrap_i64]; omega
   have hwt2 : IntKind.i64.wrap (tn : Int) = tn := by rw [IntKind.wrap_i64]; omega
   rw [ecast]
   go_wp2_with fail
   obtain ⟨c, hc⟩ : ∃ c : Rc, c = ⟨⟨R, G, ns, fs, c0, sz0, p0⟩, d, tn, x, w.heap.size, u5, w, K, Ce, m, 0 + 1 + m * (Ce + 2), u15, u16⟩ := ⟨_, rfl⟩
   have HDR := hid ((Below.refl wr.heap.size wr).drew)
   subst hc
   refine wp_region_inv (by kernel_rfl) (RI ⟨⟨R, G, ns, fs, c0, sz0, p0⟩, d, tn, x, w.heap.size, u5, w, K, Ce, m, 0 + 1 + m * (Ce + 2), u15, u16⟩) ?_ ?_ (lt_of_check (by kernel_rfl)) ?_
   ·refine ⟨⟨fun n => if n = 5 then u5 else (#[u17, u18, u19, u20, u21, u22, u23, u24, u25, u26, u27, u28, u29, u30, u31, u32, u33, u34, u35, u36, u37, u38, u39, u40, u41, u42, u43, u44] : Array Value).getD (n - 17) undef, rfl, fun _ => rfl, fun k _ hk _ => ?_⟩, ⟨fun _ => HA.out.next HDR.out, fun _ => (HA.out.next HDR.out).mono (by simp only; omega), fun _ => (HA.out.next HDR.out).mono (by simp only; omega), (HA.out.next HDR.out).mono (by simp only; omega)⟩, fun hk => ?_, fun _ => HP.out.gk (HA.out.gk_next HDR.out), HA.out.gk.size⟩
    ·rw [repl_getD] at hk; cases hk
    ·rw [repl_getD] at hk; cases hk
   ·intro l a wv i o hl hcl hI ho h0 hall
    obtain ⟨⟨u, rfl, h5, hphi⟩, hat, hall27, hpv, hold⟩ := hI
    have hs29 : l.size = 29 := hl
    have hi : i < 29 := (Array.getElem?_eq_some_iff.1 ho).1
    simp only at h5 hpv hold
    refine wpOp_via fun K' hK => ?_
    have h7 : i = 0 ∨ i = 1 ∨ i = 2 ∨ i = 3 ∨ i = 4 ∨ i = 5 ∨ i = 6 ∨ i = 7 ∨ i = 8 ∨ i = 9 ∨ i = 10 ∨ i = 11 ∨ i = 12 ∨ i = 13 ∨ i = 14 ∨ i = 15 ∨ i = 16 ∨ i = 17 ∨ i = 18 ∨ i = 19 ∨ i = 20 ∨ i = 21 ∨ i = 22 ∨ i = 23 ∨ i = 24 ∨ i = 25 ∨ i = 26 ∨ i = 27 ∨ i = 28 := by omega
    rcases h7 with rfl | rfl | rfl | rfl | rfl | rfl | rfl | rfl | rfl | rfl | rfl | rfl | rfl | rfl | rfl | rfl | rfl | rfl | rfl | rfl | rfl | rfl | rfl | rfl | rfl | rfl | rfl | rfl | rfl
    ·have ee : some _ = some o := ho
     injection ee with ee
     subst ee
     have h27 : l.getD 27 false = false := by
      cases hx : l.getD 27 false with
      | false => rfl
      | true => have h := hall27 hx 0 (by omega); rw [unl h0] at h; cases h
     have h28 : l.getD 28 false = false := by
      cases hx : l.getD 28 false with
      | false => rfl
      | true => have h := hcl 28 _ rfl hx { on := 27, ground := .data } (by simp) rfl; rw [h27] at h; cases h
     have e5 : u 5 = u5 := h5 h28
     simp only [TA, e5]
     refine wpOp_run rfl rfl ?_
     go_simp
     refine hK _ _ ?_
     exact RI.put (u5) (by omega) (by omega) (by omega) h5 hphi hall27 hpv hold (by simp [TA, upd, dstR, e5]) (Gk.refl _ _) (hat.keep 0 (Below.refl _ _)) rfl
    ·have ee : some _ = some o := ho
     injection ee with ee
     subst ee
     have h27 : l.getD 27 false = false := by
      cases hx : l.getD 27 false with
      | false => rfl
      | true => have h := hall27 hx 1 (by omega); rw [unl h0] at h; cases h
     simp only [TA]
     refine wpOp_run rfl rfl ?_
     go_simp
     refine hK _ _ ?_
     exact RI.put (.slice (some ⟨wv.heap.size, 0, none⟩) 2 2) (by omega) (by omega) (by omega) h5 hphi hall27 hpv hold (by simp [TA, upd, dstR]) (hat.fz.gk_next ((Below.refl wv.heap.size wv).alloc (Nat.le_refl _) _)) (hat.keep 1 ((Below.refl wv.heap.size wv).alloc (Nat.le_refl _) _)) ⟨_, rfl, heap_alloc_new wv _⟩
    ·have ee : some _ = some o := ho
     injection ee with ee
     subst ee
     have h27 : l.getD 27 false = false := by
      cases hx : l.getD 27 false with
      | false => rfl
      | true => have h := hall27 hx 2 (by omega); rw [unl h0] at h; cases h
     simp only [TA]
     refine wpOp_run rfl rfl ?_
     go_simp
     refine hK _ _ ?_
     exact RI.put (.pointer (some ⟨G, 0, none⟩)) (by omega) (by omega) (by omega) h5 hphi hall27 hpv hold (by simp [TA, upd, dstR]) (Gk.refl _ _) (hat.keep 2 (Below.refl _ _)) rfl
    ·have ee : some _ = some o := ho
     injection ee with ee
     subst ee
     have h27 : l.getD 27 false = false := by
      cases hx : l.getD 27 false with
      | false => rfl
      | true => have h := hall27 hx 3 (by omega); rw [unl h0] at h; cases h
     have p2 : l.getD 2 false = true := hall { on := 2, ground := .data } (by simp) rfl
     have e19 : u 19 = .pointer (some ⟨G, 0, none⟩) := hphi 2 (by omega) p2 (.inl h27)
     simp only [TA, e19]
     refine wpOp_run rfl rfl ?_
     go_simp
     refine hK _ _ ?_
     exact RI.put (.pointer (some ⟨G, 0, none⟩)) (by omega) (by omega) (by omega) h5 hphi hall27 hpv hold (by simp [TA, upd, dstR, e19]) (Gk.refl _ _) (hat.keep 3 (Below.refl _ _)) rfl
    ·have ee : some _ = some o := ho
     injection ee with ee
     subst ee
     have h27 : l.getD 27 false = false := by
      cases hx : l.getD 27 false with
      | false => rfl
      | true => have h := hall27 hx 4 (by omega); rw [unl h0] at h; cases h
     have p3 : l.getD 3 false = true := hall { on := 3, ground := .data } (by simp) rfl
     have e20 : u 20 = .pointer (some ⟨G, 0, none⟩) := hphi 3 (by omega) p3 (.inl h27)
     simp only [TA, e20]
     refine wpOp_run rfl rfl ?_
     go_simp
     refine hK _ _ ?_
     exact RI.put (.pointer (some ⟨G, 0, none⟩)) (by omega) (by omega) (by omega) h5 hphi hall27 hpv hold (by simp [TA, upd, dstR, e20]) (Gk.refl _ _) (hat.keep 4 (Below.refl _ _)) rfl
    ·have ee : some _ = some o := ho
     injection ee with ee
     subst ee
     have h27 : l.getD 27 false = false := by
      cases hx : l.getD 27 false with
      | false => rfl
      | true => have h := hall27 hx 5 (by omega); rw [unl h0] at h; cases h
     have p4 : l.getD 4 false = true := hall { on := 4, ground := .data } (by simp) rfl
     have e21 : u 21 = .pointer (some ⟨G, 0, none⟩) := hphi 4 (by omega) p4 (.inl h27)
     have cg := hat.fz.g0
     simp only at cg
     simp only [TA, e21]
     refine wpOp_run rfl rfl ?_
     go_simp
     refine hK _ _ ?_
     exact RI.put (.pointer (some ⟨R, 0, none⟩)) (by omega) (by omega) (by omega) h5 hphi hall27 hpv hold (by simp [TA, upd, dstR, e21]) (Gk.refl _ _) (hat.keep 5 (Below.refl _ _)) rfl
    ·have ee : some _ = some o := ho
     injection ee with ee
     subst ee
     have h27 : l.getD 27 false = false := by
      cases hx : l.getD 27 false with
      | false => rfl
      | true => have h := hall27 hx 6 (by omega); rw [unl h0] at h; cases h
     have p5 : l.getD 5 false = true := hall { on := 5, ground := .data } (by simp) rfl
     have e22 : u 22 = .pointer (some ⟨R, 0, none⟩) := hphi 5 (by omega) p5 (.inl h27)
     simp only [TA, e22]
     refine wpOp_enter rfl rfl (f := 17) (vals := #[.pointer (some ⟨R, 0, none⟩), .int .i64 2]) (by kernel_rfl) (pick_at (hat.f6 (unl h0)) (HR.out.sub (by simp only; omega)) 2 (by omega)) ?_
     rintro e w1 ⟨n1, rfl, hn1, at1, gk1⟩
     refine ⟨_, rfl, hK _ _ ?_⟩
     exact RI.put (.int .i64 n1) (by omega) (by omega) (by omega) h5 hphi hall27 hpv hold (by simp [TA, upd, dstR, Act.put, e22]) gk1 ⟨fun h => (by rw [lst (by omega)] at h; cases h), fun _ => at1, fun _ => at1.mono (by simp only; omega), at1.mono (by simp only; omega)⟩ ⟨n1, rfl, by omega⟩
    ·have ee : some _ = some o := ho
     injection ee with ee
     subst ee
     have h27 : l.getD 27 false = false := by
      cases hx : l.getD 27 false with
      | false => rfl
      | true => have h := hall27 hx 7 (by omega); rw [unl h0] at h; cases h
     have p1 : l.getD 1 false = true := hall { on := 1, ground := .data } (by simp) rfl
     obtain ⟨b1, e18, hb1⟩ : ∃ b, u 18 = .slice (some ⟨b, 0, none⟩) 2 2 ∧ wv.heap[b]? = some (.cells #[.string ⟨#[98]⟩, .string ⟨#[95]⟩] 9 (0, 0)) := hphi 1 (by omega) p1 (.inl h27)
     have p6 : l.getD 6 false = true := hall { on := 6, ground := .data } (by simp) rfl
     obtain ⟨n6, e23, hn6⟩ : ∃ n : Nat, u 23 = .int .i64 n ∧ n < 2 := hphi 6 (by omega) p6 (.inl h27)
     have hz6 : (n6 : Int) < 2 := by omega
     simp only [TA, e18, e23]
     refine wpOp_run rfl rfl ?_
     go_simp
     refine hK _ _ ?_
     exact RI.put (.pointer (some ⟨b1, n6, none⟩)) (by omega) (by omega) (by omega) h5 hphi hall27 hpv hold (by simp [TA, upd, dstR, e18, e23]) (Gk.refl _ _) (hat.keep 7 (Below.refl _ _)) ⟨b1, n6, hn6, rfl, hb1⟩
    ·have ee : some _ = some o := ho
     injection ee with ee
     subst ee
     have h27 : l.getD 27 false = false := by
      cases hx : l.getD 27 false with
      | false => rfl
      | true => have h := hall27 hx 8 (by omega); rw [unl h0] at h; cases h
     have p7 : l.getD 7 false = true := hall { on := 7, ground := .data } (by simp) rfl
     obtain ⟨b7, n7, hn7, e24, hb7⟩ : ∃ b n, n < 2 ∧ u 24 = .pointer (some ⟨b, n, none⟩) ∧ wv.heap[b]? = some (.cells #[.string ⟨#[98]⟩, .string ⟨#[95]⟩] 9 (0, 0)) := hphi 7 (by omega) p7 (.inl h27)
     obtain ⟨y, cy, hy⟩ : ∃ y : ByteArray, wv.cell? ⟨b7, n7, none⟩ = some (.string y) ∧ y.size ≤ 1000 := by
      rw [cell_hp hb7]
      have h7 : n7 = 0 ∨ n7 = 1 := by omega
      rcases h7 with rfl | rfl <;> exact ⟨_, rfl, by decide⟩
     simp only [TA, e24]
     refine wpOp_run rfl rfl ?_
     go_simp
     refine hK _ _ ?_
     exact RI.put (.string y) (by omega) (by omega) (by omega) h5 hphi hall27 hpv hold (by simp [TA, upd, dstR, e24]) (Gk.refl _ _) (hat.keep 8 (Below.refl _ _)) ⟨y, rfl, hy⟩
    ·have ee : some _ = some o := ho
     injection ee with ee
     subst ee
     have h27 : l.getD 27 false = false := by
      cases hx : l.getD 27 false with
      | false => rfl
      | true => have h := hall27 hx 9 (by omega); rw [unl h0] at h; cases h
     have p8 : l.getD 8 false = true := hall { on := 8, ground := .data } (by simp) rfl
     obtain ⟨y8, e25, hy8⟩ : ∃ y : ByteArray, u 25 = .string y ∧ y.size ≤ 1000 := hphi 8 (by omega) p8 (.inl h27)
     simp only [TA, e25]
     refine wpOp_run rfl rfl ?_
     go_simp
     refine hK _ _ ?_
     exact RI.put (.slice (some ⟨wv.heap.size, 0, none⟩) 3 3) (by omega) (by omega) (by omega) h5 hphi hall27 hpv hold (by simp [TA, upd, dstR, e25]) (hat.fz.gk_next ((Below.refl wv.heap.size wv).alloc (Nat.le_refl _) _)) (hat.keep 9 ((Below.refl wv.heap.size wv).alloc (Nat.le_refl _) _)) ⟨_, y8, rfl, heap_alloc_new wv _, hy8⟩
    ·have ee : some _ = some o := ho
     injection ee with ee
     subst ee
     have h27 : l.getD 27 false = false := by
      cases hx : l.getD 27 false with
      | false => rfl
      | true => have h := hall27 hx 10 (by omega); rw [unl h0] at h; cases h
     simp only [TA]
     refine wpOp_run rfl rfl ?_
     go_simp
     refine hK _ _ ?_
     exact RI.put (.int .i64 ((tn : Int) + 1)) (by omega) (by omega) (by omega) h5 hphi hall27 hpv hold (by simp [TA, upd, dstR]) (Gk.refl _ _) (hat.keep 10 (Below.refl _ _)) rfl
    ·have ee : some _ = some o := ho
     injection ee with ee
     subst ee
     have h27 : l.getD 27 false = false := by
      cases hx : l.getD 27 false with
      | false => rfl
      | true => have h := hall27 hx 11 (by omega); rw [unl h0] at h; cases h
     have p10 : l.getD 10 false = true := hall { on := 10, ground := .data } (by simp) rfl
     have e27 : u 27 = .int .i64 ((tn : Int) + 1) := hphi 10 (by omega) p10 (.inl h27)
     simp only [TA, e27]
     refine wpOp_run rfl rfl ?_
     go_simp
     refine hK _ _ ?_
     exact RI.put (.int .i64 tn) (by omega) (by omega) (by omega) h5 hphi hall27 hpv hold (by simp [TA, upd, dstR, e27]) (Gk.refl _ _) (hat.keep 11 (Below.refl _ _)) rfl
    ·have ee : some _ = some o := ho
     injection ee with ee
     subst ee
     have h27 : l.getD 27 false = false := by
      cases hx : l.getD 27 false with
      | false => rfl
      | true => have h := hall27 hx 12 (by omega); rw [unl h0] at h; cases h
     have p9 : l.getD 9 false = true := hall { on := 9, ground := .data } (by simp) rfl
     obtain ⟨b9, y9, e26, hb9, hy9⟩ : ∃ b y, u 26 = .slice (some ⟨b, 0, none⟩) 3 3 ∧ wv.heap[b]? = some (.cells #[.string ⟨#[97]⟩, .string y, .string ⟨#[99, 32, 100]⟩] 9 (0, 0)) ∧ y.size ≤ 1000 := hphi 9 (by omega) p9 (.inl h27)
     have p11 : l.getD 11 false = true := hall { on := 11, ground := .data } (by simp) rfl
     have e28 : u 28 = .int .i64 tn := hphi 11 (by omega) p11 (.inl h27)
     simp only [TA, e26, e28]
     refine wpOp_run rfl rfl ?_
     go_simp
     refine hK _ _ ?_
     exact RI.put (.pointer (some ⟨b9, tn, none⟩)) (by omega) (by omega) (by omega) h5 hphi hall27 hpv hold (by simp [TA, upd, dstR, e26, e28]) (Gk.refl _ _) (hat.keep 12 (Below.refl _ _)) ⟨b9, y9, rfl, hb9, hy9⟩
    ·have ee : some _ = some o := ho
     injection ee with ee
     subst ee
     have h27 : l.getD 27 false = false := by
      cases hx : l.getD 27 false with
      | false => rfl
      | true => have h := hall27 hx 13 (by omega); rw [unl h0] at h; cases h
     have p12 : l.getD 12 false = true := hall { on := 12, ground := .data } (by simp) rfl
     obtain ⟨b12, y12, e29, hb12, hy12⟩ : ∃ b y, u 29 = .pointer (some ⟨b, tn, none⟩) ∧ wv.heap[b]? = some (.cells #[.string ⟨#[97]⟩, .string y, .string ⟨#[99, 32, 100]⟩] 9 (0, 0)) ∧ y.size ≤ 1000 := hphi 12 (by omega) p12 (.inl h27)
     obtain ⟨y, cy, hy⟩ : ∃ y : ByteArray, wv.cell? ⟨b12, tn, none⟩ = some (.string y) ∧ y.size ≤ 1000 := by
      rw [cell_hp hb12]
      have h7 : tn = 0 ∨ tn = 1 ∨ tn = 2 := by omega
      rcases h7 with rfl | rfl | rfl
      ·exact ⟨_, rfl, by decide⟩
      ·exact ⟨_, rfl, hy12⟩
      ·exact ⟨_, rfl, by decide⟩
     simp only [TA, e29]
     refine wpOp_run rfl rfl ?_
     go_simp
     refine hK _ _ ?_
     exact RI.put (.string y) (by omega) (by omega) (by omega) h5 hphi hall27 hpv hold (by simp [TA, upd, dstR, e29]) (Gk.refl _ _) (hat.keep 13 (Below.refl _ _)) ⟨y, rfl, hy⟩
    ·have ee : some _ = some o := ho
     injection ee with ee
     subst ee
     have h27 : l.getD 27 false = false := by
      cases hx : l.getD 27 false with
      | false => rfl
      | true => have h := hall27 hx 14 (by omega); rw [unl h0] at h; cases h
     have p13 : l.getD 13 false = true := hall { on := 13, ground := .data } (by simp) rfl
     obtain ⟨y13, e30, hy13⟩ : ∃ y : ByteArray, u 30 = .string y ∧ y.size ≤ 1000 := hphi 13 (by omega) p13 (.inl h27)
     simp only [TA, e30]
     refine wpOp_run rfl rfl ?_
     go_simp
     refine hK _ _ ?_
     exact RI.put (.agg #[.int .i64 17, .int .i64 0, .int .i64 0, .string y13, .int .i64 0]) (by omega) (by omega) (by omega) h5 hphi hall27 hpv hold (by simp [TA, upd, dstR, e30]) (Gk.refl _ _) (hat.keep 14 (Below.refl _ _)) ⟨y13, rfl, hy13⟩
    ·have ee : some _ = some o := ho
     injection ee with ee
     subst ee
     have h27 : l.getD 27 false = false := by
      cases hx : l.getD 27 false with
      | false => rfl
      | true => have h := hall27 hx 15 (by omega); rw [unl h0] at h; cases h
     simp only [TA]
     refine wpOp_run rfl rfl ?_
     go_simp
     refine hK _ _ ?_
     exact RI.put (.pointer (some ⟨G, 0, none⟩)) (by omega) (by omega) (by omega) h5 hphi hall27 hpv hold (by simp [TA, upd, dstR]) (Gk.refl _ _) (hat.keep 15 (Below.refl _ _)) rfl
    ·have ee : some _ = some o := ho
     injection ee with ee
     subst ee
     have h27 : l.getD 27 false = false := by
      cases hx : l.getD 27 false with
      | false => rfl
      | true => have h := hall27 hx 16 (by omega); rw [unl h0] at h; cases h
     simp only [TA]
     refine wpOp_run rfl rfl ?_
     go_simp
     refine hK _ _ ?_
     exact RI.put (.pointer (some ⟨G, 0, none⟩)) (by omega) (by omega) (by omega) h5 hphi hall27 hpv hold (by simp [TA, upd, dstR]) (Gk.refl _ _) (hat.keep 16 (Below.refl _ _)) rfl
    ·have ee : some _ = some o := ho
     injection ee with ee
     subst ee
     have h27 : l.getD 27 false = false := by
      cases hx : l.getD 27 false with
      | false => rfl
      | true => have h := hall27 hx 17 (by omega); rw [unl h0] at h; cases h
     have p16 : l.getD 16 false = true := hall { on := 16, ground := .data } (by simp) rfl
     have e33 : u 33 = .pointer (some ⟨G, 0, none⟩) := hphi 16 (by omega) p16 (.inl h27)
     simp only [TA, e33]
     refine wpOp_run rfl rfl ?_
     go_simp
     refine hK _ _ ?_
     exact RI.put (.pointer (some ⟨G, 0, none⟩)) (by omega) (by omega) (by omega) h5 hphi hall27 hpv hold (by simp [TA, upd, dstR, e33]) (Gk.refl _ _) (hat.keep 17 (Below.refl _ _)) rfl
    ·have ee : some _ = some o := ho
     injection ee with ee
     subst ee
     have h27 : l.getD 27 false = false := by
      cases hx : l.getD 27 false with
      | false => rfl
      | true => have h := hall27 hx 18 (by omega); rw [unl h0] at h; cases h
     have p17 : l.getD 17 false = true := hall { on := 17, ground := .data } (by simp) rfl
     have e34 : u 34 = .pointer (some ⟨G, 0, none⟩) := hphi 17 (by omega) p17 (.inl h27)
     simp only [TA, e34]
     refine wpOp_run rfl rfl ?_
     go_simp
     refine hK _ _ ?_
     exact RI.put (.pointer (some ⟨G, 0, none⟩)) (by omega) (by omega) (by omega) h5 hphi hall27 hpv hold (by simp [TA, upd, dstR, e34]) (Gk.refl _ _) (hat.keep 18 (Below.refl _ _)) rfl
    ·have ee : some _ = some o := ho
     injection ee with ee
     subst ee
     have h27 : l.getD 27 false = false := by
      cases hx : l.getD 27 false with
      | false => rfl
      | true => have h := hall27 hx 19 (by omega); rw [unl h0] at h; cases h
     have p18 : l.getD 18 false = true := hall { on := 18, ground := .data } (by simp) rfl
     have e35 : u 35 = .pointer (some ⟨G, 0, none⟩) := hphi 18 (by omega) p18 (.inl h27)
     have cg := hat.fz.g0
     simp only at cg
     simp only [TA, e35]
     refine wpOp_run rfl rfl ?_
     go_simp
     refine hK _ _ ?_
     exact RI.put (.pointer (some ⟨R, 0, none⟩)) (by omega) (by omega) (by omega) h5 hphi hall27 hpv hold (by simp [TA, upd, dstR, e35]) (Gk.refl _ _) (hat.keep 19 (Below.refl _ _)) rfl
    ·have ee : some _ = some o := ho
     injection ee with ee
     subst ee
     have h27 : l.getD 27 false = false := by
      cases hx : l.getD 27 false with
      | false => rfl
      | true => have h := hall27 hx 20 (by omega); rw [unl h0] at h; cases h
     have p19 : l.getD 19 false = true := hall { on := 19, ground := .data } (by simp) rfl
     have e36 : u 36 = .pointer (some ⟨R, 0, none⟩) := hphi 19 (by omega) p19 (.inl h27)
     have q6 : l.getD 6 false = true := hall { on := 6, ground := .chain } (by simp) rfl
     simp only [TA, e36]
     refine wpOp_enter rfl rfl (f := 17) (vals := #[.pointer (some ⟨R, 0, none⟩), .int .i64 5]) (by kernel_rfl) (pick_at (hat.f20 (unl h0)) (HR.out.sub (by simp only; omega)) 5 (by omega)) ?_
     rintro e w1 ⟨n1, rfl, hn1, at1, gk1⟩
     refine ⟨_, rfl, hK _ _ ?_⟩
     exact RI.put (.int .i64 n1) (by omega) (by omega) (by omega) h5 hphi hall27 hpv hold (by simp [TA, upd, dstR, Act.put, e36]) gk1 ⟨fun h => (by rw [getD_set_true q6] at h; cases h), fun h => (by rw [lst (by omega)] at h; cases h), fun _ => at1, at1.mono (by simp only; omega)⟩ ⟨n1, rfl⟩
    ·have ee : some _ = some o := ho
     injection ee with ee
     subst ee
     have h27 : l.getD 27 false = false := by
      cases hx : l.getD 27 false with
      | false => rfl
      | true => have h := hall27 hx 21 (by omega); rw [unl h0] at h; cases h
     simp only [TA]
     refine wpOp_run rfl rfl ?_
     go_simp
     refine hK _ _ ?_
     exact RI.put (.int .i64 d) (by omega) (by omega) (by omega) h5 hphi hall27 hpv hold (by simp [TA, upd, dstR]) (Gk.refl _ _) (hat.keep 21 (Below.refl _ _)) rfl
    ·have ee : some _ = some o := ho
     injection ee with ee
     subst ee
     have h27 : l.getD 27 false = false := by
      cases hx : l.getD 27 false with
      | false => rfl
      | true => have h := hall27 hx 22 (by omega); rw [unl h0] at h; cases h
     have p21 : l.getD 21 false = true := hall { on := 21, ground := .data } (by simp) rfl
     have e38 : u 38 = .int .i64 d := hphi 21 (by omega) p21 (.inl h27)
     simp only [TA, e38]
     refine wpOp_run rfl rfl ?_
     go_simp
     refine hK _ _ ?_
     exact RI.put (.int .i64 (d - 1)) (by omega) (by omega) (by omega) h5 hphi hall27 hpv hold (by simp [TA, upd, dstR, e38]) (Gk.refl _ _) (hat.keep 22 (Below.refl _ _)) rfl
    ·have ee : some _ = some o := ho
     injection ee with ee
     subst ee
     have h27 : l.getD 27 false = false := by
      cases hx : l.getD 27 false with
      | false => rfl
      | true => have h := hall27 hx 23 (by omega); rw [unl h0] at h; cases h
     have p15 : l.getD 15 false = true := hall { on := 15, ground := .data } (by simp) rfl
     have e32 : u 32 = .pointer (some ⟨G, 0, none⟩) := hphi 15 (by omega) p15 (.inl h27)
     have p20 : l.getD 20 false = true := hall { on := 20, ground := .data } (by simp) rfl
     obtain ⟨n20, e37⟩ : ∃ n : Nat, u 37 = .int .i64 n := hphi 20 (by omega) p20 (.inl h27)
     have p22 : l.getD 22 false = true := hall { on := 22, ground := .data } (by simp) rfl
     have e39 : u 39 = .int .i64 (d - 1) := hphi 22 (by omega) p22 (.inl h27)
     have q20 : l.getD 20 false = true := hall { on := 20, ground := .chain } (by simp) rfl
     have p6 := hcl 20 _ rfl p20 { on := 6, ground := .chain } (by simp) rfl
     simp only [TA, e32, e37, e39]
     refine wpOp_enter rfl rfl (f := 86) (vals := #[.pointer (some ⟨G, 0, none⟩), .int .i64 n20, .int .i64 (d - 1)]) (by kernel_rfl) (e_at HE.out (hat.f23 (unl h0)) (HR.out.sub (by simp only; omega)) n20) ?_
     intro e w1 hh
     obtain ⟨g1, m1, k1, rfl, l1, at1, gk1⟩ := hh.get
     refine ⟨_, rfl, hK _ _ ?_⟩
     exact RI.put (.slice (some ⟨g1, 0, none⟩) m1 k1) (by omega) (by omega) (by omega) h5 hphi hall27 hpv hold (by simp [TA, upd, dstR, Act.put, e32, e37, e39]) gk1 ⟨fun h => (by rw [getD_set_true p6] at h; cases h), fun h => (by rw [getD_set_true p20] at h; cases h), fun h => (by rw [lst (by omega)] at h; cases h), at1⟩ ⟨g1, m1, k1, rfl, l1⟩
    ·have ee : some _ = some o := ho
     injection ee with ee
     subst ee
     have h27 : l.getD 27 false = false := by
      cases hx : l.getD 27 false with
      | false => rfl
      | true => have h := hall27 hx 24 (by omega); rw [unl h0] at h; cases h
     have p23 : l.getD 23 false = true := hall { on := 23, ground := .data } (by simp) rfl
     obtain ⟨g23, n23, k23, e40, hl23⟩ : HasS K wv (u 40) := hphi 23 (by omega) p23 (.inl h27)
     simp only [TA, e40]
     refine wpOp_run rfl rfl ?_
     go_simp
     refine hK _ _ ?_
     exact RI.put (.slice (some ⟨wv.heap.size, 0, none⟩) 1 1) (by omega) (by omega) (by omega) h5 hphi hall27 hpv hold (by simp [TA, upd, dstR, e40]) (hat.fz.gk_next ((Below.refl wv.heap.size wv).alloc (Nat.le_refl _) _)) (hat.keep 24 ((Below.refl wv.heap.size wv).alloc (Nat.le_refl _) _)) ⟨_, _, rfl, heap_alloc_new wv _, ⟨g23, n23, k23, rfl, (e40 ▸ hl23 : Has K wv (.slice (some ⟨g23, 0, none⟩) n23 k23)).gk (hat.fz.gk_next ((Below.refl wv.heap.size wv).alloc (Nat.le_refl _) _))⟩⟩
    ·have ee : some _ = some o := ho
     injection ee with ee
     subst ee
     have h27 : l.getD 27 false = false := by
      cases hx : l.getD 27 false with
      | false => rfl
      | true => have h := hall27 hx 25 (by omega); rw [unl h0] at h; cases h
     have p14 : l.getD 14 false = true := hall { on := 14, ground := .data } (by simp) rfl
     obtain ⟨y14, e31, hy14⟩ : ∃ y : ByteArray, u 31 = .agg #[.int .i64 17, .int .i64 0, .int .i64 0, .string y, .int .i64 0] ∧ y.size ≤ 1000 := hphi 14 (by omega) p14 (.inl h27)
     have p24 : l.getD 24 false = true := hall { on := 24, ground := .data } (by simp) rfl
     obtain ⟨b24, v24, e41, hb24, hv24⟩ : ∃ b v, u 41 = .slice (some ⟨b, 0, none⟩) 1 1 ∧ wv.heap[b]? = some (.cells #[v] 23 (0, 0)) ∧ HasS K wv v := hphi 24 (by omega) p24 (.inl h27)
     have q23 : l.getD 23 false = true := hall { on := 23, ground := .chain } (by simp) rfl
     have p20 := hcl 23 _ rfl q23 { on := 20, ground := .data } (by simp) rfl
     have p6 := hcl 20 _ rfl p20 { on := 6, ground := .chain } (by simp) rfl
     obtain ⟨gx, nx, kx, ex, hlx⟩ := hv24
     simp only [TA, e31, e41]
     refine wpOp_enter rfl rfl (f := 57) (vals := #[.agg #[.int .i64 17, .int .i64 0, .int .i64 0, .string y14, .int .i64 0], .slice (some ⟨b24, 0, none⟩) 1 1]) (by kernel_rfl) (over1_in (g := b24) hat.fz ⟨17, 0, 0, y14, 0⟩ v24 hb24 hlx hy14 (by omega)) ?_
     intro e w1 hh
     obtain ⟨g1, m1, k1, rfl, l1, at1, gk1⟩ := hh.get
     refine ⟨_, rfl, hK _ _ ?_⟩
     exact RI.put (.slice (some ⟨g1, 0, none⟩) m1 k1) (by omega) (by omega) (by omega) h5 hphi hall27 hpv hold (by simp [TA, upd, dstR, Act.put, e31, e41]) gk1 ⟨fun h => (by rw [getD_set_true p6] at h; cases h), fun h => (by rw [getD_set_true p20] at h; cases h), fun h => (by rw [getD_set_true q23] at h; cases h), at1⟩ ⟨g1, m1, k1, rfl, l1⟩
    ·have ee : some _ = some o := ho
     injection ee with ee
     subst ee
     have h27 : l.getD 27 false = false := by
      cases hx : l.getD 27 false with
      | false => rfl
      | true => have h := hall27 hx 26 (by omega); rw [unl h0] at h; cases h
     have p25 : l.getD 25 false = true := hall { on := 25, ground := .data } (by simp) rfl
     obtain ⟨g25, n25, k25, e42, hl25⟩ : HasS (K + 1) wv (u 42) := hphi 25 (by omega) p25 (.inl h27)
     simp only [TA, e42]
     refine wpOp_run rfl rfl ?_
     go_simp
     refine hK _ _ ?_
     exact RI.put (.slice (some ⟨wv.heap.size, 0, none⟩) 1 1) (by omega) (by omega) (by omega) h5 hphi hall27 hpv hold (by simp [TA, upd, dstR, e42]) (hat.fz.gk_next ((Below.refl wv.heap.size wv).alloc (Nat.le_refl _) _)) (hat.keep 26 ((Below.refl wv.heap.size wv).alloc (Nat.le_refl _) _)) ⟨_, _, rfl, heap_alloc_new wv _, ⟨g25, n25, k25, rfl, (e42 ▸ hl25 : Has (K + 1) wv (.slice (some ⟨g25, 0, none⟩) n25 k25)).gk (hat.fz.gk_next ((Below.refl wv.heap.size wv).alloc (Nat.le_refl _) _))⟩⟩
    ·have ee : some _ = some o := ho
     injection ee with ee
     subst ee
     have h27 : l.getD 27 false = false := unl h0
     have p0 : l.getD 0 false = true := hall { on := 0, ground := .data } (by simp) rfl
     have e17 : u 17 = u5 := hphi 0 (by omega) p0 (.inl h27)
     have p26 : l.getD 26 false = true := hall { on := 26, ground := .data } (by simp) rfl
     obtain ⟨b26, v26, e43, hb26, hv26⟩ : ∃ b v, u 43 = .slice (some ⟨b, 0, none⟩) 1 1 ∧ wv.heap[b]? = some (.cells #[v] 23 (0, 0)) ∧ HasS (K + 1) wv v := hphi 26 (by omega) p26 (.inl h27)
     have q25 : l.getD 25 false = true := hall { on := 25, ground := .chain } (by simp) rfl
     have r14 : l.getD 14 false = true := hcl 25 _ rfl q25 { on := 14, ground := .data } (by simp) rfl
     have r24 : l.getD 24 false = true := hcl 25 _ rfl q25 { on := 24, ground := .data } (by simp) rfl
     have r23 : l.getD 23 false = true := hcl 24 _ rfl r24 { on := 23, ground := .data } (by simp) rfl
     have r15 : l.getD 15 false = true := hcl 23 _ rfl r23 { on := 15, ground := .data } (by simp) rfl
     have r20 : l.getD 20 false = true := hcl 23 _ rfl r23 { on := 20, ground := .data } (by simp) rfl
     have r22 : l.getD 22 false = true := hcl 23 _ rfl r23 { on := 22, ground := .data } (by simp) rfl
     have r21 : l.getD 21 false = true := hcl 22 _ rfl r22 { on := 21, ground := .data } (by simp) rfl
     have r19 : l.getD 19 false = true := hcl 20 _ rfl r20 { on := 19, ground := .data } (by simp) rfl
     have r18 : l.getD 18 false = true := hcl 19 _ rfl r19 { on := 18, ground := .data } (by simp) rfl
     have r17 : l.getD 17 false = true := hcl 18 _ rfl r18 { on := 17, ground := .data } (by simp) rfl
     have r16 : l.getD 16 false = true := hcl 17 _ rfl r17 { on := 16, ground := .data } (by simp) rfl
     have r6 : l.getD 6 false = true := hcl 20 _ rfl r20 { on := 6, ground := .chain } (by simp) rfl
     have r13 : l.getD 13 false = true := hcl 14 _ rfl r14 { on := 13, ground := .data } (by simp) rfl
     have r12 : l.getD 12 false = true := hcl 13 _ rfl r13 { on := 12, ground := .data } (by simp) rfl
     have r9 : l.getD 9 false = true := hcl 12 _ rfl r12 { on := 9, ground := .data } (by simp) rfl
     have r11 : l.getD 11 false = true := hcl 12 _ rfl r12 { on := 11, ground := .data } (by simp) rfl
     have r10 : l.getD 10 false = true := hcl 11 _ rfl r11 { on := 10, ground := .data } (by simp) rfl
     have r8 : l.getD 8 false = true := hcl 9 _ rfl r9 { on := 8, ground := .data } (by simp) rfl
     have r7 : l.getD 7 false = true := hcl 8 _ rfl r8 { on := 7, ground := .data } (by simp) rfl
     have r1 : l.getD 1 false = true := hcl 7 _ rfl r7 { on := 1, ground := .data } (by simp) rfl
     have r5 : l.getD 5 false = true := hcl 6 _ rfl r6 { on := 5, ground := .data } (by simp) rfl
     have r4 : l.getD 4 false = true := hcl 5 _ rfl r5 { on := 4, ground := .data } (by simp) rfl
     have r3 : l.getD 3 false = true := hcl 4 _ rfl r4 { on := 3, ground := .data } (by simp) rfl
     have r2 : l.getD 2 false = true := hcl 3 _ rfl r3 { on := 2, ground := .data } (by simp) rfl
     have hall2 : ∀ k, k < 27 → l.getD k false = true := by
      intro k hk
      have h7 : k = 0 ∨ k = 1 ∨ k = 2 ∨ k = 3 ∨ k = 4 ∨ k = 5 ∨ k = 6 ∨ k = 7 ∨ k = 8 ∨ k = 9 ∨ k = 10 ∨ k = 11 ∨ k = 12 ∨ k = 13 ∨ k = 14 ∨ k = 15 ∨ k = 16 ∨ k = 17 ∨ k = 18 ∨ k = 19 ∨ k = 20 ∨ k = 21 ∨ k = 22 ∨ k = 23 ∨ k = 24 ∨ k = 25 ∨ k = 26 := by omega
      rcases h7 with rfl | rfl | rfl | rfl | rfl | rfl | rfl | rfl | rfl | rfl | rfl | rfl | rfl | rfl | rfl | rfl | rfl | rfl | rfl | rfl | rfl | rfl | rfl | rfl | rfl | rfl | rfl
      ·exact p0
      ·exact r1
      ·exact r2
      ·exact r3
      ·exact r4
      ·exact r5
      ·exact r6
      ·exact r7
      ·exact r8
      ·exact r9
      ·exact r10
      ·exact r11
      ·exact r12
      ·exact r13
      ·exact r14
      ·exact r15
      ·exact r16
      ·exact r17
      ·exact r18
      ·exact r19
      ·exact r20
      ·exact r21
      ·exact r22
      ·exact r23
      ·exact r24
      ·exact q25
      ·exact p26
     obtain ⟨xs, ls, z1, z2, z3, z4, z5⟩ := hpv h27
     obtain ⟨gx, nx, kx, ex, hlx⟩ := hv26
     subst ex
     have cy := cell_hp hb26 0
     simp at cy
     simp only [TA, e17, e43]
     refine wpOp_append rfl rfl (.tmp 17) (.tmp 43) 99 rfl w.heap.size 23 i0 (.slice none 0 0) 24 Tryz.underlying99 HHI.out.1 HHI.out.2.1 HHI.out.2.2.1 HHI.out.2.2.2 rfl u5 m xs (by simp [Act.eval]) z2 ⟨b26, 0, none⟩ (.slice (some ⟨gx, 0, none⟩) nx kx) (by simp [Act.eval]) cy rfl (by unfold maxLen; omega) (by omega) hold ?_
     intro v7 w7 o7 g7
     obtain ⟨ha7, hp7⟩ := Parts.more z1 z3 z4 z5 hlx hat.fz z2 g7 o7
     have e27 : (l.setIfInBounds 27 true).getD 27 false = true := lst (by omega)
     refine hK _ _ ⟨⟨upd u 44 v7, by simp [TA, upd, Act.put, e17, e43], fun h => ?_, fun k hk hl2 hc => ?_⟩, ⟨fun h => ?_, fun h => ?_, fun h => ?_, ha7⟩, fun _ k hk => getD_set_true (hall2 k hk), fun h => ?_, Nat.le_trans hold g7.size⟩
     ·have h28 := h5 (getD_unset h)
      have : upd u 44 v7 5 = u 5 := rfl
      rw [this]
      exact h28
     ·have hk2 : k = 27 ∨ k = 28 := by
       rcases hc with hc | hc
       ·rw [e27] at hc; cases hc
       ·omega
      rcases hk2 with rfl | rfl
      ·exact hp7
      ·rw [getD_set_ne false (by omega)] at hl2
       have h := hcl 28 _ rfl hl2 { on := 27, ground := .data } (by simp) rfl
       rw [h27] at h
       cases h
     ·rw [getD_set_true r6] at h; cases h
     ·rw [getD_set_true r20] at h; cases h
     ·rw [getD_set_true r23] at h; cases h
     ·rw [e27] at h; cases h
    ·have ee : some _ = some o := ho
     injection ee with ee
     subst ee
     have p27 : l.getD 27 false = true := hall { on := 27, ground := .data } (by simp) rfl
     have f27 : Parts w wv (u 44) (m + 1) (m * (K + 1) + (K + 1)) := hphi 27 (by omega) p27 (.inr (by omega))
     simp only [TA]
     refine wpOp_run rfl rfl ?_
     go_simp
     refine hK _ _ ?_
     exact RI.put (u 44) (by omega) (by omega) (by omega) h5 hphi hall27 hpv hold (by simp [TA, upd, dstR]) (Gk.refl _ _) (hat.keep 28 (Below.refl _ _)) f27
   ·intro l a wv hI hallk
    obtain ⟨⟨u, rfl, _, hphi⟩, hat, _, _, _⟩ := hI
    have h28 : Parts w wv (u 5) (m + 1) (m * (K + 1) + (K + 1)) := hphi 28 (by omega) (hallk 28 (by decide)) (.inr (by omega))
    have HP9 := hid h28
    have HA9 := hid hat.fz
    simp only at HA9
    obtain ⟨g9, c9, e9⟩ := h28.sl (by omega)
    simp only [TA]
    clear h28 hat hphi hallk
    go_wp2
    go_roundw
    case rel => exact ⟨tn, m + 1, by omega, by go_num, by rw [Nat.add_mul, Nat.one_mul]; exact HP9.out, HA9.out.mono (by rw [Nat.add_mul]; omega), by omega⟩
    case measure => simp [intOf]
  ·obtain rfl : t = 0 := by omega
   obtain ⟨adp, cp, hpe⟩ := HP.out.any
   subst hpe
   go_wp2_with fail
   refine (overQ_at HA.out ⟨9, 0, 0, ⟨#[]⟩, 0⟩ HP.out (by omega) (by show (⟨#[]⟩ : ByteArray).size ≤ 1000; decide) (by omega)).mono ?_
   intro e w6 hh
   obtain ⟨g6, n6, k6, rfl, l6, at6, gk6⟩ := hh.get
   have HL6 := hid l6
   have HA6 := hid at6
   clear hh l6 at6 gk6
   go_wp2
   go_ret
   exact HL6.out.fin HA6.out HA6.out.gk (by omega) (by omega)
theorem record_at {d : Int} {K Ce : Nat} (he : EOk (d - 1) K Ce) (hK : K ≤ 10000) (hd : 1 ≤ d) (hd2 : d ≤ 10) : RecOk d K Ce := by
 intro s C w w' h hr
 obtain ⟨p', c', sz', h1, h2, h3, h4, h5, h6, h7, h8⟩ := h
 refine (record_root he hK hd hd2 ⟨s.R, s.G, s.ns, s.fs, c', sz', p'⟩ w' h7 ⟨by have := hr.p; simp only; omega, by have := hr.c; simp only; omega, by have := hr.lo; simp only; omega, by have := hr.hi; simp only; omega, by have := hr.n; simp only; omega, hr.f⟩).mono ?_
 intro e w2 hh
 obtain ⟨g, n, k, rfl, l, at2, gk2⟩ := hh.get
 obtain ⟨k1, k2⟩ := At.comp h1 h2 h3 h4 h5 h6 h8 at2
 exact l.fin k1 k2 (Nat.le_refl _) (by omega)
theorem e_one : EOk 1 17 135 := by
 have h : EOk ((1 : Int) - 1) 3 25 := by rw [show ((1 : Int) - 1) = 0 by decide]; exact e_zero (d := 0) (by decide)
 exact e_step (d := 1) (K := 3) (Ce := 25) h (record_at h (by omega) (by decide) (by decide)) (by omega) (by decide) (by decide)
theorem e_two : EOk 2 59 465 := by
 have h : EOk ((2 : Int) - 1) 17 135 := by rw [show ((2 : Int) - 1) = 1 by decide]; exact e_one
 exact e_step (d := 2) (K := 17) (Ce := 135) h (record_at h (by omega) (by decide) (by decide)) (by omega) (by decide) (by decide)
theorem e_three : EOk 3 185 1455 := by
 have h : EOk ((3 : Int) - 1) 59 465 := by rw [show ((3 : Int) - 1) = 2 by decide]; exact e_two
 exact e_step (d := 3) (K := 59) (Ce := 465) h (record_at h (by omega) (by decide) (by decide)) (by omega) (by decide) (by decide)
theorem e_four : EOk 4 563 4425 := by
 have h : EOk ((4 : Int) - 1) 185 1455 := by rw [show ((4 : Int) - 1) = 3 by decide]; exact e_three
 exact e_step (d := 4) (K := 185) (Ce := 1455) h (record_at h (by omega) (by decide) (by decide)) (by omega) (by decide) (by decide)
end Go.Proofs.YtbakebdfmdepnaaGreatDoor
