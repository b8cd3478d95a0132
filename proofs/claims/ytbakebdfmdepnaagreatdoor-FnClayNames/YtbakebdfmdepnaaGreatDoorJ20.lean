import Derived.Deep.RegionLaw
import Derived.Test.YtbakebdfmdepnaaGreatDoorJ02
import Derived.Test.YtbakebdfmdepnaaGreatDoorJ09
import Derived.Test.YtbakebdfmdepnaaGreatDoorJ18
namespace Go.Proofs.YtbakebdfmdepnaaGreatDoor
open Go.RowKit
set_option maxRecDepth 20000
theorem KidsOk_no (kind : Int) (h : kind < 1 ∨ 24 < kind) (m : Nat) (nd : Nat → Nd) : ¬ KidsOk kind m nd := by
 unfold KidsOk
 rintro (h | h | h | h | h | h | h | h | h | h | h | h)
 all_goals have h0 := h.1
 all_goals omega
set_option maxHeartbeats 4000000 in
theorem KO_E (kind : Int) (hkind : kind < 1 ∨ 24 < kind) : KO kind := by
 have HNO := hid (KidsOk_no kind hkind)
 have e1 : (kind == 1) = false := by simp; omega
 have e2 : (kind == 2) = false := by simp; omega
 have e3 : (kind == 3) = false := by simp; omega
 have e4 : (kind == 4) = false := by simp; omega
 have e5 : (kind == 5) = false := by simp; omega
 have e6 : (kind == 6) = false := by simp; omega
 have e7 : (kind == 7) = false := by simp; omega
 have e8 : (kind == 8) = false := by simp; omega
 have e9 : (kind == 9) = false := by simp; omega
 have e10 : (kind == 10) = false := by simp; omega
 have e11 : (kind == 11) = false := by simp; omega
 have e12 : (kind == 12) = false := by simp; omega
 have e13 : (kind == 13) = false := by simp; omega
 have e14 : (kind == 14) = false := by simp; omega
 have e15 : (kind == 15) = false := by simp; omega
 have e16 : (kind == 16) = false := by simp; omega
 have e17 : (kind == 17) = false := by simp; omega
 have e18 : (kind == 18) = false := by simp; omega
 have e19 : (kind == 19) = false := by simp; omega
 have e20 : (kind == 20) = false := by simp; omega
 have e21 : (kind == 21) = false := by simp; omega
 have e22 : (kind == 22) = false := by simp; omega
 have e23 : (kind == 23) = false := by simp; omega
 have e24 : (kind == 24) = false := by simp; omega
 intro b N cap g o m c nd ks w hm hb hg hn hk
 have HN := hid hn
 have HK := hid hk
 clear hn hk
 go_enter Tryz.func26, Tryz.ntmps26
 go_wp2
 go_loopw [8, 10] (fun es i wr => ∃ j e : Nat, j ≤ m ∧ e ≤ j ∧ i = .int .i64 j ∧ es = .int .i64 e ∧ (e = j ↔ AllE j (fun i => nd (ks i))) ∧ Below (w.heap.size + 1) (w.alloc (.cells #[.slice (some ⟨b, 0, none⟩) N cap] 25)) wr) (fun _ i _ => m - (intOf i).toNat)
 case atStart => exact ⟨0, 0, Nat.zero_le _, Nat.zero_le _, rfl, rfl, ⟨fun _ i h => absurd h (Nat.not_lt_zero _), fun _ => rfl⟩, Below.refl _ _⟩
 case round =>
  obtain ⟨j, e, hj, he, rfl, rfl, hall, hbw⟩ := hrel
  have HALL := hid hall
  have HBW := hid hbw
  clear hall hbw
  by_cases hlt : j < m
  ·have t0 := tree_cell HBW.out
   obtain ⟨a0, a1⟩ := (HK.out.below (btree HBW.out) hg) j hlt
   obtain ⟨a2, _⟩ := (HN.out.below (btree HBW.out) hb) (ks j) a1
   have HS := hid (AllE_step HALL.out he)
   cases hE : isE (nd (ks j)).kind
   ·have NX := hid (HS.out.2 hE)
    clear HS
    go_wp2
    go_region_with (go_at_call 47; refine (l2E_any _ _).mono ?_; rintro e w' ⟨rfl, hw⟩; have hw2 := hw.symm; clear hw; subst hw2)
    all_goals go_wp2
    all_goals
     go_roundw
     case rel => exact ⟨j + 1, e, by omega, by omega, by go_num, rfl, NX.out, HBW.out.drew⟩
     case measure => simp [intOf]; omega
   ·have NX := hid (HS.out.1 hE)
    clear HS
    go_wp2
    go_region_with (go_at_call 47; refine (l2E_any _ _).mono ?_; rintro e w' ⟨rfl, hw⟩; have hw2 := hw.symm; clear hw; subst hw2)
    all_goals go_wp2
    all_goals
     go_roundw
     case rel => exact ⟨j + 1, e + 1, by omega, by omega, by go_num, by go_num, NX.out, HBW.out.drew⟩
     case measure => simp [intOf]; omega
  ·obtain rfl : j = m := by omega
   go_wp2
   go_ret
   exact ⟨says_f (HNO.out _ _), btree HBW.out⟩
end Go.Proofs.YtbakebdfmdepnaaGreatDoor
namespace Go.Proofs.YtbakebdfmdepnaaGreatDoor
open Go.RowKit Go.Maps Go.WideMaps
set_option maxRecDepth 20000
set_option maxHeartbeats 1000000 in
theorem makes_any (x : Bx) (hx : x.Ok) (k : Nat) (kn : Env) (a : Option Addr) (bn : Nat → Int) (p : Int × Int) (w : World) (h : x.At w bn p.1 p.2) (ht : x.Tree w) (hk : Kn x.S w (.pointer a) kn) (hkN : k < x.N) :
  Calls Tryz.prog 43 #[.pointer (some ⟨x.bb, 0, none⟩), .int .i64 k, .pointer a] w fun e w' => e = .returned (.tuple #[]) ∧ x.Ends w w' bn p (mkE x.nd kn k) := by
 obtain ⟨f0, f1, f2, f3, f4, f5, f6⟩ := h.five
 obtain ⟨c0, c1, c2, c3, c4⟩ := ht.1 k hkN
 have H := hid h
 have HX := hid hx
 have HT := hid (hx.text k hkN)
 have HN5 := hx.N
 have HK := hid hk.now
 clear h hk ht hx
 go_enter Tryz.func43, Tryz.ntmps43
 by_cases hm : kn (x.nd k).text = (k : Int)
 ·have HM := hid hm
  clear hm
  go_wp2_with (first
   | (go_at_call 66; refine (maker_any _ _ kn _ _ HT.out HK.out).mono ?_; rintro e w' ⟨rfl, hw⟩; have hw2 := hw.symm; clear hw; subst hw2; rw [HM.out]))
  go_end0
  have e : mkE x.nd kn k = [] := by unfold mkE; rw [if_pos HM.out]
  rw [e]
  exact ⟨rfl, Bx.Ends.nil H.out⟩
 ·have HM := hid hm
  have hq : (kn (x.nd k).text != (k : Int)) = true := by rw [bne_iff_ne]; exact hm
  clear hm
  go_wp2_with (first
   | (go_at_call 66; refine (maker_any _ _ kn _ _ HT.out HK.out).mono ?_; rintro e w' ⟨rfl, hw⟩; have hw2 := hw.symm; clear hw; subst hw2)
   | (go_at_call 67; refine (finds_any x 8 k bn p _ H.out HX.out.ne).mono ?_; rintro e w' ⟨rfl, hw⟩))
  go_end0
  have e : mkE x.nd kn k = [.flt k 8] := by unfold mkE; rw [if_neg HM.out]
  rw [e]
  exact ⟨rfl, hw⟩
def PlA (W : World) (ad : Option Addr) (ks : List Nat) : Prop := ks = [] ∨ ∃ g q, ad = some ⟨g, q, none⟩ ∧ ∀ i, i < ks.length → W.cell? ⟨g, q + i, none⟩ = some (.int .i64 (ks.getD i 0 : Nat))
theorem Bx.Ends.more {x : Bx} {w w1 w2 : World} {bn : Nat → Int} {p : Int × Int} {e1 e2 : List Ev} (h1 : x.Ends w w1 bn p e1) (h2 : ∀ bn', x.At w1 bn' (ft p (fls e1)).1 (ft p (fls e1)).2 → (fls e1 = [] → bn' = apB bn e1) → x.Ends w1 w2 bn' (ft p (fls e1)) e2) : x.Ends w w2 bn p (e1 ++ e2) := by
 obtain ⟨s1, b1, a1, n1⟩ := h1
 obtain ⟨s2, b2, a2, n2⟩ := h2 b1 a1 n1
 refine ⟨s1.trans s2, b2, by rw [fls_append, ft_append]; exact a2, fun h => ?_⟩
 rw [fls_append] at h
 obtain ⟨e1, e2⟩ := List.append_eq_nil_iff.1 h
 rw [n2 e2, n1 e1, apB_append]
def WalkOk (x : Bx) (k : Nat) : Prop := ∀ (kn : Env) (a : Option Addr) (bn : Nat → Int) (p : Int × Int) (w : World), x.At w bn p.1 p.2 → Stb x.S w x.Tree → Kn x.S w (.pointer a) kn →
 Calls Tryz.prog 21 #[.pointer (some ⟨x.bb, 0, none⟩), .int .i64 k, .pointer a] w fun e w' => e = .returned (.tuple #[]) ∧ x.Ends w w' bn p (wk x.nd x.o k kn)
def WalksTo (x : Bx) (k : Nat) (E : Env → List Ev) (kn : Env) : Prop := ∀ (a : Option Addr) (bn : Nat → Int) (p : Int × Int) (w : World), x.At w bn p.1 p.2 → Stb x.S w x.Tree → Kn x.S w (.pointer a) kn →
 Calls Tryz.prog 21 #[.pointer (some ⟨x.bb, 0, none⟩), .int .i64 k, .pointer a] w fun e w' => e = .returned (.tuple #[]) ∧ x.Ends w w' bn p (E kn)
set_option maxHeartbeats 1000000 in
theorem walkAll_of (x : Bx) (ks : List Nat) (kn : Env) (E : Nat → Env → List Ev) (hw : ∀ j ∈ ks, WalksTo x j (E j) kn) (ad : Option Addr) (cp : Nat) (a : Option Addr) (bn : Nat → Int) (p : Int × Int) (w : World) (hl : ks.length ≤ 5000) (hp : Stb x.S w fun W => PlA W ad ks) (h : x.At w bn p.1 p.2) (ht : Stb x.S w x.Tree) (hk : Kn x.S w (.pointer a) kn) :
  Calls Tryz.prog 40 #[.pointer (some ⟨x.bb, 0, none⟩), .slice ad ks.length cp, .pointer a] w fun e w' => e = .returned (.tuple #[]) ∧ x.Ends w w' bn p (ks.flatMap fun j => E j kn) := by
 have HW := hid hw
 have HP := hid hp
 have H := hid h
 have HT := hid ht
 have HK := hid hk
 clear hw hp h ht hk
 obtain ⟨m, hm⟩ : ∃ m, ks.length = m := ⟨_, rfl⟩
 have HL := hid hm
 rw [hm] at hl ⊢
 clear hm
 go_enter Tryz.func40, Tryz.ntmps40
 go_wp2
 go_loopw [10] (fun i wr => ∃ j : Nat, j ≤ m ∧ i = .int .i64 j ∧ x.Ends w wr bn p ((ks.take j).flatMap fun j => E j kn)) (fun i _ => m - (intOf i).toNat)
 case atStart => exact ⟨0, Nat.zero_le _, rfl, Bx.Ends.nil H.out⟩
 case round =>
  obtain ⟨j, hj, rfl, hen⟩ := hrel
  have HEN := hid hen
  clear hen
  by_cases hlt : j < m
  ·have hpl := HP.out _ HEN.out.1
   rcases hpl with e | ⟨g, q, rfl, hc⟩
   ·have := HL.out; rw [e] at this; simp at this; omega
   have c0 := hc j (by have := HL.out; omega)
   obtain ⟨y, hy⟩ : ∃ y, ks.getD j 0 = y := ⟨_, rfl⟩
   have HY := hid hy
   rw [hy] at c0
   clear hc hy
   have hmem : y ∈ ks := by
    rw [← HY.out, List.getD_eq_getElem?_getD, List.getElem?_eq_getElem (by have := HL.out; omega)]
    simp
   have HMEM := hid hmem
   obtain ⟨hs1, bn1, ha1, hn1⟩ := HEN.out
   have HA1 := hid (And.intro hs1 (And.intro ha1 hn1))
   clear hmem hs1 ha1 hn1
   go_wp2_with (first
    | (go_at_call 21; refine (HW.out y HMEM.out a bn1 (ft p (fls ((ks.take j).flatMap fun j => E j kn))) _ HA1.out.2.1 (HT.out.go HA1.out.1) (HK.out.go HA1.out.1)).mono ?_; rintro e w1 ⟨rfl, hen1⟩; have HE1 := hid hen1; clear hen1))
   have HNX : Hid (x.Ends w w1 bn p ((ks.take (j + 1)).flatMap fun j => E j kn)) := by
    rw [List.take_succ_eq_append_getElem (by have := HL.out; omega)]
    have e : ks[j]'(by have := HL.out; omega) = y := by rw [← HY.out, List.getD_eq_getElem?_getD, List.getElem?_eq_getElem (by have := HL.out; omega)]; simp
    rw [e, List.flatMap_append]
    have h1 : x.Ends w wr bn p ((ks.take j).flatMap fun j => E j kn) := ⟨HA1.out.1, bn1, HA1.out.2⟩
    obtain ⟨s2, b2, a2, n2⟩ := HE1.out
    have e2 : [y].flatMap (fun j => E j kn) = E y kn := by simp
    rw [e2]
    refine ⟨HA1.out.1.trans s2, b2, by rw [fls_append, ft_append]; exact a2, fun h => ?_⟩
    rw [fls_append] at h
    obtain ⟨e3, e4⟩ := List.append_eq_nil_iff.1 h
    rw [n2 e4, HA1.out.2.2 e3, apB_append]
   go_wp2
   go_roundw
   case rel => exact ⟨j + 1, by omega, by go_num, HNX.out⟩
   case measure => simp [intOf]; omega
  ·obtain rfl : j = m := by omega
   have HEND : Hid (x.Ends w wr bn p (ks.flatMap fun j => E j kn)) := by
    have := HEN.out
    rw [List.take_of_length_le (by have := HL.out; omega)] at this
    exact this
   go_wp2
   go_end0
   exact ⟨rfl, HEND.out⟩
end Go.Proofs.YtbakebdfmdepnaaGreatDoor
namespace Go.Proofs.YtbakebdfmdepnaaGreatDoor
open Go.RowKit
set_option maxRecDepth 20000
def CodesOk (cf : Nat → Nat) (F : Nat × Nat → Prop) : Prop := ∀ j, (cf j = 0 ∧ ∀ c, ¬ F (j, c)) ∨ (F (j, cf j) ∧ cf j ≠ 0 ∧ ∀ c, F (j, c) → cf j ≤ c)
def putC (cf : Nat → Nat) (k c : Nat) : Nat → Nat := fun j => if j = k then (if cf k = 0 ∨ c < cf k then c else cf k) else cf j
theorem CodesOk.put {cf : Nat → Nat} {F : Nat × Nat → Prop} (h : CodesOk cf F) (k c : Nat) (hc : c ≠ 0) : CodesOk (putC cf k c) (fun y => F y ∨ y = (k, c)) := by
 intro j
 unfold putC
 by_cases e : j = k
 ·subst e
  rw [if_pos rfl]
  right
  rcases h j with ⟨h1, h2⟩ | ⟨h1, h2, h3⟩
  ·rw [if_pos (.inl h1)]
   refine ⟨.inr rfl, hc, fun d hd => ?_⟩
   rcases hd with hd | hd
   ·exact absurd hd (h2 d)
   ·injection hd with _ hd; omega
  ·by_cases q : c < cf j
   ·rw [if_pos (.inr q)]
    refine ⟨.inr rfl, hc, fun d hd => ?_⟩
    rcases hd with hd | hd
    ·have := h3 d hd; omega
    ·injection hd with _ hd; omega
   ·rw [if_neg (by omega)]
    refine ⟨.inl h1, h2, fun d hd => ?_⟩
    rcases hd with hd | hd
    ·exact h3 d hd
    ·injection hd with _ hd; omega
 ·rw [if_neg e]
  rcases h j with ⟨h1, h2⟩ | ⟨h1, h2, h3⟩
  ·left
   refine ⟨h1, fun d hd => ?_⟩
   rcases hd with hd | hd
   ·exact h2 d hd
   ·injection hd with hd _; exact e hd
  ·right
   refine ⟨.inl h1, h2, fun d hd => ?_⟩
   rcases hd with hd | hd
   ·exact h3 d hd
   ·injection hd with hd _; exact absurd hd e
theorem CodesOk.congr {cf : Nat → Nat} {F G : Nat × Nat → Prop} (h : CodesOk cf F) (hfg : ∀ y, F y ↔ G y) : CodesOk cf G := by
 intro j
 rcases h j with ⟨h1, h2⟩ | ⟨h1, h2, h3⟩
 ·exact .inl ⟨h1, fun c hc => h2 c ((hfg _).2 hc)⟩
 ·exact .inr ⟨(hfg _).1 h1, h2, fun c hc => h3 c ((hfg _).2 hc)⟩
structure Mx where
 wb : Nat
 gc : Nat
 gb : Nat
 g : Nat
 N : Nat
 cap : Nat
 gk : Nat
 ck : Nat
 nd : Nat → Nd
 o : List (List Nat)
def Mx.S (x : Mx) (k : Nat) : Prop := k = x.gc ∨ k = x.gb
def Mx.At (x : Mx) (W : World) (cf : Nat → Nat) (bn : Nat → Int) : Prop := BnAt W x.gc x.N (fun i => (cf i : Int)) ∧ BnAt W x.gb x.N bn
def Mx.Tree (x : Mx) (W : World) : Prop := W.heap[x.wb]? = some (.cells #[.slice (some ⟨x.g, 0, none⟩) x.N x.cap, .slice (some ⟨x.gk, 0, none⟩) x.N x.ck, .slice (some ⟨x.gc, 0, none⟩) x.N x.N, .slice (some ⟨x.gb, 0, none⟩) x.N x.N] 42 (0, 0)) ∧ NodesAt W x.g x.N x.nd ∧ KG W x.gk x.N x.o
structure Mx.Ok (x : Mx) : Prop where
 ne : x.gc ≠ x.gb
 N : x.N ≤ 5000
 text : ∀ i, i < x.N → (x.nd i).text.size ≤ maxLen
 down : Down x.o
 kidded : ∀ k, k < x.N → Kidded x.nd x.o k
 len : x.o.length = x.N
 g : ¬ x.S x.g
 gk : ¬ x.S x.gk
 wb : ¬ x.S x.wb
 kids : ∀ k, (x.o.getD k []).length ≤ 5000
 place : ∀ k, ∀ j ∈ x.o.getD k [], j < x.N
 fit : ∀ k, k < x.N → FitAt x.nd x.o k
theorem Mx.At.lt {x : Mx} {W : World} {cf : Nat → Nat} {bn : Nat → Int} (h : x.At W cf bn) : ∀ j, x.S j → j < W.heap.size := by
 obtain ⟨⟨c1, h1, _⟩, c2, h2, _⟩ := h
 rintro j (rfl | rfl)
 ·exact (Array.getElem?_eq_some_iff.1 h1).1
 ·exact (Array.getElem?_eq_some_iff.1 h2).1
theorem Mx.At.go {x : Mx} {W W' : World} {cf : Nat → Nat} {bn : Nat → Int} (h : x.At W cf bn) (hb : Below W.heap.size W W') : x.At W' cf bn := by
 have hl := h.lt
 obtain ⟨⟨c1, h1, h3⟩, c2, h2, h4⟩ := h
 exact ⟨⟨c1, (hb.block _ (hl _ (.inl rfl))).trans h1, h3⟩, c2, (hb.block _ (hl _ (.inr rfl))).trans h2, h4⟩
theorem Mx.Tree.four {x : Mx} {W : World} (h : x.Tree W) : W.cell? ⟨x.wb, 0, none⟩ = some (.slice (some ⟨x.g, 0, none⟩) x.N x.cap) ∧ W.cell? ⟨x.wb, 1, none⟩ = some (.slice (some ⟨x.gk, 0, none⟩) x.N x.ck) ∧ W.cell? ⟨x.wb, 2, none⟩ = some (.slice (some ⟨x.gc, 0, none⟩) x.N x.N) ∧ W.cell? ⟨x.wb, 3, none⟩ = some (.slice (some ⟨x.gb, 0, none⟩) x.N x.N) := by
 refine ⟨?_, ?_, ?_, ?_⟩ <;> (unfold World.cell?; rw [h.1]; rfl)
def Mx.Ends (x : Mx) (w w' : World) (F : Nat × Nat → Prop) (bn : Nat → Int) (evs : List Ev) : Prop := Sv x.S w w' ∧ ∃ cf' bn', x.At w' cf' bn' ∧ CodesOk cf' (fun y => F y ∨ y ∈ fls evs) ∧ (fls evs = [] → bn' = apB bn evs)
theorem mends_join {x : Mx} {w wr w1 : World} {F : Nat × Nat → Prop} {bn bn1 : Nat → Int} {e1 e2 : List Ev} (hs : Sv x.S w wr) (hn : fls e1 = [] → bn1 = apB bn e1) (h2 : x.Ends wr w1 (fun y => F y ∨ y ∈ fls e1) bn1 e2) : x.Ends w w1 F bn (e1 ++ e2) := by
 obtain ⟨s2, c2, b2, a2, k2, n2⟩ := h2
 refine ⟨hs.trans s2, c2, b2, a2, k2.congr fun y => ?_, fun h => ?_⟩
 ·rw [fls_append, List.mem_append]
  constructor
  ·rintro ((h | h) | h)
   ·exact .inl h
   ·exact .inr (.inl h)
   ·exact .inr (.inr h)
  ·rintro (h | h | h)
   ·exact .inl (.inl h)
   ·exact .inl (.inr h)
   ·exact .inr h
 ·rw [fls_append] at h
  obtain ⟨e3, e4⟩ := List.append_eq_nil_iff.1 h
  rw [n2 e4, hn e3, apB_append]
theorem Mx.At.putC {x : Mx} {W : World} {cf : Nat → Nat} {bn : Nat → Int} (h : x.At W cf bn) (hne : x.gc ≠ x.gb) (k c : Nat) (hk : k < x.N) (hq : cf k = 0 ∨ c < cf k) : x.At (W.setCell ⟨x.gc, k, none⟩ (.int .i64 c)) (putC cf k c) bn := by
 refine ⟨?_, ?_⟩
 ·have := h.1.set k hk (c : Int)
  have e : (fun j => if j = k then (c : Int) else ((cf j : Nat) : Int)) = fun i => ((Proofs.YtbakebdfmdepnaaGreatDoor.putC cf k c i : Nat) : Int) := by
   funext j
   unfold Proofs.YtbakebdfmdepnaaGreatDoor.putC
   split <;> rfl
  rw [e] at this
  exact this
 ·obtain ⟨cur, h2, h3⟩ := h.2
  exact ⟨cur, (Below.heap_setCell _ _ _ _ (fun e => hne e.symm)).trans h2, h3⟩
theorem fault_end {x : Mx} {w w' : World} {F : Nat × Nat → Prop} {cf : Nat → Nat} {bn : Nat → Int} {k code : Nat} (hc : 0 < code) (hok : CodesOk cf F) (hs : Sv x.S w w') (h : x.At w' (putC cf k code) bn) : x.Ends w w' F bn [.flt k code] := by
 refine ⟨hs, _, bn, h, (hok.put k code (by omega)).congr fun y => ?_, fun h => by cases h⟩
 simp [fls]
set_option maxHeartbeats 1000000 in
theorem fault_any (x : Mx) (hx : x.Ok) (k code : Nat) (hc : 0 < code) (F : Nat × Nat → Prop) (cf : Nat → Nat) (bn : Nat → Int) (w : World) (hkN : k < x.N) (h : x.At w cf bn) (ht : x.Tree w) (hok : CodesOk cf F) :
  Calls Tryz.prog 28 #[.pointer (some ⟨x.wb, 0, none⟩), .int .i64 k, .int .i64 code] w fun e w' => e = .returned (.tuple #[]) ∧ x.Ends w w' F bn [.flt k code] := by
 obtain ⟨f0, f1, f2, f3⟩ := ht.four
 obtain ⟨c0, c1⟩ := h.1.cell k hkN
 have H := hid h
 have HX := hid hx
 have HOK := hid hok
 have hN5 := hx.N
 clear h hx ht hok
 by_cases hq : cf k = 0 ∨ code < cf k
 ·have HEND := hid (fault_end (x := x) (w := w) hc HOK.out ((Sv.refl x.S w).setCell (p := ⟨x.gc, k, none⟩) (.inl (.inl rfl)) (.int .i64 code)) (H.out.putC HX.out.ne k code hkN hq))
  by_cases h0 : cf k = 0
  ·rw [h0] at c0
   clear hq h0
   go_enter Tryz.func28, Tryz.ntmps28
   go_wp2
   go_end0
   exact ⟨rfl, HEND.out⟩
  ·have hl : (code : Int) < (cf k : Int) := by omega
   have h1 : ((cf k : Int) == 0) = false := by rw [beq_eq_false_iff_ne]; omega
   clear hq h0
   go_enter Tryz.func28, Tryz.ntmps28
   go_wp2
   go_end0
   exact ⟨rfl, HEND.out⟩
 ·have hl : ¬ (code : Int) < (cf k : Int) := by omega
  have h1 : ((cf k : Int) == 0) = false := by rw [beq_eq_false_iff_ne]; omega
  have e : putC cf k code = cf := by
   funext j
   unfold putC
   split
   ·rename_i h; rw [h]
   ·rfl
  have HEND := hid (fault_end (x := x) (w := w) (k := k) hc HOK.out (Sv.refl x.S w) (by rw [e]; exact H.out))
  clear hq e
  go_enter Tryz.func28, Tryz.ntmps28
  go_wp2
  go_end0
  exact ⟨rfl, HEND.out⟩
set_option maxHeartbeats 4000000 in
theorem e_zero {d : Int} (hd : d ≤ 0) : EOk d 3 25 := by
 intro s kind w h hr
 have HR := hid hr
 have HA0 := hid (sized_at h)
 have HK0 := hid HA0.out.gk
 obtain ⟨vn, vf, e1, _⟩ := h.ex
 have c4 := cell_hp e1 4
 have f4 := frozen_hp e1 4
 have c0 : (w.setCell ⟨s.G, 4, none⟩ (.int .i64 (s.sz - 1))).cell? ⟨s.G, 0, none⟩ = some (.pointer (some ⟨s.R, 0, none⟩)) := HA0.out.g0
 simp at c4
 have hlo := hr.lo
 have hhi := hr.hi
 have hw4 : IntKind.i64.wrap (s.sz - 1) = s.sz - 1 := by rw [IntKind.wrap_i64]; omega
 clear hr h e1
 go_enter Tryz.func86, Tryz.ntmps86
 go_wp2_with fail
 refine (pick_at HA0.out (HR.out.sub (by omega)) 40 (by omega)).mono ?_
 rintro e w1 ⟨x1, rfl, hx1, at0, gk0⟩
 have hy1 : x1 < 40 := by omega
 have hz1 : (x1 : Int) < 40 := by omega
 clear hx1
 have HA1 := hid at0
 have HK1 := hid (HK0.out.trans gk0)
 clear at0 gk0
 clear c0 c4 f4 hw4
 have hf1 : x1 = 0 ∨ ((x1 : Int) == 0) = false := by rcases Nat.eq_zero_or_pos x1 with h | h; exact .inl h; exact .inr (by simp; omega)
 rcases hf1 with rfl | hf1
 ·go_wp2_with fail
  refine (pick_at HA1.out (HR.out.sub (by omega)) 6 (by omega)).mono ?_
  rintro e w2 ⟨x2, rfl, hx2, at0, gk0⟩
  have hy2 : x2 < 6 := by omega
  have hz2 : (x2 : Int) < 6 := by omega
  clear hx2
  have HA2 := hid at0
  have HK2 := hid (HK1.out.trans gk0)
  clear at0 gk0
  go_wp2_with fail
  refine (leaf_at HA2.out (HR.out.sub (by omega)) _).mono ?_
  rintro e w3 hh
  obtain ⟨g3, n3, k3, rfl, l0, at0, gk0⟩ := hh.get
  clear hh
  have HA3 := hid at0
  have HK3 := hid (HK2.out.trans gk0)
  clear at0 gk0
  have HL3 := hid l0
  clear l0
  go_wp2
  go_ret
  exact HL3.out.fin HA3.out HK3.out (by omega) (by omega)
 ·go_wp2_with fail
  refine (leaf_at HA1.out (HR.out.sub (by omega)) _).mono ?_
  rintro e w2 hh
  obtain ⟨g2, n2, k2, rfl, l0, at0, gk0⟩ := hh.get
  clear hh
  have HA2 := hid at0
  have HK2 := hid (HK1.out.trans gk0)
  clear at0 gk0
  have HL2 := hid l0
  clear l0
  go_wp2
  go_ret
  exact HL2.out.fin HA2.out HK2.out (by omega) (by omega)
end Go.Proofs.YtbakebdfmdepnaaGreatDoor
