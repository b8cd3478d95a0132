import Derived.Deep.RegionHeld3
import Derived.Test.YtpobfklbbkdglaaDoorJScope
namespace Go.Proofs.YtpobfklbbkdglaaDoor
open Go.RowKit Go.Maps Go.WideMaps
set_option maxRecDepth 20000
theorem BnAt.cell {W : World} {gb N : Nat} {bn : Nat → Int} (h : BnAt W gb N bn) (k : Nat) (hk : k < N) : W.cell? ⟨gb, k, none⟩ = some (.int .i64 (bn k)) ∧ W.frozen? ⟨gb, k, none⟩ = false := by
  obtain ⟨cur, h1, h2, h3⟩ := h
  constructor
  · unfold World.cell?; rw [h1]; exact h3 k hk
  · unfold World.frozen?; rw [h1]; simp
theorem BnAt.set {W : World} {gb N : Nat} {bn : Nat → Int} (h : BnAt W gb N bn) (k : Nat) (hk : k < N) (v : Int) : BnAt (W.setCell ⟨gb, k, none⟩ (.int .i64 v)) gb N (fun j => if j = k then v else bn j) := by
  obtain ⟨cur, h1, h2, h3⟩ := h
  refine ⟨_, set_at _ h1, by simp [h2], fun i hi => ?_⟩
  by_cases e : i = k
  · subst e
    rw [Array.getElem?_setIfInBounds_self_of_lt (by omega)]; simp
  · rw [Array.getElem?_setIfInBounds_ne (fun e2 => e e2.symm)]
    simp only [if_neg e]
    exact h3 i hi
theorem Bx.At.set {x : Bx} {W : World} {bn : Nat → Int} {c a : Int} (h : x.At W bn c a) (hne : x.bb ≠ x.gb) (k : Nat) (hk : k < x.N) (v : Int) : x.At (W.setCell ⟨x.gb, k, none⟩ (.int .i64 v)) (fun j => if j = k then v else bn j) c a :=
  ⟨(Below.heap_setCell _ _ _ _ (fun e => hne e)).trans h.1, h.2.set k hk v⟩
/-- The kids of each node, in rows of their own. -/
def KG (W : World) (gk N : Nat) (o : List (List Nat)) : Prop := ∀ i, i < N → ∃ ad c, W.cell? ⟨gk, i, none⟩ = some (.slice ad (o.getD i []).length c) ∧ (o.getD i []).length ≤ c ∧ c ≤ maxLen ∧
  (o.getD i [] = [] ∨ ∃ g, ad = some ⟨g, 0, none⟩ ∧ ∀ j, j < (o.getD i []).length → W.cell? ⟨g, j, none⟩ = some (.int .i64 ((o.getD i []).getD j 0 : Nat)))
def Bx.Tree (x : Bx) (W : World) : Prop := NodesAt W x.g x.N x.nd ∧ KG W x.gk x.N x.o
/-- What a binder wants: its tree stays, its texts are no longer than may be. -/
structure Bx.Ok (x : Bx) : Prop where
  ne : x.bb ≠ x.gb
  N : x.N ≤ 5000
  text : ∀ i, i < x.N → (x.nd i).text.size ≤ maxLen
  down : Down x.o
  kidded : ∀ k, k < x.N → Kidded x.nd x.o k
  len : x.o.length = x.N
  g : ¬ x.S x.g
  gk : ¬ x.S x.gk
  kids : ∀ k, (x.o.getD k []).length ≤ 5000
  place : ∀ k, ∀ j ∈ x.o.getD k [], j < x.N
  fit : ∀ k, k < x.N → FitAt x.nd x.o k
set_option maxHeartbeats 1000000 in
theorem uses_any (x : Bx) (hx : x.Ok) (k : Nat) (kn : Env) (a : Option Addr) (bn : Nat → Int) (p : Int × Int) (w : World) (h : x.At w bn p.1 p.2) (ht : x.Tree w) (hk : Kn x.S w (.pointer a) kn) (hkN : k < x.N) :
    Calls Tryd.prog 72 #[.pointer (some ⟨x.bb, 0, none⟩), .int .i64 k, .pointer a] w fun e w' => e = .returned (.tuple #[]) ∧ x.Ends w w' bn p (useE x.nd kn k) := by
  obtain ⟨f0, f1, f2, f3, f4, f5, f6⟩ := h.five
  obtain ⟨c0, c1, c2, c3, c4⟩ := ht.1 k hkN
  obtain ⟨b0, b1⟩ := h.2.cell k hkN
  have H := hid h
  have HX := hid hx
  have HT := hid (hx.text k hkN)
  have HN5 := hx.N
  have HK := hid hk
  clear h hk ht hx
  go_enter Tryd.func72, Tryd.ntmps72
  go_wp2_with fail
  go_region_with (go_at_call 88; refine (maker_any _ _ kn _ _ HT.out (HK.out _ (by repeat (first | exact Sv.refl _ _ | apply Sv.drew)))).mono ?_; rintro e w' ⟨rfl, hw⟩; have hw2 := hw.symm; clear hw; subst hw2)
  all_goals
    have HA : Hid (x.At (w.setCell ⟨x.gb, k, none⟩ (.int .i64 (kn (x.nd k).text))).drew (fun j => if j = k then kn (x.nd k).text else bn j) p.1 p.2) := H.out.set HX.out.ne k hkN _
    have HS1 : Hid (Sv x.S w (w.setCell ⟨x.gb, k, none⟩ (.int .i64 (kn (x.nd k).text))).drew) := ((Sv.refl _ _).setCell (p := ⟨x.gb, k, none⟩) (.inl (.inr rfl)) _).drew
    generalize (w.setCell ⟨x.gb, k, none⟩ (.int .i64 (kn (x.nd k).text))).drew = w1 at *
    clear f0 f1 f2 f3 f4 f5 f6 b0 b1 c0 c1 c2 c3 c4
    obtain ⟨f0, f1, f2, f3, f4, f5, f6⟩ := HA.out.five
    obtain ⟨b0, b1⟩ := HA.out.2.cell k hkN
    simp only [if_true] at b0
    by_cases hm : kn (x.nd k).text = -1
    · have HM := hid hm
      rw [hm] at b0
      clear hm
      go_wp2_with (first
        | (go_at_call 89; refine (finds_any x 9 k _ p _ HA.out HX.out.ne).mono ?_; rintro e w' ⟨rfl, hw⟩))
      go_end0
      obtain ⟨hs, bn', ha, _⟩ := hw
      have e : useE x.nd kn k = [.bind k (kn (x.nd k).text), .flt k 9] := by unfold useE; rw [if_pos HM.out]
      rw [e]
      exact ⟨rfl, HS1.out.trans hs, bn', ha, fun h => by cases h⟩
    · have HM := hid hm
      have hq : (kn (x.nd k).text == -1) = false := by rw [beq_eq_false_iff_ne]; exact hm
      clear hm
      go_wp2
      go_end0
      have e : useE x.nd kn k = [.bind k (kn (x.nd k).text)] := by unfold useE; rw [if_neg HM.out]
      rw [e]
      exact ⟨rfl, HS1.out, _, HA.out, fun _ => rfl⟩
end Go.Proofs.YtpobfklbbkdglaaDoor
namespace Go.Proofs.YtpobfklbbkdglaaDoor
open Go.RowKit Go.Maps Go.WideMaps
set_option maxRecDepth 20000
set_option maxHeartbeats 1000000 in
theorem makes_any (x : Bx) (hx : x.Ok) (k : Nat) (kn : Env) (a : Option Addr) (bn : Nat → Int) (p : Int × Int) (w : World) (h : x.At w bn p.1 p.2) (ht : x.Tree w) (hk : Kn x.S w (.pointer a) kn) (hkN : k < x.N) :
    Calls Tryd.prog 76 #[.pointer (some ⟨x.bb, 0, none⟩), .int .i64 k, .pointer a] w fun e w' => e = .returned (.tuple #[]) ∧ x.Ends w w' bn p (mkE x.nd kn k) := by
  obtain ⟨f0, f1, f2, f3, f4, f5, f6⟩ := h.five
  obtain ⟨c0, c1, c2, c3, c4⟩ := ht.1 k hkN
  have H := hid h
  have HX := hid hx
  have HT := hid (hx.text k hkN)
  have HN5 := hx.N
  have HK := hid hk.now
  clear h hk ht hx
  go_enter Tryd.func76, Tryd.ntmps76
  by_cases hm : kn (x.nd k).text = (k : Int)
  · have HM := hid hm
    clear hm
    go_wp2_with (first
      | (go_at_call 88; refine (maker_any _ _ kn _ _ HT.out HK.out).mono ?_; rintro e w' ⟨rfl, hw⟩; have hw2 := hw.symm; clear hw; subst hw2; rw [HM.out]))
    go_end0
    have e : mkE x.nd kn k = [] := by unfold mkE; rw [if_pos HM.out]
    rw [e]
    exact ⟨rfl, Bx.Ends.nil H.out⟩
  · have HM := hid hm
    have hq : (kn (x.nd k).text != (k : Int)) = true := by rw [bne_iff_ne]; exact hm
    clear hm
    go_wp2_with (first
      | (go_at_call 88; refine (maker_any _ _ kn _ _ HT.out HK.out).mono ?_; rintro e w' ⟨rfl, hw⟩; have hw2 := hw.symm; clear hw; subst hw2)
      | (go_at_call 89; refine (finds_any x 8 k bn p _ H.out HX.out.ne).mono ?_; rintro e w' ⟨rfl, hw⟩))
    go_end0
    have e : mkE x.nd kn k = [.flt k 8] := by unfold mkE; rw [if_neg HM.out]
    rw [e]
    exact ⟨rfl, hw⟩
/-- A list of places, from anywhere. -/
def PlA (W : World) (ad : Option Addr) (ks : List Nat) : Prop := ks = [] ∨ ∃ g q, ad = some ⟨g, q, none⟩ ∧ ∀ i, i < ks.length → W.cell? ⟨g, q + i, none⟩ = some (.int .i64 (ks.getD i 0 : Nat))
theorem Bx.Ends.more {x : Bx} {w w1 w2 : World} {bn : Nat → Int} {p : Int × Int} {e1 e2 : List Ev} (h1 : x.Ends w w1 bn p e1) (h2 : ∀ bn', x.At w1 bn' (ft p (fls e1)).1 (ft p (fls e1)).2 → (fls e1 = [] → bn' = apB bn e1) → x.Ends w1 w2 bn' (ft p (fls e1)) e2) : x.Ends w w2 bn p (e1 ++ e2) := by
  obtain ⟨s1, b1, a1, n1⟩ := h1
  obtain ⟨s2, b2, a2, n2⟩ := h2 b1 a1 n1
  refine ⟨s1.trans s2, b2, by rw [fls_append, ft_append]; exact a2, fun h => ?_⟩
  rw [fls_append] at h
  obtain ⟨e1, e2⟩ := List.append_eq_nil_iff.1 h
  rw [n2 e2, n1 e1, apB_append]
def WalkOk (x : Bx) (k : Nat) : Prop := ∀ (kn : Env) (a : Option Addr) (bn : Nat → Int) (p : Int × Int) (w : World), x.At w bn p.1 p.2 → Stb x.S w x.Tree → Kn x.S w (.pointer a) kn →
  Calls Tryd.prog 51 #[.pointer (some ⟨x.bb, 0, none⟩), .int .i64 k, .pointer a] w fun e w' => e = .returned (.tuple #[]) ∧ x.Ends w w' bn p (wk x.nd x.o k kn)
/-- The same, whatever the node does. -/
def WalksTo (x : Bx) (k : Nat) (E : Env → List Ev) (kn : Env) : Prop := ∀ (a : Option Addr) (bn : Nat → Int) (p : Int × Int) (w : World), x.At w bn p.1 p.2 → Stb x.S w x.Tree → Kn x.S w (.pointer a) kn →
  Calls Tryd.prog 51 #[.pointer (some ⟨x.bb, 0, none⟩), .int .i64 k, .pointer a] w fun e w' => e = .returned (.tuple #[]) ∧ x.Ends w w' bn p (E kn)
set_option maxHeartbeats 1000000 in
theorem walkAll_of (x : Bx) (ks : List Nat) (kn : Env) (E : Nat → Env → List Ev) (hw : ∀ j ∈ ks, WalksTo x j (E j) kn) (ad : Option Addr) (cp : Nat) (a : Option Addr) (bn : Nat → Int) (p : Int × Int) (w : World) (hl : ks.length ≤ 5000) (hp : Stb x.S w fun W => PlA W ad ks) (h : x.At w bn p.1 p.2) (ht : Stb x.S w x.Tree) (hk : Kn x.S w (.pointer a) kn) :
    Calls Tryd.prog 73 #[.pointer (some ⟨x.bb, 0, none⟩), .slice ad ks.length cp, .pointer a] w fun e w' => e = .returned (.tuple #[]) ∧ x.Ends w w' bn p (ks.flatMap fun j => E j kn) := by
  have HW := hid hw
  have HP := hid hp
  have H := hid h
  have HT := hid ht
  have HK := hid hk
  clear hw hp h ht hk
  obtain ⟨m, hm⟩ : ∃ m, ks.length = m := ⟨_, rfl⟩
  have HL := hid hm
  rw [hm] at hl ⊢
  clear hm
  go_enter Tryd.func73, Tryd.ntmps73
  go_wp2
  go_loopw [10] (fun i wr => ∃ j : Nat, j ≤ m ∧ i = .int .i64 j ∧ x.Ends w wr bn p ((ks.take j).flatMap fun j => E j kn)) (fun i _ => m - (intOf i).toNat)
  case atStart => exact ⟨0, Nat.zero_le _, rfl, Bx.Ends.nil H.out⟩
  case round =>
    obtain ⟨j, hj, rfl, hen⟩ := hrel
    have HEN := hid hen
    clear hen
    by_cases hlt : j < m
    · have hpl := HP.out _ HEN.out.1
      rcases hpl with e | ⟨g, q, rfl, hc⟩
      · have := HL.out; rw [e] at this; simp at this; omega
      have c0 := hc j (by have := HL.out; omega)
      obtain ⟨y, hy⟩ : ∃ y, ks.getD j 0 = y := ⟨_, rfl⟩
      have HY := hid hy
      rw [hy] at c0
      clear hc hy
      have hmem : y ∈ ks := by
        rw [← HY.out, List.getD_eq_getElem?_getD, List.getElem?_eq_getElem (by have := HL.out; omega)]
        simp
      have HMEM := hid hmem
      obtain ⟨hs1, bn1, ha1, hn1⟩ := HEN.out
      have HA1 := hid (And.intro hs1 (And.intro ha1 hn1))
      clear hmem hs1 ha1 hn1
      go_wp2_with (first
        | (go_at_call 51; refine (HW.out y HMEM.out a bn1 (ft p (fls ((ks.take j).flatMap fun j => E j kn))) _ HA1.out.2.1 (HT.out.go HA1.out.1) (HK.out.go HA1.out.1)).mono ?_; rintro e w1 ⟨rfl, hen1⟩; have HE1 := hid hen1; clear hen1))
      have HNX : Hid (x.Ends w w1 bn p ((ks.take (j + 1)).flatMap fun j => E j kn)) := by
        rw [List.take_succ_eq_append_getElem (by have := HL.out; omega)]
        have e : ks[j]'(by have := HL.out; omega) = y := by rw [← HY.out, List.getD_eq_getElem?_getD, List.getElem?_eq_getElem (by have := HL.out; omega)]; simp
        rw [e, List.flatMap_append]
        have h1 : x.Ends w wr bn p ((ks.take j).flatMap fun j => E j kn) := ⟨HA1.out.1, bn1, HA1.out.2⟩
        obtain ⟨s2, b2, a2, n2⟩ := HE1.out
        have e2 : [y].flatMap (fun j => E j kn) = E y kn := by simp
        rw [e2]
        refine ⟨HA1.out.1.trans s2, b2, by rw [fls_append, ft_append]; exact a2, fun h => ?_⟩
        rw [fls_append] at h
        obtain ⟨e3, e4⟩ := List.append_eq_nil_iff.1 h
        rw [n2 e4, HA1.out.2.2 e3, apB_append]
      go_wp2
      go_roundw
      case rel => exact ⟨j + 1, by omega, by go_num, HNX.out⟩
      case measure => simp [intOf]; omega
    · obtain rfl : j = m := by omega
      have HEND : Hid (x.Ends w wr bn p (ks.flatMap fun j => E j kn)) := by
        have := HEN.out
        rw [List.take_of_length_le (by have := HL.out; omega)] at this
        exact this
      go_wp2
      go_end0
      exact ⟨rfl, HEND.out⟩
end Go.Proofs.YtpobfklbbkdglaaDoor
