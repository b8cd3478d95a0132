import Derived.Test.YtbakebdfmdepnaaGreatDoorJ00
namespace Go.Proofs.YtbakebdfmdepnaaGreatDoor
open Go.RowKit
def Says (e : Ending) (P : Prop) : Prop := ∃ b, e = .returned (.bool b) ∧ (b = true ↔ P)
theorem says_t {P : Prop} (h : P) : Says (.returned (.bool true)) P := ⟨true, rfl, by simp [h]⟩
theorem says_f {P : Prop} (h : ¬ P) : Says (.returned (.bool false)) P := ⟨false, rfl, by simp [h]⟩
theorem Says.get {e : Ending} {P : Prop} (h : Says e P) : e = .returned (.bool true) ∧ P ∨ e = .returned (.bool false) ∧ ¬ P := by
 obtain ⟨b, rfl, hb⟩ := h
 cases b
 ·exact .inr ⟨rfl, fun h => by simp [h] at hb⟩
 ·exact .inl ⟨rfl, hb.1 rfl⟩
set_option maxHeartbeats 400000 in
theorem l1In_any (x lo hi : Int) (w : World) :
  Calls Tryz.prog 23 #[.int .i64 x, .int .i64 lo, .int .i64 hi] w fun e w' => e = .returned (.bool (inR x lo hi)) ∧ w' = w := by
 go_enter Tryz.func23, Tryz.ntmps23
 go_wp2
 all_goals go_ret
 all_goals exact ⟨ret_bool (by unfold inR; rw [Bool.eq_iff_iff]; simp; try omega), rfl⟩
set_option maxHeartbeats 400000 in
theorem l2E_any (x : Int) (w : World) :
  Calls Tryz.prog 47 #[.int .i64 x] w fun e w' => e = .returned (.bool (isE x)) ∧ w' = w := by
 go_enter Tryz.func47, Tryz.ntmps47
 go_wp2_with (go_at_call 23; refine (l1In_any _ _ _ _).mono ?_; rintro e w' ⟨rfl, rfl⟩)
 go_ret
 exact ⟨rfl, rfl⟩
set_option maxHeartbeats 1000000 in
theorem l2Package_any (s : ByteArray) (w : World) (hs : s.size ≤ maxLen) :
  Calls Tryz.prog 45 #[.string s] w fun e w' => Says e (PkgOk s) ∧ w' = w := by
 unfold maxLen at hs
 by_cases h1 : 1 ≤ s.size ∧ s.size ≤ 30
 ·obtain ⟨h1, h2⟩ := h1
  have HIN : Hid (inR (s.size : Int) 1 30 = true) := by show _ = _; unfold inR; simp; omega
  go_enter Tryz.func45, Tryz.ntmps45
  go_wp2_with (go_at_call 23; refine (l1In_any _ _ _ _).mono ?_; rintro e w' ⟨rfl, rfl⟩; rw [HIN.out])
  go_loop [3] (fun i => ∃ k : Nat, k ≤ s.size ∧ i = .int .i64 k ∧ ∀ j (h : j < s.size), j < k → pkgB s[j] = true) (fun i => s.size - (intOf i).toNat)
  case atStart => exact ⟨0, Nat.zero_le _, rfl, fun j h h0 => absurd h0 (Nat.not_lt_zero _)⟩
  case round =>
   obtain ⟨k, hk, rfl, hr⟩ := hrel
   have HR := hid hr
   clear hr
   by_cases hlt : k < s.size
   ·cases hd : dig (s[k].toNat : Int)
    all_goals cases hp : pkg_ (s[k].toNat : Int)
    ·have HE : Hid (¬ PkgOk s) := fun h => by have := h.2.2 k hlt; unfold pkgB at this; rw [hp] at this; cases this
     unfold pkg_ at hp
     rw [hd] at hp
     simp at hp
     obtain ⟨⟨⟨⟨p0, p1⟩, p2⟩, p3⟩, p4⟩ := hp
     have p5 : (s[k].toNat : Int) < 97 ∨ 122 < (s[k].toNat : Int) := by
      by_cases q : 97 ≤ (s[k].toNat : Int)
      ·exact .inr (p0 q)
      ·exact .inl (by omega)
     clear p0
     go_wp2_with (go_at_call 70; refine (l1Digit_any _ _).mono ?_; rintro e w' ⟨rfl, rfl⟩)
     all_goals first
      | (exfalso; (try simp only [bne_iff_ne, bne_eq_false_iff_eq, ne_eq, Bool.not_eq_eq_eq_not, Bool.not_true, Bool.not_false, decide_eq_true_eq, decide_eq_false_iff_not] at *); omega)
      | (go_ret; exact ⟨says_f HE.out, rfl⟩)
    ·have NX : Hid (∀ j (h : j < s.size), j < k + 1 → pkgB s[j] = true) := fun j h hj => by
      rcases Nat.lt_or_eq_of_le (Nat.lt_succ_iff.1 hj) with h' | h'
      ·exact HR.out j h h'
      ·subst h'; exact hp
     unfold pkg_ at hp
     rw [hd] at hp
     simp at hp
     go_wp2_with (go_at_call 70; refine (l1Digit_any _ _).mono ?_; rintro e w' ⟨rfl, rfl⟩)
     all_goals first
      | (exfalso; (try simp only [bne_iff_ne, bne_eq_false_iff_eq, ne_eq] at *); omega)
      | (go_round; (case rel => exact ⟨k + 1, by omega, by go_num, NX.out⟩); (case measure => simp [intOf]; omega))
    ·exfalso; unfold pkg_ at hp; rw [hd] at hp; simp at hp
    ·have NX : Hid (∀ j (h : j < s.size), j < k + 1 → pkgB s[j] = true) := fun j h hj => by
      rcases Nat.lt_or_eq_of_le (Nat.lt_succ_iff.1 hj) with h' | h'
      ·exact HR.out j h h'
      ·subst h'; exact hp
     clear hp
     go_wp2_with (go_at_call 70; refine (l1Digit_any _ _).mono ?_; rintro e w' ⟨rfl, rfl⟩)
     all_goals first
      | (exfalso; omega)
      | (go_round; (case rel => exact ⟨k + 1, by omega, by go_num, NX.out⟩); (case measure => simp [intOf]; omega))
   ·go_wp2
    go_ret
    exact ⟨says_t ⟨h1, h2, fun i h => HR.out i h (by omega)⟩, rfl⟩
 ·have HIN : Hid (inR (s.size : Int) 1 30 = false) := by show _ = _; unfold inR; simp; omega
  go_enter Tryz.func45, Tryz.ntmps45
  go_wp2_with (go_at_call 23; refine (l1In_any _ _ _ _).mono ?_; rintro e w' ⟨rfl, rfl⟩; rw [HIN.out])
  go_ret
  exact ⟨says_f (fun h => h1 ⟨h.1, h.2.1⟩), rfl⟩
set_option maxHeartbeats 1000000 in
theorem l1NameOk_any (s : ByteArray) (w : World) (hs : s.size ≤ maxLen) :
  Calls Tryz.prog 46 #[.string s] w fun e w' => Says e (NameOk s) ∧ Below w.heap.size w w' := by
 unfold maxLen at hs
 by_cases h1 : 1 ≤ s.size ∧ s.size ≤ 30
 ·obtain ⟨h1, h2⟩ := h1
  have h0 : 0 < s.size := h1
  have HIN : Hid (inR (s.size : Int) 1 30 = true) := by show _ = _; unfold inR; simp; omega
  cases hb : beg (s[0].toNat : Int)
  ·have HE : Hid (¬ NameOk s) := fun ⟨_, _, h, _⟩ => by unfold begB at h; rw [hb] at h; cases h
   go_enter Tryz.func46, Tryz.ntmps46
   go_wp2_with (first
    | (go_at_call 23; refine (l1In_any _ _ _ _).mono ?_; rintro e w' ⟨rfl, rfl⟩; rw [HIN.out])
    | (go_at_call 71; refine (l1Begins_any _ _).mono ?_; rintro e w' ⟨rfl, rfl⟩))
   go_ret
   exact ⟨says_f HE.out, Below.refl _ _⟩
  ·by_cases hw : s.data.toList ∈ words
   ·have HE : Hid (¬ NameOk s) := fun ⟨_, _, _, h, _⟩ => h hw
    have HW : Hid (decide (s.data.toList ∈ words) = true) := by show _ = _; simp [hw]
    clear hw
    go_enter Tryz.func46, Tryz.ntmps46
    go_wp2_with (first
     | (go_at_call 23; refine (l1In_any _ _ _ _).mono ?_; rintro e w' ⟨rfl, hw⟩; have hw2 := hw.symm; clear hw; subst hw2; rw [HIN.out])
     | (go_at_call 71; refine (l1Begins_any _ _).mono ?_; rintro e w' ⟨rfl, hw⟩; have hw2 := hw.symm; clear hw; subst hw2)
     | (go_at_call 73; refine (l1Words_any _).mono ?_; rintro e w' ⟨rfl, rfl⟩)
     | (go_at_call 72; refine (l1Has_words _ _ w.heap.size (fun i hi => wordS_cell w i hi)).mono ?_; rintro e w' ⟨rfl, rfl⟩; rw [HW.out]))
    go_ret
    exact ⟨says_f HE.out, (Below.refl _ _).alloc (Nat.le_refl _) _⟩
   ·have HNW := hid hw
    have HW : Hid (decide (s.data.toList ∈ words) = false) := by show _ = _; simp [hw]
    clear hw
    go_enter Tryz.func46, Tryz.ntmps46
    go_wp2_with (first
     | (go_at_call 23; refine (l1In_any _ _ _ _).mono ?_; rintro e w' ⟨rfl, hw⟩; have hw2 := hw.symm; clear hw; subst hw2; rw [HIN.out])
     | (go_at_call 71; refine (l1Begins_any _ _).mono ?_; rintro e w' ⟨rfl, hw⟩; have hw2 := hw.symm; clear hw; subst hw2)
     | (go_at_call 73; refine (l1Words_any _).mono ?_; rintro e w' ⟨rfl, rfl⟩)
     | (go_at_call 72; refine (l1Has_words _ _ w.heap.size (fun i hi => wordS_cell w i hi)).mono ?_; rintro e w' ⟨rfl, hw⟩; have hw2 := hw.symm; clear hw; subst hw2; rw [HW.out]))
    go_loop [3] (fun i => ∃ k : Nat, k ≤ s.size ∧ i = .int .i64 k ∧ ∀ j (h : j < s.size), j < k → letB s[j] = true) (fun i => s.size - (intOf i).toNat)
    case atStart => exact ⟨0, Nat.zero_le _, rfl, fun j h h0 => absurd h0 (Nat.not_lt_zero _)⟩
    case round =>
     obtain ⟨k, hk, rfl, hr⟩ := hrel
     have HR := hid hr
     clear hr
     by_cases hlt : k < s.size
     ·cases hp : let_ (s[k].toNat : Int)
      ·have HE : Hid (¬ NameOk s) := fun ⟨_, _, _, _, h⟩ => by have := h k hlt; unfold letB at this; rw [hp] at this; cases this
       go_wp2_with (go_at_call 74; refine (l1Letter_any _ _).mono ?_; rintro e w' ⟨rfl, rfl⟩)
       go_ret
       exact ⟨says_f HE.out, (Below.refl _ _).alloc (Nat.le_refl _) _⟩
      ·have NX : Hid (∀ j (h : j < s.size), j < k + 1 → letB s[j] = true) := fun j h hj => by
        rcases Nat.lt_or_eq_of_le (Nat.lt_succ_iff.1 hj) with h' | h'
        ·exact HR.out j h h'
        ·subst h'; exact hp
       go_wp2_with (go_at_call 74; refine (l1Letter_any _ _).mono ?_; rintro e w' ⟨rfl, rfl⟩)
       go_round
       case rel => exact ⟨k + 1, by omega, by go_num, NX.out⟩
       case measure => simp [intOf]; omega
     ·go_wp2
      go_ret
      exact ⟨says_t ⟨h0, h2, hb, HNW.out, fun i h => HR.out i h (by omega)⟩, (Below.refl _ _).alloc (Nat.le_refl _) _⟩
 ·have HIN : Hid (inR (s.size : Int) 1 30 = false) := by show _ = _; unfold inR; simp; omega
  go_enter Tryz.func46, Tryz.ntmps46
  go_wp2_with (go_at_call 23; refine (l1In_any _ _ _ _).mono ?_; rintro e w' ⟨rfl, rfl⟩; rw [HIN.out])
  go_ret
  exact ⟨says_f (fun ⟨a, b, _⟩ => h1 ⟨a, b⟩), Below.refl _ _⟩
end Go.Proofs.YtbakebdfmdepnaaGreatDoor
namespace Go.Proofs.YtbakebdfmdepnaaGreatDoor
open Go.RowKit
set_option maxRecDepth 20000
def ndV (x : Nd) : Value := .agg #[.int .i64 x.kind, .int .i64 x.op, .int .i64 x.n, .string x.text, .int .i64 x.kids]
theorem l1In_dec (x lo hi : Int) (w : World) :
  Calls Tryz.prog 23 #[.int .i64 x, .int .i64 lo, .int .i64 hi] w fun e w' => e = .returned (.bool (decide (lo ≤ x) && decide (x ≤ hi))) ∧ w' = w := l1In_any x lo hi w
def Pl1 (k : Int) : Prop := ∀ (op n kids : Int) (t : ByteArray) (w : World), t.size ≤ maxLen → Calls Tryz.prog 25 #[ndV ⟨k, op, n, t, kids⟩] w fun e w' => Says e (PlainNd ⟨k, op, n, t, kids⟩) ∧ Below w.heap.size w w'
def FiveAt (W : World) (b i : Nat) (x : Nd) : Prop :=
 W.cell? ⟨b, i * 5, none⟩ = some (.int .i64 x.kind) ∧ W.cell? ⟨b, i * 5 + 1, none⟩ = some (.int .i64 x.op) ∧ W.cell? ⟨b, i * 5 + 2, none⟩ = some (.int .i64 x.n) ∧ W.cell? ⟨b, i * 5 + 3, none⟩ = some (.string x.text) ∧ W.cell? ⟨b, i * 5 + 4, none⟩ = some (.int .i64 x.kids)
theorem FiveAt.below {W W' : World} {B b i : Nat} {x : Nd} (h : FiveAt W b i x) (hb : Below B W W') (hB : b < B) : FiveAt W' b i x := by
 obtain ⟨h0, h1, h2, h3, h4⟩ := h
 exact ⟨(hb.cell (p := ⟨b, _, none⟩) hB).trans h0, (hb.cell (p := ⟨b, _, none⟩) hB).trans h1, (hb.cell (p := ⟨b, _, none⟩) hB).trans h2, (hb.cell (p := ⟨b, _, none⟩) hB).trans h3, (hb.cell (p := ⟨b, _, none⟩) hB).trans h4⟩
def PlacesAt (W : World) (g o m N : Nat) (ks : Nat → Nat) : Prop := ∀ i, i < m → W.cell? ⟨g, o + i, none⟩ = some (.int .i64 (ks i)) ∧ ks i < N
theorem PlacesAt.below {W W' : World} {B g o m N : Nat} {ks : Nat → Nat} (h : PlacesAt W g o m N ks) (hb : Below B W W') (hB : g < B) : PlacesAt W' g o m N ks := fun i hi =>
 ⟨(hb.cell (p := ⟨g, _, none⟩) hB).trans (h i hi).1, (h i hi).2⟩
def NodesAt (W : World) (b N : Nat) (nd : Nat → Nd) : Prop := ∀ i, i < N → FiveAt W b i (nd i)
theorem NodesAt.below {W W' : World} {B b N : Nat} {nd : Nat → Nd} (h : NodesAt W b N nd) (hb : Below B W W') (hB : b < B) : NodesAt W' b N nd := fun i hi => (h i hi).below hb hB
theorem btree {w wr : World} {X : Obj} (h : Below (w.heap.size + 1) (w.alloc X) wr) : Below w.heap.size w wr :=
 Below.trans ((Below.refl w.heap.size w).alloc (Nat.le_refl _) X) (h.mono (B' := w.heap.size) (Nat.le_succ _))
theorem tree_cell {w wr : World} {v : Value} {t : TypeId} (h : Below (w.heap.size + 1) (w.alloc (.cells #[v] t)) wr) : wr.cell? ⟨w.heap.size, 0, none⟩ = some v := by
 rw [h.cell (p := ⟨w.heap.size, 0, none⟩) (Nat.lt_succ_self _), cell_new_row]; rfl
set_option maxHeartbeats 1000000 in
theorem l2Apart_any (b N cap g o m c : Nat) (nd : Nat → Nd) (ks : Nat → Nat) (w : World) (hm : m ≤ 1000000) (hb : b < w.heap.size) (hg : g < w.heap.size) (hn : NodesAt w b N nd) (hk : PlacesAt w g o m N ks) :
  Calls Tryz.prog 48 #[.agg #[.slice (some ⟨b, 0, none⟩) N cap], .slice (some ⟨g, o, none⟩) m c] w fun e w' => Says e (Apart m (fun i => nd (ks i))) ∧ Below w.heap.size w w' := by
 have HN := hid hn
 have HK := hid hk
 clear hn hk
 go_enter Tryz.func48, Tryz.ntmps48
 go_wp2
 go_loopw [5] (fun i wr => ∃ j : Nat, j ≤ m ∧ i = .int .i64 j ∧ Apart j (fun i => nd (ks i)) ∧ Below (w.heap.size + 1) (w.alloc (.cells #[.slice (some ⟨b, 0, none⟩) N cap] 25)) wr) (fun i _ => m - (intOf i).toNat)
 case atStart => exact ⟨0, Nat.zero_le _, rfl, fun i h => absurd h (Nat.not_lt_zero _), Below.refl _ _⟩
 case round =>
  obtain ⟨j, hj, rfl, hap, hbw⟩ := hrel
  have HAP := hid hap
  have HBW := hid hbw
  clear hap hbw
  by_cases hlt : j < m
  ·go_wp2
   go_loopw [6] (fun i wr => ∃ q : Nat, q ≤ j ∧ i = .int .i64 q ∧ (∀ i, i < q → ¬ (nd (ks i)).text = (nd (ks j)).text) ∧ Below (w.heap.size + 1) (w.alloc (.cells #[.slice (some ⟨b, 0, none⟩) N cap] 25)) wr) (fun i _ => j - (intOf i).toNat)
   case atStart => exact ⟨0, Nat.zero_le _, rfl, fun i h => absurd h (Nat.not_lt_zero _), HBW.out⟩
   case round =>
    rename_i wo wr
    obtain ⟨q, hq, rfl, hin, hbw⟩ := hrel
    have HQ := hid hin
    have HB2 := hid hbw
    clear hin hbw
    by_cases hl2 : q < j
    ·have t0 := tree_cell HB2.out
     have HNr := HN.out.below (btree HB2.out) hb
     have HKr := HK.out.below (btree HB2.out) hg
     obtain ⟨a0, a1⟩ := HKr q (Nat.lt_trans hl2 hlt)
     obtain ⟨b0, b1⟩ := HKr j hlt
     obtain ⟨_, _, _, a2, _⟩ := HNr (ks q) a1
     obtain ⟨_, _, _, b2, _⟩ := HNr (ks j) b1
     have HNr2 := hid HNr
     have HKr2 := hid HKr
     clear HNr HKr
     cases ht : ((nd (ks q)).text.toList == (nd (ks j)).text.toList)
     ·have HNE : Hid (¬ (nd (ks q)).text = (nd (ks j)).text) := fun h => by rw [h] at ht; simp at ht
      go_wp2
      go_region
      go_wp2
      go_roundw
      case rel => exact ⟨q + 1, by omega, by go_num, fun i hi => by
       rcases Nat.lt_or_eq_of_le (Nat.lt_succ_iff.1 hi) with h | h
       ·exact HQ.out i h
       ·subst h; exact HNE.out, HB2.out.drew⟩
      case measure => simp [intOf]; omega
     ·have HEQ : Hid ((nd (ks q)).text = (nd (ks j)).text) := bytes_eq ht
      go_wp2
      go_region
      go_wp2
      go_ret
      exact ⟨says_f (fun h => h j hlt q hl2 HEQ.out), (btree HB2.out).drew⟩
    ·go_wp2
     go_roundw
     case rel => exact ⟨j + 1, by omega, by go_num, fun i hi k hk => by
      rcases Nat.lt_or_eq_of_le (Nat.lt_succ_iff.1 hi) with h | h
      ·exact HAP.out i h k hk
      ·subst h; exact HQ.out k (by omega), HB2.out⟩
     case measure => simp [intOf]; omega
  ·go_wp2
   go_ret
   obtain rfl : j = m := by omega
   exact ⟨says_t HAP.out, btree HBW.out⟩
end Go.Proofs.YtbakebdfmdepnaaGreatDoor
