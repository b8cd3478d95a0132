import Derived.Test.YtbakebdfmdepnaaGreatDoorJ01
import Derived.Test.YtbakebdfmdepnaaGreatDoorJ02
import Derived.Test.YtbakebdfmdepnaaGreatDoorJ04
import Derived.Test.YtbakebdfmdepnaaGreatDoorJ03
namespace Go.Proofs.YtbakebdfmdepnaaGreatDoor
open Go.RowKit
set_option maxRecDepth 20000
set_option maxHeartbeats 4000000 in
theorem l2Plain_E (k : Int) (hk : k < 1 ∨ 24 < k) : Pl1 k := by
 intro op n kids t w ht
 unfold ndV
 have HT := hid ht
 clear ht
 have e2 : (k == 2) = false := by simp; omega
 have n2 : (k != 2) = true := by simp; omega
 have q2 : ¬ k = 2 := by omega
 have e3 : (k == 3) = false := by simp; omega
 have n3 : (k != 3) = true := by simp; omega
 have q3 : ¬ k = 3 := by omega
 have e4 : (k == 4) = false := by simp; omega
 have n4 : (k != 4) = true := by simp; omega
 have q4 : ¬ k = 4 := by omega
 have e5 : (k == 5) = false := by simp; omega
 have n5 : (k != 5) = true := by simp; omega
 have q5 : ¬ k = 5 := by omega
 have e6 : (k == 6) = false := by simp; omega
 have n6 : (k != 6) = true := by simp; omega
 have q6 : ¬ k = 6 := by omega
 have e7 : (k == 7) = false := by simp; omega
 have n7 : (k != 7) = true := by simp; omega
 have q7 : ¬ k = 7 := by omega
 have e11 : (k == 11) = false := by simp; omega
 have n11 : (k != 11) = true := by simp; omega
 have q11 : ¬ k = 11 := by omega
 have e14 : (k == 14) = false := by simp; omega
 have n14 : (k != 14) = true := by simp; omega
 have q14 : ¬ k = 14 := by omega
 have e17 : (k == 17) = false := by simp; omega
 have n17 : (k != 17) = true := by simp; omega
 have q17 : ¬ k = 17 := by omega
 have e23 : (k == 23) = false := by simp; omega
 have n23 : (k != 23) = true := by simp; omega
 have q23 : ¬ k = 23 := by omega
 have r1 : (decide (16 ≤ k) && decide (k ≤ 21)) = false := by simp; omega
 have r2 : 16 ≤ k → 21 < k := by omega
 clear hk
 go_enter Tryz.func25, Tryz.ntmps25
 go_wp2_with (first
  | (go_at_call 23; refine (l1In_dec _ _ _ _).mono ?_; rintro e w' ⟨rfl, rfl⟩)
  | (go_at_call 45; refine (l2Package_any t _ HT.out).mono ?_; rintro e w' ⟨hs, rfl⟩; rcases hs.get with ⟨rfl, hp⟩ | ⟨rfl, hp⟩)
  | (go_at_call 46; refine (l1NameOk_any t _ HT.out).mono ?_; rintro e w1 ⟨hs, hb⟩; rcases hs.get with ⟨rfl, hp⟩ | ⟨rfl, hp⟩))
 all_goals go_ret
 all_goals refine ⟨⟨_, rfl, ?_⟩, ?_⟩
 all_goals first
  | exact (Below.refl w.heap.size w).alloc (Nat.le_refl _) _
  | exact Below.trans ((Below.refl w.heap.size w).alloc (Nat.le_refl _) _) (Below.mono hb (B' := w.heap.size) (by simp))
  | (simp [PlainNd, hasText, inR, *]; done)
  | ((try simp only [bne_iff_ne, bne_eq_false_iff_eq, ne_eq] at *); (try simp [PlainNd, hasText, inR, *]); done)
end Go.Proofs.YtbakebdfmdepnaaGreatDoor
namespace Go.Proofs.YtbakebdfmdepnaaGreatDoor
open Go.RowKit
theorem l2Plain_any (x : Nd) (w : World) (ht : x.text.size ≤ maxLen) :
  Calls Tryz.prog 25 #[ndV x] w fun e w' => Says e (PlainNd x) ∧ Below w.heap.size w w' := by
 obtain ⟨k, op, n, t, kids⟩ := x
 have h : Pl1 k := by
  by_cases a : k = 1 ∨ k = 2 ∨ k = 3 ∨ k = 4 ∨ k = 5 ∨ k = 6
  ·exact l2Plain_A k a
  ·by_cases b : k = 7 ∨ k = 8 ∨ k = 9 ∨ k = 10 ∨ k = 11 ∨ k = 12
   ·exact l2Plain_B k b
   ·by_cases c : k = 13 ∨ k = 14 ∨ k = 15 ∨ k = 16 ∨ k = 17 ∨ k = 18
    ·exact l2Plain_C k c
    ·by_cases d : k = 19 ∨ k = 20 ∨ k = 21 ∨ k = 22 ∨ k = 23 ∨ k = 24
     ·exact l2Plain_D k d
     ·exact l2Plain_E k (by omega)
 exact h op n kids t w ht
end Go.Proofs.YtbakebdfmdepnaaGreatDoor
namespace Go.Proofs.YtbakebdfmdepnaaGreatDoor
open Go.RowKit Go.Maps Go.WideMaps
set_option maxRecDepth 20000
structure Sv (S : Nat → Prop) (w w' : World) : Prop where
 os : w'.os = w.os
 tape : w'.tape = w.tape
 output : w'.output = w.output
 size : w.heap.size ≤ w'.heap.size
 block : ∀ k, k < w.heap.size → ¬ S k → w'.heap[k]? = w.heap[k]?
theorem Sv.refl (S : Nat → Prop) (w : World) : Sv S w w := ⟨rfl, rfl, rfl, Nat.le_refl _, fun _ _ _ => rfl⟩
theorem Sv.trans {S : Nat → Prop} {a b c : World} (h : Sv S a b) (k : Sv S b c) : Sv S a c :=
 ⟨k.os.trans h.os, k.tape.trans h.tape, k.output.trans h.output, Nat.le_trans h.size k.size, fun i hi hs => (k.block i (Nat.lt_of_lt_of_le hi h.size) hs).trans (h.block i hi hs)⟩
theorem Sv.of_below {S : Nat → Prop} {a b : World} (h : Below a.heap.size a b) : Sv S a b := ⟨h.os, h.tape, h.output, h.size, fun k hk _ => h.block k hk⟩
theorem Sv.below {S : Nat → Prop} {a b : World} (h : Sv S a b) {B : Nat} (hB : B ≤ a.heap.size) (hS : ∀ k, S k → B ≤ k) : Below B a b := ⟨h.os, h.tape, h.output, h.size, fun k hk => h.block k (by omega) fun hs => by have := hS k hs; omega⟩
theorem Sv.alloc {S : Nat → Prop} {a w : World} (h : Sv S a w) (o : Obj) : Sv S a (w.alloc o) := h.trans (Sv.of_below ((Below.refl _ _).alloc (Nat.le_refl _) o))
theorem Sv.drew {S : Nat → Prop} {a w : World} (h : Sv S a w) : Sv S a w.drew := ⟨h.os, h.tape, h.output, h.size, h.block⟩
theorem Sv.setCell {S : Nat → Prop} {a w : World} (h : Sv S a w) {p : Addr} (hp : S p.block ∨ a.heap.size ≤ p.block) (u : Value) : Sv S a (w.setCell p u) :=
 ⟨h.os, h.tape, h.output, by have := h.size; simpa [World.setCell] using this, fun k hk hs => (Below.heap_setCell _ _ _ _ (by rintro rfl; rcases hp with hp | hp; exact hs hp; omega)).trans (h.block k hk hs)⟩
theorem Sv.grown {S : Nat → Prop} {a w w' : World} {row : Option Nat} (h : Sv S a w) (hg : w.grownBy w' row) (hr : ∀ k, row = some k → S k ∨ a.heap.size ≤ k) : Sv S a w' :=
 ⟨hg.os.trans h.os, hg.tape.trans h.tape, hg.output.trans h.output, Nat.le_trans h.size hg.size, fun k hk hs => (hg.block k (Nat.lt_of_lt_of_le hk h.size) (fun e => by rcases hr k e.symm with h | h; exact hs h; omega)).trans (h.block k hk hs)⟩
theorem Sv.cell {S : Nat → Prop} {a w : World} (h : Sv S a w) {p : Addr} (hp : p.block < a.heap.size) (hs : ¬ S p.block) : w.cell? p = a.cell? p := World.cell?_of_block (w := a) (h.block p.block hp hs)
def Stb (S : Nat → Prop) (w : World) (Q : World → Prop) : Prop := ∀ w', Sv S w w' → Q w'
theorem Stb.now {S : Nat → Prop} {w : World} {Q : World → Prop} (h : Stb S w Q) : Q w := h w (Sv.refl S w)
theorem Stb.go {S : Nat → Prop} {w w' : World} {Q : World → Prop} (h : Stb S w Q) (hs : Sv S w w') : Stb S w' Q := fun w'' h2 => h w'' (hs.trans h2)
def MapIs (W : World) (m n : Nat) (f : ByteArray → Option Int) : Prop := ∃ D : DataW Unit, W.ownsMap Tryz.prog 9 (plainElem Tryz.prog 3) m n D ∧
 ∀ t, (f t = none → Maps.has D (keyL t) = false) ∧ ∀ v, f t = some v → Maps.has D (keyL t) = true ∧ D.atKey (keyL t) (.lit (.int .i64 0)) = .lit (.int .i64 v)
theorem MapIs.lt {W : World} {m n : Nat} {f : ByteArray → Option Int} (h : MapIs W m n f) : m < W.heap.size := by
 obtain ⟨D, h, _⟩ := h
 exact h.lt
theorem MapIs.keep {W W' : World} {m n : Nat} {f : ByteArray → Option Int} (h : MapIs W m n f) (hk : W'.heap[m]? = W.heap[m]?) : MapIs W' m n f := by
 obtain ⟨D, ⟨es, clock, h1, h2⟩, h3⟩ := h
 exact ⟨D, ⟨es, clock, hk.trans h1, h2⟩, h3⟩
theorem MapIs.made (w : World) : MapIs (w.alloc (.map #[] 0)) w.heap.size 0 (fun _ => none) :=
 ⟨.map [], World.ownsMap_made _ _ _ _, fun t => ⟨fun _ => by simp [Maps.has_eq], fun v h => by cases h⟩⟩
theorem keyL_key (t : ByteArray) : WideAt.IsKeyLit (keyL t) := by simp [keyL, WideAt.IsKeyLit]
def setF (f : ByteArray → Option Int) (t : ByteArray) (v : Int) : ByteArray → Option Int := fun u => if u = t then some v else f u
theorem MapIs.put {W : World} {m n : Nat} {f : ByteArray → Option Int} (h : MapIs W m n f) (hn : n < maxLen) (t : ByteArray) (ht : t.size ≤ maxLen) (v : Int) (hv : (Lit.int .i64 v).wf = true) :
  ∃ w', (Instr.mapUpdate 73 (.map (some m)) (.string t) (.int .i64 v)).run Tryz.prog W = .ok () w' ∧ MapIs w' m (n + 1) (setF f t v) ∧ W.grownBy w' (some m) := by
 obtain ⟨D, hown, hf⟩ := h
 obtain ⟨w', hrun, hown', hg⟩ := hown.update (string_keyed Tryz.underlying9) Tryz.underlying73 hn (keyOf_string_mk Tryz.underlying9 ht) (plainElem_int Tryz.underlying3 hv)
 refine ⟨w', hrun, ⟨_, hown', fun u => ?_⟩, hg⟩
 have hm := (hown.tidy (string_keyed Tryz.underlying9)).isMap
 unfold setF
 by_cases e : u = t
 ·subst e
  rw [if_pos rfl]
  refine ⟨fun h => (by cases h), fun v' h => ?_⟩
  cases h
  exact ⟨Maps.has_put_same hm (keyL_key u) _, Maps.atKey_put_same hm (keyL_key u) _ _⟩
 ·rw [if_neg e]
  refine ⟨fun h => ?_, fun v' h => ⟨?_, ?_⟩⟩
  ·exact (Maps.has_put_other (keyL_ne e) _).trans ((hf u).1 h)
  ·exact (Maps.has_put_other (keyL_ne e) _).trans ((hf u).2 v' h).1
  ·exact (Maps.atKey_put_other (keyL_ne e) _ _).trans ((hf u).2 v' h).2
theorem zero_int (w : World) : (zeroValue 3).run Tryz.prog w = .ok (.int .i64 0) w := rfl
theorem MapIs.get {W : World} {m n : Nat} {f : ByteArray → Option Int} (h : MapIs W m n f) (t : ByteArray) (ht : t.size ≤ maxLen) :
  (Instr.lookup 73 (.map (some m)) (.string t) true).run Tryz.prog W = .ok (.tuple #[.int .i64 ((f t).getD 0), .bool (f t).isSome]) W := by
 obtain ⟨D, hown, hf⟩ := h
 obtain ⟨v, ps, hrun, hv⟩ := hown.look_ok (string_keyed Tryz.underlying9) Tryz.underlying73 (zero_int W) (plainElem_int Tryz.underlying3 (by decide)) (keyOf_string_mk Tryz.underlying9 ht)
 obtain ⟨c, rfl, hc, _⟩ := plainElem_int_inv Tryz.underlying3 hv
 have hc1 : D.atKey (keyL t) (.lit (.int .i64 0)) = .lit (.int .i64 c) := congrArg Prod.fst hc
 rw [hrun]
 cases hft : f t with
 | none =>
  have h1 := (hf t).1 hft
  have h2 := Maps.atKey_of_not_has h1 (DataW.lit (.int .i64 0))
  rw [hc1] at h2
  injection h2 with h2
  injection h2 with _ h2
  have h3 : Maps.has D (Lit.string t.data.toList) = false := h1
  rw [h3, h2]
  rfl
 | some v =>
  obtain ⟨h1, h2⟩ := (hf t).2 v hft
  rw [hc1] at h2
  injection h2 with h2
  injection h2 with _ h2
  have h3 : Maps.has D (Lit.string t.data.toList) = true := h1
  rw [h3, h2]
  rfl
inductive Scp (W : World) : Nat → Value → Env → Prop
 | nil (r : Nat) : Scp W r (.pointer none) (fun _ => -1)
 | cons {r b m n : Nat} {f : ByteArray → Option Int} {next : Value} {kn : Env} : b < r → W.cell? ⟨b, 0, none⟩ = some (.map (some m)) → W.cell? ⟨b, 1, none⟩ = some next → MapIs W m n f → Scp W b next kn → Scp W r (.pointer (some ⟨b, 0, none⟩)) (fun t => (f t).getD (kn t))
theorem Scp.mono {W : World} {r r' : Nat} {v : Value} {kn : Env} (h : Scp W r v kn) (hr : r ≤ r') : Scp W r' v kn := by
 cases h with
 | nil => exact .nil _
 | cons h1 h2 h3 h4 h5 => exact .cons (by omega) h2 h3 h4 h5
end Go.Proofs.YtbakebdfmdepnaaGreatDoor
namespace Go.Proofs.YtbakebdfmdepnaaGreatDoor
open Go.RowKit
set_option maxRecDepth 20000
set_option maxHeartbeats 1000000 in
theorem indexNamed_any (g o m c : Nat) (st : Nat → Nd) (sh : Nat → Nat) (w : World) (hm : m ≤ 5000) (hg : g < w.heap.size) (hs : StandAt w g o m st sh) :
  Calls Tryz.prog 92 #[.slice (some ⟨g, o, none⟩) m c, .func (.func 93) #[] #[]] w fun e w' => FirstP m (fun i => (st i).kind = 18) e ∧ Below w.heap.size w w' := by
 have HS := hid hs
 clear hs
 go_enter Tryz.func92, Tryz.ntmps92
 go_wp2
 go_loopw [8] (fun i wr => ∃ j : Nat, j ≤ m ∧ i = .int .i64 j ∧ (∀ i, i < j → ¬ (st i).kind = 18) ∧ Below w.heap.size w wr) (fun i _ => m - (intOf i).toNat)
 case atStart => exact ⟨0, Nat.zero_le _, rfl, fun i h => absurd h (Nat.not_lt_zero _), Below.refl _ _⟩
 case round =>
  obtain ⟨j, hj, rfl, hin, hbw⟩ := hrel
  have HBW := hid hbw
  have HIN := hid hin
  clear hbw hin
  by_cases hlt : j < m
  ·obtain ⟨a0, a1, a2, a3, a4, a5⟩ := (HS.out.below HBW.out hg) j hlt
   have HN := hid (HBW.out.alloc HBW.out.size (.cells #[.int .i64 (st j).kind, .int .i64 (st j).op, .int .i64 (st j).n, .string (st j).text, .int .i64 (st j).kids, .int .i64 (sh j)] 80))
   by_cases c1 : (st j).kind = 18
   ·have HC := hid c1
    have hq : ((st j).kind == 18) = true := by rw [c1]; rfl
    clear c1
    go_wp2
    go_ret
    exact ⟨.inl ⟨j, hlt, rfl, HC.out, HIN.out⟩, HN.out⟩
   ·have HX := hid (none_succ HIN.out c1)
    have hq : ((st j).kind == 18) = false := by rw [beq_eq_false_iff_ne]; exact c1
    clear c1
    go_wp2
    go_roundw
    case rel => exact ⟨j + 1, by omega, by go_num, HX.out, HN.out⟩
    case measure => simp [intOf]; omega
  ·obtain rfl : j = m := by omega
   go_wp2
   go_ret
   exact ⟨.inr ⟨rfl, HIN.out⟩, HBW.out⟩
def CallOk (m : Nat) (st : Nat → Nd) : Prop := ∃ f, 1 ≤ f ∧ f ≤ m ∧ m ≤ 9 ∧ AllE f st ∧ (∀ i, f ≤ i → i < m → (st i).kind = 18) ∧ Apart (m - f) (fun i => st (f + i))
theorem call_at {m f : Nat} {st : Nat → Nd} (hf : f ≤ m) (h1 : f < m → (st f).kind = 18) (h2 : ∀ i, i < f → ¬ (st i).kind = 18) : CallOk m st ↔ m ≤ 9 ∧ (1 ≤ f ∧ f ≤ 9 ∧ AllE f st) ∧ (∀ i, i < m - f → 18 ≤ (st (f + i)).kind ∧ (st (f + i)).kind ≤ 18) ∧ Apart (m - f) (fun i => st (f + i)) := by
 constructor
 ·rintro ⟨f', a1, a2, a3, a4, a5, a6⟩
  have e : f' = f := by
   rcases Nat.lt_trichotomy f' f with h | h | h
   ·exact absurd (a5 f' (Nat.le_refl _) (by omega)) (h2 f' h)
   ·exact h
   ·have b1 := a4 f h
    rw [h1 (by omega)] at b1
    exact absurd b1 (by decide)
  subst e
  exact ⟨a3, ⟨a1, by omega, a4⟩, fun i hi => by have := a5 (f' + i) (by omega) (by omega); omega, a6⟩
 ·rintro ⟨a1, ⟨a2, a3, a4⟩, a5, a6⟩
  exact ⟨f, a2, hf, a1, a4, fun i h3 h4 => by have := a5 (i - f) (by omega); rw [show f + (i - f) = i by omega] at this; omega, a6⟩
set_option maxHeartbeats 2000000 in
theorem callFits_any (g o m c : Nat) (st : Nat → Nd) (sh : Nat → Nat) (w : World) (hm : m ≤ 5000) (hx : ∀ i, i < m → (st i).text.size ≤ maxLen) (h0 : 0 < m) (hcm : m ≤ c) (_hc : c ≤ maxLen) (hg : g < w.heap.size) (hs : StandAt w g o m st sh) :
  Calls Tryz.prog 64 #[.slice (some ⟨g, o, none⟩) m c] w fun e w' => Says e (CallOk m st) ∧ Below w.heap.size w w' := by
 have HX := hid hx
 have HS := hid hs
 have hc0 : ¬ c = 0 := by omega
 clear hs hx
 have HF : Hid (∀ f w', f ≤ m → Below w.heap.size w w' → StA w' (some ⟨g, o, none⟩) f st sh) := fun f w' hf hb => .inr ⟨g, o, rfl, Nat.lt_of_lt_of_le hg hb.size, (HS.out.front hf).below hb hg⟩
 have HK : Hid (∀ f w', Below w.heap.size w w' → StA w' (some ⟨g, o + f * 6, none⟩) (m - f) (fun i => st (f + i)) (fun i => sh (f + i))) := fun f w' hb => .inr ⟨g, _, rfl, Nat.lt_of_lt_of_le hg hb.size, HS.out.back.below hb hg⟩
 by_cases h9 : m ≤ 9
 ·go_enter Tryz.func64, Tryz.ntmps64
  go_wp2_with (first
   | (go_at_call 92; refine (indexNamed_any g o m c st sh _ hm hg HS.out).mono ?_; rintro e w1 ⟨he, hb1⟩; have HB1 := hid hb1; clear hb1; rcases he with ⟨f, hf, rfl, hP1, hP2⟩ | ⟨rfl, hP2⟩; rotate_left; all_goals (first | (have HAT := hid (call_at (Nat.le_of_lt hf) (fun _ => hP1) hP2); clear hP1 hP2) | (have HAT := hid (call_at (Nat.le_refl m) (fun h => absurd h (Nat.lt_irrefl _)) hP2); clear hP2))))
  ·rw [Nat.sub_self] at HAT
   by_cases hcc : c = m
   all_goals (go_wp2_with (first
    | (go_at_call 61; refine (areE_any (some ⟨g, o, none⟩) m c _ _ st sh _ (by omega) (HF.out m _ (by omega) HB1.out)).mono ?_; rintro e w2 ⟨hs2, hb2⟩; have HB2 := hid (HB1.out.trans (hb2.mono HB1.out.size)); clear hb2; rcases hs2.get with ⟨rfl, hQ1⟩ | ⟨rfl, hQ1⟩; all_goals (have HQ1 := hid hQ1; clear hQ1 hs2))
    | (go_at_call 62; refine (areKinds_any _ (0) _ _ _ (fun i => st (m + i)) (fun i => sh (m + i)) _ (by omega) (.inl rfl)).mono ?_; rintro e w3 ⟨hs3, hb3⟩; have HB3 := hid (HB2.out.trans (hb3.mono HB2.out.size)); clear hb3; rcases hs3.get with ⟨rfl, hQ2⟩ | ⟨rfl, hQ2⟩; all_goals (have HQ2 := hid hQ2; clear hQ2 hs3))
    | (go_at_call 63; refine (textsDiffer_all _ (0) _ (fun i => st (m + i)) (fun i => sh (m + i)) _ (by omega) (fun i hi => HX.out _ (by omega)) (.inl rfl)).mono ?_; rintro e w4 ⟨hs4, hb4⟩; have HB4 := hid (HB3.out.trans (hb4.mono HB3.out.size)); clear hb4; rcases hs4.get with ⟨rfl, hQ3⟩ | ⟨rfl, hQ3⟩; all_goals (have HQ3 := hid hQ3; clear hQ3 hs4))))
   all_goals go_ret
   all_goals first
    | exact ⟨says_t (HAT.out.2 ⟨h9, ⟨by have := HQ1.out.1; omega, by omega, HQ1.out.2.2⟩, HQ2.out, HQ3.out⟩), HB4.out⟩
    | exact ⟨says_f (fun h => HQ3.out (HAT.out.1 h).2.2.2), HB4.out⟩
    | exact ⟨says_f (fun h => HQ2.out (HAT.out.1 h).2.2.1), HB3.out⟩
    | exact ⟨says_f (fun h => HQ1.out (by have := (HAT.out.1 h).2.1; exact ⟨by omega, by omega, this.2.2⟩)), HB2.out⟩
  ·have hfc : ¬ c = f := by omega
   have hfm : f ≤ m := by omega
   go_wp2_with (first
    | (go_at_call 61; refine (areE_any (some ⟨g, o, none⟩) f c _ _ st sh _ (by omega) (HF.out f _ (by omega) HB1.out)).mono ?_; rintro e w2 ⟨hs2, hb2⟩; have HB2 := hid (HB1.out.trans (hb2.mono HB1.out.size)); clear hb2; rcases hs2.get with ⟨rfl, hQ1⟩ | ⟨rfl, hQ1⟩; all_goals (have HQ1 := hid hQ1; clear hQ1 hs2))
    | (go_at_call 62; refine (areKinds_any (some ⟨g, o + f * 6, none⟩) (m - f) _ _ _ (fun i => st (f + i)) (fun i => sh (f + i)) _ (by omega) (HK.out f _ HB2.out)).mono ?_; rintro e w3 ⟨hs3, hb3⟩; have HB3 := hid (HB2.out.trans (hb3.mono HB2.out.size)); clear hb3; rcases hs3.get with ⟨rfl, hQ2⟩ | ⟨rfl, hQ2⟩; all_goals (have HQ2 := hid hQ2; clear hQ2 hs3))
    | (go_at_call 63; refine (textsDiffer_all (some ⟨g, o + f * 6, none⟩) (m - f) _ (fun i => st (f + i)) (fun i => sh (f + i)) _ (by omega) (fun i hi => HX.out _ (by omega)) (HK.out f _ HB3.out)).mono ?_; rintro e w4 ⟨hs4, hb4⟩; have HB4 := hid (HB3.out.trans (hb4.mono HB3.out.size)); clear hb4; rcases hs4.get with ⟨rfl, hQ3⟩ | ⟨rfl, hQ3⟩; all_goals (have HQ3 := hid hQ3; clear hQ3 hs4)))
   all_goals go_ret
   all_goals first
    | exact ⟨says_t (HAT.out.2 ⟨h9, ⟨by have := HQ1.out.1; omega, by omega, HQ1.out.2.2⟩, HQ2.out, HQ3.out⟩), HB4.out⟩
    | exact ⟨says_f (fun h => HQ3.out (HAT.out.1 h).2.2.2), HB4.out⟩
    | exact ⟨says_f (fun h => HQ2.out (HAT.out.1 h).2.2.1), HB3.out⟩
    | exact ⟨says_f (fun h => HQ1.out (by have := (HAT.out.1 h).2.1; exact ⟨by omega, by omega, this.2.2⟩)), HB2.out⟩
 ·go_enter Tryz.func64, Tryz.ntmps64
  go_wp2_with (first
   | (go_at_call 92; refine (indexNamed_any g o m c st sh _ hm hg HS.out).mono ?_; rintro e w1 ⟨he, hb1⟩; have HB1 := hid hb1; clear hb1; rcases he with ⟨f, hf, rfl, hP1, hP2⟩ | ⟨rfl, hP2⟩; all_goals clear hP2))
  all_goals go_ret
  all_goals exact ⟨says_f (fun ⟨f, _, _, h, _⟩ => by omega), HB1.out⟩
set_option maxHeartbeats 1000000 in
theorem callFits_none (ad : Option Addr) (c : Nat) (w : World) :
  Calls Tryz.prog 64 #[.slice ad 0 c] w fun e w' => e = .returned (.bool false) ∧ Below w.heap.size w w' := by
 go_enter Tryz.func64, Tryz.ntmps64
 go_wp2_with (first
  | (go_at_call 92; refine (index_none ad c _ _).mono ?_; rintro e w1 ⟨rfl, rfl⟩)
  | (go_at_call 61; refine (areE_any _ 0 c _ _ (fun _ => ⟨0, 0, 0, ⟨#[]⟩, 0⟩) (fun _ => 0) _ (by omega) (.inl rfl)).mono ?_; rintro e w2 ⟨hs2, hb2⟩; rcases hs2.get with ⟨rfl, hQ1⟩ | ⟨rfl, hQ1⟩; all_goals clear hs2))
 ·exact absurd hQ1.1 (by omega)
 ·go_ret
  exact ⟨rfl, hb2⟩
theorem callFits_all (ad : Option Addr) (m c : Nat) (st : Nat → Nd) (sh : Nat → Nat) (w : World) (hm : m ≤ 5000) (hx : ∀ i, i < m → (st i).text.size ≤ maxLen) (hcm : m ≤ c) (hc : c ≤ maxLen) (hs : StA w ad m st sh) :
  Calls Tryz.prog 64 #[.slice ad m c] w fun e w' => Says e (CallOk m st) ∧ Below w.heap.size w w' := by
 by_cases h0 : 0 < m
 ·obtain ⟨g, o, rfl, h1, h2⟩ := hs.resolve_left (by omega)
  exact callFits_any g o m c st sh w hm hx h0 hcm hc h1 h2
 ·obtain rfl : m = 0 := by omega
  refine (callFits_none ad c w).mono ?_
  rintro e w' ⟨rfl, hb⟩
  exact ⟨says_f (fun ⟨f, h1, h2, _⟩ => by omega), hb⟩
theorem fnFits_all (ad : Option Addr) (m c : Nat) (st : Nat → Nd) (sh : Nat → Nat) (w : World) (hm : m ≤ 5000) (hcm : m ≤ c) (hc : c ≤ maxLen) (hs : StA w ad m st sh) :
  Calls Tryz.prog 65 #[.slice ad m c] w fun e w' => Says e (1 ≤ m ∧ m ≤ 9 ∧ (∀ i, i + 1 < m → (st i).kind = 19) ∧ isE (st (m - 1)).kind = true) ∧ Below w.heap.size w w' := by
 by_cases h0 : 0 < m
 ·obtain ⟨g, o, rfl, h1, h2⟩ := hs.resolve_left (by omega)
  exact fnFits_any g o m c st sh w hm h0 hcm hc h1 h2
 ·obtain rfl : m = 0 := by omega
  refine (fnFits_none ad c w).mono ?_
  rintro e w' ⟨rfl, rfl⟩
  exact ⟨says_f (fun h => by omega), Below.refl _ _⟩
end Go.Proofs.YtbakebdfmdepnaaGreatDoor
