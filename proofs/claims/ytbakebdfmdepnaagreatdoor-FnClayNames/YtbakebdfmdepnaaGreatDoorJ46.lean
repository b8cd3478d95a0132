import Derived.Deep.DeepCutAuto
import Derived.Laws.StructEq
import Derived.Test.YtbakebdfmdepnaaGreatDoorJ45
import Derived.Test.YtbakebdfmdepnaaGreatDoorJ44
import Derived.Test.YtbakebdfmdepnaaGreatDoorJ27
namespace Go.Proofs.YtbakebdfmdepnaaGreatDoor
open Go.RowKit
set_option maxRecDepth 20000
def FaultI (nd : Nat → Nd) (N : Nat) (c a : Int) : Prop := (¬ ValidT nd N ∧ c = 11 ∧ a = 0) ∨
 ∃ o x, ValidT nd N ∧ kidsF nd N = some (o, [x]) ∧ ((∃ k d r, fls (treeE nd o N) = (k, d) :: r ∧ d ≠ 0 ∧ c = ((d : Nat) : Int) ∧ a = ((k : Nat) : Int)) ∨ (fls (treeE nd o N) = [] ∧ c = 0 ∧ a = 0))
theorem FaultI.unique {nd : Nat → Nd} {N : Nat} {c a c' a' : Int} (h : FaultI nd N c a) (h' : FaultI nd N c' a') : c = c' ∧ a = a' := by
 rcases h with ⟨h1, rfl, rfl⟩ | ⟨o, x, hv, ho, h2⟩
 ·rcases h' with ⟨_, rfl, rfl⟩ | ⟨o', x', hv', _⟩
  ·exact ⟨rfl, rfl⟩
  ·exact absurd hv' h1
 ·rcases h' with ⟨h1, _⟩ | ⟨o', x', hv', ho', h2'⟩
  ·exact absurd hv h1
  ·rw [ho] at ho'
   injection ho' with e
   injection e with e1 _
   subst e1
   rcases h2 with ⟨k, d, r, e1, _, rfl, rfl⟩ | ⟨e1, rfl, rfl⟩
   ·rcases h2' with ⟨k', d', r', e2, _, rfl, rfl⟩ | ⟨e2, _⟩
    ·rw [e1] at e2
     injection e2 with e2 _
     injection e2 with e3 e4
     exact ⟨by rw [e4], by rw [e3]⟩
    ·rw [e1] at e2; cases e2
   ·rcases h2' with ⟨k', d', r', e2, _⟩ | ⟨_, rfl, rfl⟩
    ·rw [e1] at e2; cases e2
    ·exact ⟨rfl, rfl⟩
theorem code_pos {nd : Nat → Nd} {N x : Nat} {o : List (List Nat)} (hv : ValidT nd N) (ho : kidsF nd N = some (o, [x])) {k c : Nat} {r : List (Nat × Nat)} (h : fls (treeE nd o N) = (k, c) :: r) : c ≠ 0 := by
 obtain ⟨h1, _, h3, o', x', ho', hf⟩ := hv
 rw [ho] at ho'
 injection ho' with e
 injection e with e1 _
 subst e1
 have h1 := (srt_tree ho h1 (fun i hi => (hf i hi).2) h3).2 (k, c) (by rw [h]; simp)
 simp only at h1
 omega
theorem faultI_of {nd : Nat → Nd} {N : Nat} {c a : Int} (h : CheckR nd N c a) : FaultI nd N c a := by
 rcases h with h | ⟨o, x, hv, ho, cf, hok, h⟩
 ·exact .inl h
 ·refine .inr ⟨o, x, hv, ho, ?_⟩
  obtain ⟨h1, _, h3, o', x', ho', hf⟩ := id hv
  rw [ho] at ho'
  injection ho' with e
  injection e with e1 _
  subst e1
  have hs := first_same ho h1 (fun i hi => (hf i hi).2) h3 hok
  cases hfl : fls (treeE nd o N) with
  | nil =>
   have h0 := hs.1 hfl
   rcases h with ⟨_, rfl, rfl⟩ | ⟨i, hi, hc, _⟩
   ·exact .inr ⟨rfl, rfl, rfl⟩
   ·exact absurd (h0 i) hc
  | cons y l =>
   obtain ⟨k, d⟩ := y
   obtain ⟨hk, hc, hd, hlow⟩ := hs.2 k d l hfl
   refine .inl ⟨k, d, l, rfl, hd, ?_⟩
   rcases h with ⟨hz, _⟩ | ⟨i, hi, hci, hl2, rfl, rfl⟩
   ·exact absurd (hz k hk) (by rw [hc]; exact hd)
   ·have : i = k := by
     rcases Nat.lt_trichotomy i k with h | h | h
     ·exact absurd (hlow i h) hci
     ·exact h
     ·exact absurd (hl2 k h) (by rw [hc]; exact hd)
    subst this
    exact ⟨by rw [hc], rfl⟩
def BindI (nd : Nat → Nd) (N : Nat) (M : Nat) (bn : Nat → Int) : Prop := (M = 0 ∧ ¬ FaultI nd N 0 0) ∨ (M = N ∧ ∃ o x, ValidT nd N ∧ kidsF nd N = some (o, [x]) ∧ fls (treeE nd o N) = [] ∧ bn = apB (fun _ => -1) (treeE nd o N))
theorem BoundEnd.fault {nd : Nat → Nd} {N : Nat} {w w' : World} {e : Ending} (h : BoundEnd nd N w w' e) : Below w.heap.size w w' ∧ ∃ ad M c a bn, e = .returned (.tuple #[.slice ad M M, .agg #[.int .i64 c, .int .i64 a]]) ∧ FaultI nd N c a ∧ IntsA w' ad M bn ∧ BindI nd N M bn ∧ (M ≠ 0 → ∃ g, ad = some ⟨g, 0, none⟩ ∧ w.heap.size ≤ g) ∧ M ≤ N := by
 obtain ⟨hb, h⟩ := h
 refine ⟨hb, ?_⟩
 rcases h with ⟨hv, rfl⟩ | ⟨o, x, hv, ho, h⟩
 ·have hf : FaultI nd N 11 0 := .inl ⟨hv, rfl, rfl⟩
  exact ⟨none, 0, 11, 0, fun _ => 0, rfl, hf, .inl rfl, .inl ⟨rfl, fun h => by have := (hf.unique h).1; omega⟩, fun h => absurd rfl h, Nat.zero_le _⟩
 ·rcases h with ⟨k, c, r, hfl, rfl⟩ | ⟨hfl, gb, rfl, hg, hbn⟩
  ·have hc := code_pos hv ho hfl
   have hf : FaultI nd N (c : Nat) (k : Nat) := .inr ⟨o, x, hv, ho, .inl ⟨k, c, r, hfl, hc, rfl, rfl⟩⟩
   exact ⟨none, 0, (c : Nat), (k : Nat), fun _ => 0, rfl, hf, .inl rfl, .inl ⟨rfl, fun h => by have := (hf.unique h).1; omega⟩, fun h => absurd rfl h, Nat.zero_le _⟩
  ·have hf : FaultI nd N 0 0 := .inr ⟨o, x, hv, ho, .inr ⟨hfl, rfl, rfl⟩⟩
   obtain ⟨cur, h1, h2, h3⟩ := hbn
   exact ⟨some ⟨gb, 0, none⟩, N, 0, 0, _, rfl, hf, .inr ⟨gb, cur, rfl, h1, h3⟩, .inr ⟨rfl, o, x, hv, ho, hfl, rfl⟩, fun _ => ⟨gb, rfl, hg⟩, Nat.le_refl _⟩
theorem fault_row {w w1 : World} {b N cap : Nat} {c a : Int} (hb : Below (w.heap.size + 2) ((w.alloc (.cells #[.slice (some ⟨b, 0, none⟩) N cap] 25)).alloc (.cells #[.int .i64 0, .int .i64 0] 28)) w1) :
  (w1.alloc (.cells #[.int .i64 c, .int .i64 a] 28)).heap[w.heap.size + 1]? = some (.cells #[.int .i64 0, .int .i64 0] 28 (0, 0)) := by
 have hs := hb.size
 simp at hs
 rw [Below.heap_alloc _ _ _ (by omega), hb.block _ (by omega)]
 have := heap_alloc_new (w.alloc (.cells #[.slice (some ⟨b, 0, none⟩) N cap] 25)) (.cells #[.int .i64 0, .int .i64 0] 28)
 rw [World.size_alloc] at this
 exact this
set_option maxHeartbeats 2000000 in
theorem implCheck_any (b N cap : Nat) (nd : Nat → Nd) (w : World) (hN : N ≤ 1048576) (hb : b < w.heap.size) (hn : NodesAt w b N nd) (hx : ∀ i, i < N → (nd i).text.size ≤ maxLen) (hE : BEnv w) :
  Calls Tryz.prog 5 #[.agg #[.slice (some ⟨b, 0, none⟩) N cap]] w fun e w' => (∃ c a, e = .returned (.agg #[.int .i64 c, .int .i64 a]) ∧ FaultI nd N c a) ∧ Below w.heap.size w w' := by
 have HA : Hid (Below w.heap.size w ((w.alloc (.cells #[.slice (some ⟨b, 0, none⟩) N cap] 25)).alloc (.cells #[.int .i64 0, .int .i64 0] 28))) := ((Below.refl _ _).alloc (Nat.le_refl _) _).alloc (by simp) _
 have HN := hid (hn.below HA.out hb)
 have HX := hid hx
 have HE := hid (hE.below HA.out hE.pos)
 clear hn hx hE
 go_enter Tryz.func5, Tryz.ntmps5
 go_wp2_with fail
 refine (bound_any b N cap nd _ hN (by simp; omega) HN.out HX.out HE.out).mono ?_
 intro e w1 he
 obtain ⟨hb1, ad, M, c, a, bn, rfl, hf, -⟩ := he.fault
 have HF := hid hf
 have hsz : w.heap.size + 2 ≤ w1.heap.size := by have := hb1.size; simp at this; omega
 have hF4 := fault_row (c := c) (a := a) (hb1.mono (by simp))
 obtain ⟨r0, r1, r2, r3⟩ := zero2 hF4
 obtain ⟨q1, q2⟩ := ret2 hF4 (.int .i64 c) (.int .i64 a)
 have HB : Hid (Below w.heap.size w (((w1.alloc (.cells #[.int .i64 c, .int .i64 a] 28)).setCell ⟨w.heap.size + 1, 0, none⟩ (.int .i64 c)).setCell ⟨w.heap.size + 1, 1, none⟩ (.int .i64 a))) := (((HA.out.trans (hb1.mono (by simp; omega))).alloc (by omega) _).setCell (p := ⟨w.heap.size + 1, 0, none⟩) (Nat.le_succ _) _).setCell (p := ⟨w.heap.size + 1, 1, none⟩) (Nat.le_succ _) _
 clear hb1 hf he hF4
 go_wp2
 clear r0 r1 r2 r3
 generalize ((w1.alloc (.cells #[.int .i64 c, .int .i64 a] 28)).setCell ⟨w.heap.size + 1, 0, none⟩ (.int .i64 c)).setCell ⟨w.heap.size + 1, 1, none⟩ (.int .i64 a) = w5 at *
 refine bodyPost_ret (v := .agg #[.int .i64 c, .int .i64 a]) (by simp [results, Tryz.results5, go_sem, q1, q2]) rfl ?_
 exact ⟨⟨c, a, rfl, HF.out⟩, HB.out⟩
set_option maxHeartbeats 2000000 in
theorem implBinds_any (b N cap : Nat) (nd : Nat → Nd) (w : World) (hN : N ≤ 1048576) (hb : b < w.heap.size) (hn : NodesAt w b N nd) (hx : ∀ i, i < N → (nd i).text.size ≤ maxLen) (hE : BEnv w) :
  Calls Tryz.prog 7 #[.agg #[.slice (some ⟨b, 0, none⟩) N cap]] w fun e w' => (∃ ad M bn, e = .returned (.slice ad M M) ∧ IntsA w' ad M bn ∧ BindI nd N M bn ∧ (M ≠ 0 → ∃ g, ad = some ⟨g, 0, none⟩ ∧ w.heap.size ≤ g) ∧ M ≤ N) ∧ Below w.heap.size w w' := by
 have HA : Hid (Below w.heap.size w (w.alloc (.cells #[.slice (some ⟨b, 0, none⟩) N cap] 25))) := (Below.refl _ _).alloc (Nat.le_refl _) _
 have HN := hid (hn.below HA.out hb)
 have HX := hid hx
 have HE := hid (hE.below HA.out hE.pos)
 clear hn hx hE
 go_enter Tryz.func7, Tryz.ntmps7
 go_wp2_with fail
 refine (bound_any b N cap nd _ hN (by simp; omega) HN.out HX.out HE.out).mono ?_
 intro e w1 he
 obtain ⟨hb1, ad, M, c, a, bn, rfl, -, hi, hbi, hg, hM⟩ := he.fault
 have hsz : w.heap.size + 1 ≤ w1.heap.size := by have := hb1.size; simpa using this
 have HI : Hid (IntsA (w1.alloc (.cells #[.int .i64 c, .int .i64 a] 28)) ad M bn) := by
  rcases hi with rfl | ⟨g, cur, rfl, h1, h2⟩
  ·exact .inl rfl
  ·exact .inr ⟨g, cur, rfl, (Below.heap_alloc _ _ _ (Array.getElem?_eq_some_iff.1 h1).1).trans h1, h2⟩
 have HBI := hid hbi
 have HG : Hid (M ≠ 0 → ∃ g, ad = some ⟨g, 0, none⟩ ∧ w.heap.size ≤ g) := fun h => by obtain ⟨g, h1, h2⟩ := hg h; exact ⟨g, h1, by simp at h2; omega⟩
 have HB := hid ((HA.out.trans (hb1.mono (by simp))).alloc (by omega) (.cells #[.int .i64 c, .int .i64 a] 28))
 clear hb1 hi hbi hg he
 go_wp2
 go_ret
 exact ⟨⟨ad, M, bn, rfl, HI.out, HBI.out, HG.out, hM⟩, HB.out⟩
theorem field_code (c a : Int) (W : World) : (Instr.field 28 (.agg #[.int .i64 c, .int .i64 a]) 0).run Tryz.prog W = .ok (.int .i64 c) W := by
 simp [go_sem, Instr.field, asAgg]
set_option maxHeartbeats 2000000 in
theorem specFits_any (b N cap : Nat) (nd : Nat → Nd) (w : World) (hN : N ≤ 1048576) (hb : b < w.heap.size) (hn : NodesAt w b N nd) (hx : ∀ i, i < N → (nd i).text.size ≤ maxLen) :
  Calls Tryz.prog 14 #[.agg #[.slice (some ⟨b, 0, none⟩) N cap]] w fun e w' => (∃ c a, e = .returned (.bool (decide (c = 0))) ∧ FaultI nd N c a) ∧ Below w.heap.size w w' := by
 have HA : Hid (Below w.heap.size w (w.alloc (.cells #[.slice (some ⟨b, 0, none⟩) N cap] 25))) := (Below.refl _ _).alloc (Nat.le_refl _) _
 have HN := hid (hn.below HA.out hb)
 have HX := hid hx
 clear hn hx
 go_enter Tryz.func14, Tryz.ntmps14
 go_wp2_with fail
 refine (specCheck_any b N cap nd _ hN (by simp; omega) HN.out HX.out).mono ?_
 rintro e w1 ⟨⟨c, a, rfl, hc⟩, hb1⟩
 have HF := hid (faultI_of hc)
 have HB := hid (HA.out.trans (hb1.mono (by simp)))
 clear hc hb1
 have hfc := field_code c a w1
 go_wp2
 go_ret
 exact ⟨⟨c, a, by simp; exact Bool.eq_iff_iff.2 (by simp), HF.out⟩, HB.out⟩
set_option maxHeartbeats 2000000 in
theorem specBinds_any (b N cap : Nat) (nd : Nat → Nd) (w : World) (hN : N ≤ 1048576) (hb : b < w.heap.size) (hn : NodesAt w b N nd) (hx : ∀ i, i < N → (nd i).text.size ≤ maxLen) :
  Calls Tryz.prog 8 #[.agg #[.slice (some ⟨b, 0, none⟩) N cap]] w fun e w' => (∃ ad M c bn, e = .returned (.slice ad M c) ∧ IntsA w' ad M bn ∧ BindI nd N M bn ∧ M ≤ N ∧ (M ≠ 0 → ∃ g, ad = some ⟨g, 0, none⟩ ∧ w.heap.size ≤ g)) ∧ Below w.heap.size w w' := by
 have HA : Hid (Below w.heap.size w (w.alloc (.cells #[.slice (some ⟨b, 0, none⟩) N cap] 25))) := (Below.refl _ _).alloc (Nat.le_refl _) _
 have HN := hid hn
 have HX := hid hx
 clear hn hx
 go_enter Tryz.func8, Tryz.ntmps8
 go_wp2_with fail
 refine (specFits_any b N cap nd _ hN (by simp; omega) (HN.out.below HA.out hb) HX.out).mono ?_
 rintro e w1 ⟨⟨c, a, rfl, hc⟩, hb1⟩
 have HC := hid hc
 have HB1 := hid (HA.out.trans (hb1.mono (by simp)))
 have hw1 : w.heap.size < w1.heap.size := by have := hb1.size; simp at this; omega
 have t1 : w1.cell? ⟨w.heap.size, 0, none⟩ = some (.slice (some ⟨b, 0, none⟩) N cap) := by
  rw [hb1.cell (p := ⟨w.heap.size, 0, none⟩) (by simp)]
  exact cell_new_row w _ _ 0
 clear hc hb1
 by_cases h0 : c = 0
 ·subst h0
  rw [decide_eq_true rfl]
  obtain ⟨o, x, hv, ho, hfl⟩ : ∃ o x, ValidT nd N ∧ kidsF nd N = some (o, [x]) ∧ fls (treeE nd o N) = [] := by
   rcases HC.out with ⟨_, h, _⟩ | ⟨o, x, hv, ho, ⟨k, d, r, _, hd, h, _⟩ | ⟨h, _⟩⟩
   ·omega
   ·omega
   ·exact ⟨o, x, hv, ho, h⟩
  have HV := hid hv
  have HO := hid ho
  have HFL := hid hfl
  clear hv ho hfl
  go_wp2_with fail
  refine (l3Look_any b N cap nd o _ (Nat.lt_of_lt_of_le hb HB1.out.size) (HN.out.below HB1.out hb) HX.out HV.out x HO.out).mono ?_
  rintro e w2 ⟨wb, gc, gb, gk, b', cap', ck, cf, bn, rfl, hwb, hgc, hgb, hok, hbn, hg, hb2⟩
  have f3 : w2.cell? ⟨wb, 3, none⟩ = some (.slice (some ⟨gb, 0, none⟩) N N) := by unfold World.cell?; rw [hwb]; rfl
  have HFIN : Hid (IntsA w2 (some ⟨gb, 0, none⟩) N bn ∧ BindI nd N N bn ∧ Below w.heap.size w w2 ∧ w.heap.size ≤ gb) := by
   obtain ⟨h1, h2, h3, o', x', ho', hf⟩ := HV.out
   have ho := HO.out
   rw [ho] at ho'
   injection ho' with e
   injection e with e1 _
   subst e1
   have hfs := fun i hi => (hf i hi).2
   have e0 : fls (lookE nd o N) = [] := by
    cases hl : fls (lookE nd o N) with
    | nil => rfl
    | cons y l =>
     have : y ∈ fls (treeE nd o N) := (faults_same ho h1 hfs h3 y).2 (by rw [hl]; simp)
     rw [HFL.out] at this
     cases this
   have e1 := hbn e0
   rw [← binds_same ho h1 hfs h3 HFL.out] at e1
   obtain ⟨cur, u1, u2, u3⟩ := hgb
   exact ⟨.inr ⟨gb, cur, rfl, u1, u3⟩, .inr ⟨rfl, o, x, HV.out, ho, HFL.out, e1⟩, HB1.out.trans (hb2.mono HB1.out.size), Nat.le_trans HB1.out.size hg⟩
  clear hwb hgc hgb hok hbn hg hb2
  go_wp2
  go_ret
  exact ⟨⟨some ⟨gb, 0, none⟩, N, N, bn, rfl, HFIN.out.1, HFIN.out.2.1, Nat.le_refl _, fun _ => ⟨gb, rfl, HFIN.out.2.2.2⟩⟩, HFIN.out.2.2.1⟩
 ·rw [decide_eq_false h0]
  have HNF : Hid (¬ FaultI nd N 0 0) := fun h => h0 (HC.out.unique h).1
  go_wp2
  go_ret
  exact ⟨⟨_, 0, _, fun _ => 0, rfl, .inl rfl, .inl ⟨rfl, HNF.out⟩, Nat.zero_le _, fun h => absurd rfl h⟩, HB1.out.alloc HB1.out.size _⟩
theorem BindI.unique {nd : Nat → Nd} {N M M' : Nat} {bn bn' : Nat → Int} (h : BindI nd N M bn) (h' : BindI nd N M' bn') : M = M' ∧ (M ≠ 0 → bn = bn') := by
 have hf : ∀ {M bn}, (M = N ∧ ∃ o x, ValidT nd N ∧ kidsF nd N = some (o, [x]) ∧ fls (treeE nd o N) = [] ∧ bn = apB (fun _ => -1) (treeE nd o N)) → FaultI nd N 0 0 := fun ⟨_, o, x, hv, ho, hfl, _⟩ => .inr ⟨o, x, hv, ho, .inr ⟨hfl, rfl, rfl⟩⟩
 rcases h with ⟨rfl, h⟩ | h
 ·rcases h' with ⟨rfl, _⟩ | h'
  ·exact ⟨rfl, fun h => absurd rfl h⟩
  ·exact absurd (hf h') h
 ·rcases h' with ⟨rfl, h'⟩ | h'
  ·exact absurd (hf h) h'
  ·obtain ⟨rfl, o, x, _, ho, _, rfl⟩ := h
   obtain ⟨rfl, o', x', _, ho', _, rfl⟩ := h'
   rw [ho] at ho'
   injection ho' with e
   injection e with e1 _
   subst e1
   exact ⟨rfl, fun _ => rfl⟩
end Go.Proofs.YtbakebdfmdepnaaGreatDoor
namespace Go.Proofs.YtbakebdfmdepnaaGreatDoor
def GoodE (nd : Nat → Nd) (N : Nat) (kn : Env) : Prop := ∀ t, kn t = -1 ∨ kn t = -2 ∨ ∃ k : Nat, k < N ∧ kn t = (k : Int) ∧ (nd k).text = t
def GoodV (nd : Nat → Nd) (N : Nat) : Ev → Prop
 | .bind k v => (nd k).kind = 5 ∧ (v = -1 ∨ v = -2 ∨ ∃ j : Nat, j < N ∧ v = (j : Int) ∧ (nd j).text = (nd k).text)
 | .flt _ _ => True
theorem GoodE.ext {nd : Nat → Nd} {N : Nat} {kn : Env} (h : GoodE nd N kn) {k : Nat} (hk : k < N) : GoodE nd N (kn.ext (nd k).text k) := fun t => by
 unfold Env.ext
 by_cases e : t = (nd k).text
 ·rw [if_pos e]
  exact .inr (.inr ⟨k, hk, rfl, e.symm⟩)
 ·rw [if_neg e]
  exact h t
theorem prm_good {nd : Nat → Nd} {N : Nat} {o : List (List Nat)} {W : Env → Nat → List Ev} (hW : ∀ kn, GoodE nd N kn → ∀ j, ∀ e ∈ W kn j, GoodV nd N e) (ps : List Nat) (hps : ∀ p ∈ ps, p < N) (kn : Env) (hk : GoodE nd N kn) (ns : List ByteArray) (d : Bool) :
  (∀ e ∈ (prm nd o W ps kn ns d).1, GoodV nd N e) ∧ GoodE nd N (prm nd o W ps kn ns d).2 := by
 induction ps generalizing kn ns d with
 | nil => exact ⟨fun e h => by simp [prm] at h, hk⟩
 | cons p ps ih =>
  obtain ⟨i1, i2⟩ := ih (fun q hq => hps q (by simp [hq])) (kn.ext (nd p).text p) (hk.ext (hps p (by simp))) ((nd p).text :: ns) (d || !(o.getD p []).isEmpty)
  refine ⟨fun e he => ?_, i2⟩
  simp only [prm, List.mem_append] at he
  rcases he with he | he | he | he
  ·obtain ⟨j, _, hj⟩ := List.mem_flatMap.1 he
   exact hW kn hk j e hj
  ·split at he
   ·rw [List.mem_singleton] at he; subst he; trivial
   ·cases he
  ·split at he
   ·rw [List.mem_singleton] at he; subst he; trivial
   ·cases he
  ·exact i1 e he
theorem node_good {nd : Nat → Nd} {N : Nat} {o : List (List Nat)} {W : Env → Nat → List Ev} (hd : Down o) (hW : ∀ kn, GoodE nd N kn → ∀ j, ∀ e ∈ W kn j, GoodV nd N e) {k : Nat} (hkN : k < N) (kn : Env) (hk : GoodE nd N kn) : ∀ e ∈ nodeE nd o W k kn, GoodV nd N e := by
 intro e he
 unfold nodeE at he
 split at he
 ·rename_i h5
  unfold useE at he
  rw [List.mem_cons] at he
  rcases he with rfl | he
  ·refine ⟨h5, ?_⟩
   rcases hk (nd k).text with h | h | ⟨j, h1, h2, h3⟩
   ·exact .inl h
   ·exact .inr (.inl h)
   ·exact .inr (.inr ⟨j, h1, h2, h3⟩)
  ·split at he
   ·rw [List.mem_singleton] at he; subst he; trivial
   ·cases he
 split at he
 ·rcases List.mem_append.1 he with he | he
  ·exact hW kn hk _ e he
  ·obtain ⟨j, _, hj⟩ := List.mem_flatMap.1 he
   exact hW _ (hk.ext hkN) j e hj
 split at he
 ·unfold fnE at he
  have hp := prm_good (o := o) hW (o.getD k []).dropLast (fun p hp => by have := hd k p (dropLast_sub hp); omega) kn hk [] false
  rcases List.mem_append.1 he with he | he
  ·exact hp.1 e he
  ·exact hW _ hp.2 _ e he
 split at he
 ·cases he
 ·obtain ⟨j, _, hj⟩ := List.mem_flatMap.1 he
  exact hW kn hk j e hj
theorem wk_good {nd : Nat → Nd} {N : Nat} {o : List (List Nat)} (hd : Down o) (k : Nat) : k < N → ∀ kn, GoodE nd N kn → ∀ e ∈ wk nd o k kn, GoodV nd N e := by
 induction k using Nat.strongRecOn with
 | ind k ih =>
  intro hkN kn hk
  rw [wk]
  refine node_good hd (fun kn hk j e he => ?_) hkN kn hk
  split at he
  ·rename_i hj
   exact ih j hj (by omega) kn hk e he
  ·cases he
theorem built_good (t : ByteArray) : builtEnv t = -1 ∨ builtEnv t = -2 := by
 unfold builtEnv
 split
 ·exact .inr rfl
 ·exact .inl rfl
theorem makers_lt {nd : Nat → Nd} {o : List (List Nat)} (hd : Down o) {s m N : Nat} (hs : s < N) (h : m ∈ makersOf nd o s) : m < N := by
 unfold makersOf at h
 split at h
 ·rw [List.mem_singleton] at h; omega
 ·split at h
  ·have := hd s m h; omega
  ·cases h
theorem file_good {nd : Nat → Nd} {N : Nat} {o : List (List Nat)} (hd : Down o) (hN : 1 ≤ N) : GoodE nd N (fileEnv nd o (o.getD (N - 1) []) builtEnv) := fun t => by
 have key : fileEnv nd o (o.getD (N - 1) []) builtEnv t = ((((o.getD (N - 1) []).flatMap (makersOf nd o)).find? fun m => decide ((nd m).text = t)).map fun m => (m : Int)).getD (builtEnv t) := by
  unfold fileEnv
  rw [fileF_find]
  rfl
 rw [key]
 cases hf : ((o.getD (N - 1) []).flatMap (makersOf nd o)).find? fun m => decide ((nd m).text = t) with
 | none =>
  rcases built_good t with h | h
  ·exact .inl h
  ·exact .inr (.inl h)
 | some m =>
  have hm := List.mem_of_find?_eq_some hf
  have ht := List.find?_some hf
  obtain ⟨s, hs, hms⟩ := List.mem_flatMap.1 hm
  have := hd _ s hs
  exact .inr (.inr ⟨m, makers_lt hd (by omega) hms, rfl, by simpa using ht⟩)
theorem tree_good {nd : Nat → Nd} {N : Nat} {o : List (List Nat)} (hd : Down o) (hN : 1 ≤ N) : ∀ e ∈ treeE nd o N, GoodV nd N e := by
 intro e he
 unfold treeE at he
 obtain ⟨s, hs, he⟩ := List.mem_flatMap.1 he
 have := hd _ s hs
 rcases List.mem_append.1 he with he | he
 ·exact wk_good hd s (by omega) _ (file_good hd hN) e he
 ·obtain ⟨k, c, rfl⟩ := mksE_flts nd o s _ e he
  trivial
theorem apB_cases (ev : List Ev) (bn : Nat → Int) (i : Nat) : apB bn ev i = bn i ∨ Ev.bind i (apB bn ev i) ∈ ev := by
 induction ev generalizing bn with
 | nil => exact .inl rfl
 | cons e ev ih =>
  cases e with
  | bind k v =>
   show apB (fun j => if j = k then v else bn j) ev i = bn i ∨ Ev.bind i (apB (fun j => if j = k then v else bn j) ev i) ∈ _
   rcases ih (fun j => if j = k then v else bn j) with h | h
   ·rw [h]
    by_cases e : i = k
    ·subst e
     exact .inr (by simp)
    ·exact .inl (by simp [e])
   ·exact .inr (List.mem_cons_of_mem _ h)
  | flt k c =>
   show apB bn ev i = bn i ∨ Ev.bind i (apB bn ev i) ∈ _
   rcases ih bn with h | h
   ·exact .inl h
   ·exact .inr (List.mem_cons_of_mem _ h)
def BnOk (nd : Nat → Nd) (N i : Nat) (v : Int) : Prop := v = -1 ∨ ((nd i).kind = 5 ∧ (v = -2 ∨ ∃ j : Nat, j < N ∧ v = (j : Int) ∧ (nd j).text = (nd i).text))
theorem BindI.ok {nd : Nat → Nd} {N M : Nat} {bn : Nat → Int} (h : BindI nd N M bn) (i : Nat) (hi : i < M) : BnOk nd N i (bn i) := by
 rcases h with ⟨h0, _⟩ | ⟨_, o, x, hv, ho, _, rfl⟩
 ·omega
 ·rcases apB_cases (treeE nd o N) (fun _ => -1) i with e | e
  ·exact .inl e
  ·have hg := tree_good (down_of ho) hv.1 _ e
   obtain ⟨h5, h | h | h⟩ := hg
   ·exact .inl h
   ·exact .inr ⟨h5, .inl h⟩
   ·exact .inr ⟨h5, .inr h⟩
theorem BindI.fits {nd : Nat → Nd} {N M : Nat} {bn : Nat → Int} (h : BindI nd N M bn) : 0 < M ↔ FaultI nd N 0 0 := by
 rcases h with ⟨h0, h1⟩ | ⟨rfl, o, x, hv, ho, hf, _⟩
 ·constructor
  ·intro h; omega
  ·intro h; exact absurd h h1
 ·exact ⟨fun _ => .inr ⟨o, x, hv, ho, .inr ⟨hf, rfl, rfl⟩⟩, fun _ => hv.1⟩
end Go.Proofs.YtbakebdfmdepnaaGreatDoor
namespace Go.Proofs.YtbakebdfmdepnaaGreatDoor
open Go.RowKit
set_option maxRecDepth 20000
set_option maxHeartbeats 1000000 in
theorem specValid_0 (ad : Option Addr) (c : Nat) (w : World) :
  Calls Tryz.prog 12 #[.agg #[.slice ad 0 c]] w fun e w' => e = .returned (.bool false) ∧ Below w.heap.size w w' := by
 go_enter Tryz.func12, Tryz.ntmps12
 go_wp2_with (first
  | (go_at_call 23; refine (l1In_dec _ _ _ _).mono ?_; rintro e w' ⟨rfl, hw⟩; have hw2 := hw.symm; clear hw; subst hw2; rw [show (decide ((1 : Int) ≤ 0) && decide ((0 : Int) ≤ 5000)) = false from rfl]))
 go_ret
 exact ⟨rfl, (Below.refl _ _).alloc (Nat.le_refl _) _⟩
set_option maxHeartbeats 1000000 in
theorem implValid_0 (ad : Option Addr) (c : Nat) (w : World) :
  Calls Tryz.prog 19 #[.agg #[.slice ad 0 c]] w fun e w' => e = .returned (.bool false) ∧ Below w.heap.size w w' := by
 have HB := hid (below_two w (.cells #[.slice ad 0 c] 25) (.map (wordE 17) 17))
 go_enter Tryz.func19, Tryz.ntmps19
 go_wp2_with (go_at_call 35; refine (clayWords_any _).mono ?_; rintro e w' ⟨rfl, rfl⟩)
 go_loopw [4, 17] (fun vo i wr => vo = .slice none 0 0 ∧ i = .int .i64 0 ∧ Below w.heap.size w wr) (fun _ _ _ => 0)
 case atStart => exact ⟨rfl, rfl, HB.out⟩
 case round =>
  obtain ⟨rfl, rfl, hb⟩ := hrel
  have HB2 := hid hb
  clear hb
  go_wp2
  go_ret
  exact ⟨rfl, HB2.out⟩
set_option maxHeartbeats 1000000 in
theorem specCheck_0 (ad : Option Addr) (c : Nat) (w : World) :
  Calls Tryz.prog 6 #[.agg #[.slice ad 0 c]] w fun e w' => e = .returned (.agg #[.int .i64 11, .int .i64 0]) ∧ Below w.heap.size w w' := by
 have HA : Hid (Below w.heap.size w ((w.alloc (.cells #[.slice ad 0 c] 25)).alloc (.cells #[.int .i64 0, .int .i64 0] 28))) := ((Below.refl _ _).alloc (Nat.le_refl _) _).alloc (by simp) _
 have HY : Hid (((w.alloc (.cells #[.slice ad 0 c] 25)).alloc (.cells #[.int .i64 0, .int .i64 0] 28)).heap[w.heap.size + 1]? = some (.cells #[.int .i64 0, .int .i64 0] 28 (0, 0))) := by
  have := heap_alloc_new (w.alloc (.cells #[.slice ad 0 c] 25)) (.cells #[.int .i64 0, .int .i64 0] 28)
  rwa [World.size_alloc] at this
 go_enter Tryz.func6, Tryz.ntmps6
 go_wp2_with fail
 refine (specValid_0 ad c _).mono ?_
 rintro e w1 ⟨rfl, hb1⟩
 have hy := (hb1.block (w.heap.size + 1) (by simp)).trans HY.out
 have y0 : w1.cell? ⟨w.heap.size + 1, 0, none⟩ = some (.int .i64 0) := by unfold World.cell?; rw [hy]; rfl
 have y1 : w1.cell? ⟨w.heap.size + 1, 1, none⟩ = some (.int .i64 0) := by unfold World.cell?; rw [hy]; rfl
 have z0 : w1.frozen? ⟨w.heap.size + 1, 0, none⟩ = false := by unfold World.frozen?; rw [hy]; simp
 have z1 : w1.frozen? ⟨w.heap.size + 1, 1, none⟩ = false := by unfold World.frozen?; rw [hy]; simp
 have HB1 := hid (HA.out.trans (hb1.mono (by simp; omega)))
 have HE : Hid (∀ a b, Below w.heap.size w ((w1.setCell ⟨w.heap.size + 1, 0, none⟩ a).setCell ⟨w.heap.size + 1, 1, none⟩ b)) := fun a b => (HB1.out.setCell (p := ⟨w.heap.size + 1, 0, none⟩) (Nat.le_succ _) _).setCell (p := ⟨w.heap.size + 1, 1, none⟩) (Nat.le_succ _) _
 clear hb1 hy
 go_wp2
 exact bodyPost_ret (v := .agg #[.int .i64 11, .int .i64 0]) (by simp [results, Tryz.results6, go_sem, y0, y1]) rfl ⟨rfl, HE.out _ _⟩
set_option maxHeartbeats 1000000 in
theorem specBinds_0 (ad : Option Addr) (c : Nat) (w : World) :
  Calls Tryz.prog 8 #[.agg #[.slice ad 0 c]] w fun e w' => (∃ ad2 c2, e = .returned (.slice ad2 0 c2)) ∧ Below w.heap.size w w' := by
 have HF : Hid (∀ W, Calls Tryz.prog 14 #[.agg #[.slice ad 0 c]] W fun e w' => e = .returned (.bool false) ∧ Below W.heap.size W w') := fun W => by
  have HA : Hid (Below W.heap.size W (W.alloc (.cells #[.slice ad 0 c] 25))) := (Below.refl _ _).alloc (Nat.le_refl _) _
  go_enter Tryz.func14, Tryz.ntmps14
  go_wp2_with fail
  refine (specCheck_0 ad c _).mono ?_
  rintro e w1 ⟨rfl, hb1⟩
  have HB := hid (HA.out.trans (hb1.mono (by simp)))
  clear hb1
  have hfc := field_code 11 0 w1
  go_wp2
  go_ret
  exact ⟨rfl, HB.out⟩
 have HA : Hid (Below w.heap.size w (w.alloc (.cells #[.slice ad 0 c] 25))) := (Below.refl _ _).alloc (Nat.le_refl _) _
 go_enter Tryz.func8, Tryz.ntmps8
 go_wp2_with fail
 refine (HF.out _).mono ?_
 rintro e w1 ⟨rfl, hb1⟩
 have HB := hid (HA.out.trans (hb1.mono (by simp)))
 have HE : Hid (∀ o, Below w.heap.size w (w1.alloc o)) := fun o => HB.out.alloc HB.out.size o
 clear hb1 HF
 go_wp2
 go_ret
 exact ⟨⟨_, _, rfl⟩, HE.out _⟩
set_option maxHeartbeats 1000000 in
theorem bound_0 (ad : Option Addr) (c : Nat) (w : World) :
  Calls Tryz.prog 11 #[.agg #[.slice ad 0 c]] w fun e w' => e = .returned (.tuple #[.slice none 0 0, .agg #[.int .i64 11, .int .i64 0]]) ∧ Below w.heap.size w w' := by
 have HA : Hid (Below w.heap.size w ((w.alloc (.cells #[.slice ad 0 c] 25)).alloc (.cells #[.int .i64 0, .int .i64 0] 28))) := ((Below.refl _ _).alloc (Nat.le_refl _) _).alloc (by simp) _
 have HY : Hid (((w.alloc (.cells #[.slice ad 0 c] 25)).alloc (.cells #[.int .i64 0, .int .i64 0] 28)).heap[w.heap.size + 1]? = some (.cells #[.int .i64 0, .int .i64 0] 28 (0, 0))) := by
  have := heap_alloc_new (w.alloc (.cells #[.slice ad 0 c] 25)) (.cells #[.int .i64 0, .int .i64 0] 28)
  rwa [World.size_alloc] at this
 go_enter Tryz.func11, Tryz.ntmps11
 go_wp2_with fail
 refine (implValid_0 ad c _).mono ?_
 rintro e w1 ⟨rfl, hb1⟩
 have hy := (hb1.block (w.heap.size + 1) (by simp)).trans HY.out
 have y0 : w1.cell? ⟨w.heap.size + 1, 0, none⟩ = some (.int .i64 0) := by unfold World.cell?; rw [hy]; rfl
 have y1 : w1.cell? ⟨w.heap.size + 1, 1, none⟩ = some (.int .i64 0) := by unfold World.cell?; rw [hy]; rfl
 have z0 : w1.frozen? ⟨w.heap.size + 1, 0, none⟩ = false := by unfold World.frozen?; rw [hy]; simp
 have z1 : w1.frozen? ⟨w.heap.size + 1, 1, none⟩ = false := by unfold World.frozen?; rw [hy]; simp
 have HB1 := hid (HA.out.trans (hb1.mono (by simp; omega)))
 have HE : Hid (∀ k a b, Below w.heap.size w (((w1.drewN k).setCell ⟨w.heap.size + 1, 0, none⟩ a).setCell ⟨w.heap.size + 1, 1, none⟩ b)) := fun k a b => ((below_drewN HB1.out k).setCell (p := ⟨w.heap.size + 1, 0, none⟩) (Nat.le_succ _) _).setCell (p := ⟨w.heap.size + 1, 1, none⟩) (Nat.le_succ _) _
 clear hb1 hy
 go_wp2
 first
 | exact bodyPost_ret (v := .tuple #[.slice none 0 0, .agg #[.int .i64 11, .int .i64 0]]) (by simp [results, Tryz.results11, go_sem, y0, y1]) rfl ⟨rfl, HE.out 0 _ _⟩
 | exact bodyPost_ret (v := .tuple #[.slice none 0 0, .agg #[.int .i64 11, .int .i64 0]]) (by simp [results, Tryz.results11, go_sem, y0, y1]) rfl ⟨rfl, HE.out _ _ _⟩
set_option maxHeartbeats 1000000 in
theorem implBinds_0 (ad : Option Addr) (c : Nat) (w : World) :
  Calls Tryz.prog 7 #[.agg #[.slice ad 0 c]] w fun e w' => (∃ ad2 c2, e = .returned (.slice ad2 0 c2)) ∧ Below w.heap.size w w' := by
 have HA : Hid (Below w.heap.size w (w.alloc (.cells #[.slice ad 0 c] 25))) := (Below.refl _ _).alloc (Nat.le_refl _) _
 go_enter Tryz.func7, Tryz.ntmps7
 go_wp2_with fail
 refine (bound_0 ad c _).mono ?_
 rintro e w1 ⟨rfl, hb1⟩
 have HB := hid (HA.out.trans (hb1.mono (by simp)))
 have HE : Hid (∀ o, Below w.heap.size w (w1.alloc o)) := fun o => HB.out.alloc HB.out.size o
 clear hb1
 go_wp2
 go_ret
 exact ⟨⟨_, _, rfl⟩, HE.out _⟩
set_option maxHeartbeats 1000000 in
theorem implCheck_0 (ad : Option Addr) (c : Nat) (w : World) :
  Calls Tryz.prog 5 #[.agg #[.slice ad 0 c]] w fun e w' => e = .returned (.agg #[.int .i64 11, .int .i64 0]) ∧ Below w.heap.size w w' := by
 have HA : Hid (Below w.heap.size w ((w.alloc (.cells #[.slice ad 0 c] 25)).alloc (.cells #[.int .i64 0, .int .i64 0] 28))) := ((Below.refl _ _).alloc (Nat.le_refl _) _).alloc (by simp) _
 have HY : Hid (((w.alloc (.cells #[.slice ad 0 c] 25)).alloc (.cells #[.int .i64 0, .int .i64 0] 28)).heap[w.heap.size + 1]? = some (.cells #[.int .i64 0, .int .i64 0] 28 (0, 0))) := by
  have := heap_alloc_new (w.alloc (.cells #[.slice ad 0 c] 25)) (.cells #[.int .i64 0, .int .i64 0] 28)
  rwa [World.size_alloc] at this
 go_enter Tryz.func5, Tryz.ntmps5
 go_wp2_with fail
 refine (bound_0 ad c _).mono ?_
 rintro e w1 ⟨rfl, hb1⟩
 have hsz : w.heap.size + 2 ≤ w1.heap.size := by have := hb1.size; simp at this; omega
 have hF4 : (w1.alloc (.cells #[.int .i64 11, .int .i64 0] 28)).heap[w.heap.size + 1]? = some (.cells #[.int .i64 0, .int .i64 0] 28 (0, 0)) := (Below.heap_alloc _ _ _ (by omega)).trans ((hb1.block (w.heap.size + 1) (by simp)).trans HY.out)
 obtain ⟨r0, r1, r2, r3⟩ := zero2 hF4
 obtain ⟨q1, q2⟩ := ret2 hF4 (.int .i64 11) (.int .i64 0)
 have HB : Hid (Below w.heap.size w (((w1.alloc (.cells #[.int .i64 11, .int .i64 0] 28)).setCell ⟨w.heap.size + 1, 0, none⟩ (.int .i64 11)).setCell ⟨w.heap.size + 1, 1, none⟩ (.int .i64 0))) := (((HA.out.trans (hb1.mono (by simp; omega))).alloc (by omega) _).setCell (p := ⟨w.heap.size + 1, 0, none⟩) (Nat.le_succ _) _).setCell (p := ⟨w.heap.size + 1, 1, none⟩) (Nat.le_succ _) _
 clear hb1 hF4
 go_wp2
 clear r0 r1 r2 r3
 generalize ((w1.alloc (.cells #[.int .i64 11, .int .i64 0] 28)).setCell ⟨w.heap.size + 1, 0, none⟩ (.int .i64 11)).setCell ⟨w.heap.size + 1, 1, none⟩ (.int .i64 0) = w5 at *
 exact bodyPost_ret (v := .agg #[.int .i64 11, .int .i64 0]) (by simp [results, Tryz.results5, go_sem, q1, q2]) rfl ⟨rfl, HB.out⟩
theorem eqFlt9 (c a c' a' : Int) (w : World) : (Op.equalIn 10000 28 (.agg #[.int .i64 c, .int .i64 a]) (.agg #[.int .i64 c', .int .i64 a'])).run Tryz.prog w = .ok (c == c' && a == a') w := by
 have u3 := Tryz.underlying3
 have hS : Tryz.prog.underlying 28 = some (.struct (Tryz.prog.fieldsOf 28)) := by kernel_rfl
 have hp : Tryz.prog.stoodInHeld 28 = false := by kernel_rfl
 rw [show (10000 : Nat) = 9999 + 1 from rfl, run_equalIn_agg w 9999 28 _ _ hS hp]
 simp only [Program.fieldsOf, Tryz.underlying28]
 go_simp
 by_cases h1 : c = c' <;> by_cases h2 : a = a' <;> simp [h1, h2]
theorem neqFlt9 (c a : Int) (w : World) : (binOp .neq 28 (.agg #[.int .i64 c, .int .i64 a]) (.agg #[.int .i64 c, .int .i64 a])).run Tryz.prog w = .ok (.bool false) w := by
 rw [run_neq_struct, eqFlt9]
 simp
theorem eqlFlt9 (c a : Int) (w : World) : (binOp .eql 28 (.agg #[.int .i64 c, .int .i64 a]) (.agg #[.int .i64 0, .int .i64 0])).run Tryz.prog w = .ok (.bool (c == 0 && a == 0)) w := by
 rw [run_eql_struct, eqFlt9]
 simp
theorem fault_ex (nd : Nat → Nd) (N : Nat) : ∃ c a, FaultI nd N c a := by
 by_cases hv : ValidT nd N
 ·obtain ⟨o, x, ho, _⟩ := hv.2.2.2
  cases hf : fls (treeE nd o N) with
  | nil => exact ⟨0, 0, .inr ⟨o, x, hv, ho, .inr ⟨hf, rfl, rfl⟩⟩⟩
  | cons y r => exact ⟨_, _, .inr ⟨o, x, hv, ho, .inl ⟨y.1, y.2, r, hf, code_pos hv ho hf, rfl, rfl⟩⟩⟩
 ·exact ⟨11, 0, .inl ⟨hv, rfl, rfl⟩⟩
set_option maxHeartbeats 1000000 in
theorem wcFits_of (v : Value) (c a : Int) (w : World) (hs : ∀ W, Below w.heap.size w W → Calls Tryz.prog 6 #[.agg #[v]] W fun e w' => e = .returned (.agg #[.int .i64 c, .int .i64 a]) ∧ Below W.heap.size W w') (hv : ∃ ad n k, v = .slice ad n k) :
  Calls Tryz.prog 9 #[.agg #[v]] w fun e w' => e = .returned (.bool (c == 0 && a == 0)) ∧ Below w.heap.size w w' := by
 obtain ⟨ad, n, k, rfl⟩ := hv
 have HA := hid ((Below.refl w.heap.size w).alloc (Nat.le_refl _) (.cells #[.slice ad n k] 25))
 have HS := hid (hs _ HA.out)
 have he := fun W => eqlFlt9 c a W
 clear hs
 go_enter Tryz.func9, Tryz.ntmps9
 go_wp2_with fail
 refine HS.out.mono ?_
 rintro e w1 ⟨rfl, hb⟩
 have HB := hid (HA.out.trans (hb.mono (by simp)))
 clear hb
 go_wp2
 go_ret
 exact ⟨rfl, HB.out⟩
set_option maxHeartbeats 8000000 in
theorem post_at {s : Ds} {ov0 : Value} {w0 : World} {p n : Nat} {bad : Bool} {w : World} (hE : ∀ q, p < q → EOk9 s q) (h : Ad s ov0 w0 p bad n w) (hl : n + 2 * s.T ≤ 400000 + 2 * p) :
  Calls Tryz.prog 105 #[.pointer (some ⟨s.D, 0, none⟩)] w (DE 0 s ov0 w0 p n) := by
 have HA0 := hid h
 have hT := h.pT.2
 clear h
 go_enter Tryz.func105, Tryz.ntmps105
 go_wp2_with fail
 refine (single_at hE HA0.out (by have := HA0.out.pT; omega)).mono ?_
 rintro e w1 ⟨rfl, p1, b1, n1, l1a, l1b, l1c, a1⟩
 have HA1 := hid a1
 clear a1 HA0
 go_wp2
 go_loopw [] (fun wr => ∃ q k : Nat, ∃ bb : Bool, p ≤ q ∧ n ≤ k ∧ k + 2 * p ≤ n + 2 * q ∧ Ad s ov0 w0 q bb k wr) (fun wr => s.T - deskP s wr)
 case atStart => exact ⟨p1, n1, b1, by omega, by omega, by omega, HA1.out⟩
 case round =>
  obtain ⟨q, k, bb, lq, lk, lkq, ad⟩ := hrel
  have HAr := hid ad
  have HDP := hid ad.deskP
  have hqT := ad.pT.1
  clear ad HA1
  obtain ⟨_, _, c3, _⟩ := HAr.out.cells
  cases bb
  ·go_wp2_with fail
   refine (take_at HAr.out _).mono ?_
   rintro e w2 (⟨rfl, l2, a2⟩ | ⟨rfl, a2⟩)
   ·have HA2 := hid a2
    clear a2 HAr
    go_wp2_with fail
    refine (args_at (p := (q + 1)) (fun q hq => hE q (by omega)) HA2.out (by have := HA2.out.pT; omega)).mono ?_
    rintro e w3 ⟨m3, p3, b3, n3, rfl, l3m, l3a, l3b, l3c, a3⟩
    have HA3 := hid a3
    have z3 := a3.pT.1
    have hm3 : m3 ≤ 100001 := by omega
    clear a3 HA2
    go_wp2_with fail
    refine (put_at9 HA3.out ⟨12, 0, 0, ⟨#[]⟩, 1 + (m3 : Int)⟩ (by show (⟨#[]⟩ : ByteArray).size ≤ 1000; decide) (by have := HA3.out.pT; omega)).mono ?_
    rintro e w4 ⟨rfl, a4⟩
    have HA4 := hid a4
    clear a4 HA3
    go_wp2
    go_roundw
    case rel => exact ⟨p3, (n3 + 1), b3, by omega, by omega, by omega, HA4.out⟩
    case measure => rw [HA4.out.deskP, HDP.out]; have := HA4.out.pT; omega
   ·have HA2 := hid a2
    clear a2 HAr
    go_wp2_with fail
    refine (take_at HA2.out _).mono ?_
    rintro e w5 (⟨rfl, l5, a5⟩ | ⟨rfl, a5⟩)
    ·have HA5 := hid a5
     clear a5 HA2
     go_wp2_with fail
     refine (hE (q + 1) (by omega) _ _ _ _ _ HA5.out (by have := HA5.out.pT; omega)).mono ?_
     rintro e w6 ⟨rfl, p6, b6, n6, l6a, l6b, l6c, a6⟩
     have HA6 := hid a6
     clear a6 HA5
     go_wp2_with fail
     refine (need_at HA6.out _).mono ?_
     rintro e w7 ⟨rfl, p7, b7, l7a, l7b, a7⟩
     have HA7 := hid a7
     clear a7 HA6
     go_wp2_with fail
     refine (put_at9 HA7.out ⟨10, 0, 0, ⟨#[]⟩, 2⟩ (by show (⟨#[]⟩ : ByteArray).size ≤ 1000; decide) (by have := HA7.out.pT; omega)).mono ?_
     rintro e w8 ⟨rfl, a8⟩
     have HA8 := hid a8
     clear a8 HA7
     go_wp2
     go_roundw
     case rel => exact ⟨p7, (n6 + 1), b7, by omega, by omega, by omega, HA8.out⟩
     case measure => rw [HA8.out.deskP, HDP.out]; have := HA8.out.pT; omega
    ·have HA5 := hid a5
     clear a5 HA2
     go_wp2_with fail
     refine (take_at HA5.out _).mono ?_
     rintro e w9 (⟨rfl, l9, a9⟩ | ⟨rfl, a9⟩)
     ·have HA9 := hid a9
      clear a9 HA5
      go_wp2_with fail
      refine (name_at9 HA9.out).mono ?_
      rintro e w10 ⟨t10, p10, b10, rfl, x10, l10a, l10b, l10c, a10⟩
      have HA10 := hid a10
      have HX10 := hid x10
      have HC10 := hid l10c
      clear a10 HA9 l10c x10
      go_wp2_with fail
      refine (put_at9 HA10.out ⟨11, 0, 0, t10, 1⟩ (HX10.out) (by have := HA10.out.pT; omega)).mono ?_
      rintro e w11 ⟨rfl, a11⟩
      have HA11 := hid a11
      clear a11 HA10
      go_wp2
      go_roundw
      case rel => exact ⟨p10, (k + 1), b10, by omega, by omega, by omega, HA11.out⟩
      case measure => rw [HA11.out.deskP, HDP.out]; have := HA11.out.pT; omega
     ·have HA9 := hid a9
      clear a9 HA5
      go_wp2
      exact bodyPost_ret (results_none rfl _ _ _) rfl ⟨rfl, q, false, k, by omega, by omega, by omega, HA9.out⟩
  ·skip
   go_wp2
   go_end0
   exact ⟨rfl, q, true, k, by omega, by omega, by omega, HAr.out⟩
set_option maxHeartbeats 4000000 in
theorem ops3_at {s : Ds} {p : Nat} (hn : OpsOk9 s 4 p) (hN : ∀ q, p < q → OpsOk9 s 3 q) (bad : Bool) (n : Nat) (ov0 : Value) (w0 w : World) (h : Ad s ov0 w0 p bad n w) (hl : n + 2 * s.T ≤ 400000 + 2 * p) :
  Calls Tryz.prog 98 #[.pointer (some ⟨s.D, 0, none⟩), .int .i64 3] w (DE 0 s ov0 w0 p n) := by
 have HA0 := hid h
 have hT := h.pT.2
 clear h
 obtain ⟨_, _, c3, _⟩ := HA0.out.cells
 cases bad
 ·go_enter Tryz.func98, Tryz.ntmps98
  go_wp2_with fail
  refine (take_at HA0.out _).mono ?_
  rintro e w1 (⟨rfl, l1, a1⟩ | ⟨rfl, a1⟩)
  ·have HA1 := hid a1
   clear a1 HA0
   go_wp2_with fail
   refine (hN (p + 1) (by omega) _ _ _ _ _ HA1.out (by have := HA1.out.pT; omega)).mono ?_
   rintro e w2 ⟨rfl, p2, b2, n2, l2a, l2b, l2c, a2⟩
   have HA2 := hid a2
   clear a2 HA1
   go_wp2_with fail
   refine (put_at9 HA2.out ⟨6, 1, 0, ⟨#[]⟩, 1⟩ (by show (⟨#[]⟩ : ByteArray).size ≤ 1000; decide) (by have := HA2.out.pT; omega)).mono ?_
   rintro e w3 ⟨rfl, a3⟩
   have HA3 := hid a3
   clear a3 HA2
   go_wp2
   exact bodyPost_ret (results_none rfl _ _ _) rfl ⟨rfl, p2, b2, (n2 + 1), by omega, by omega, by omega, HA3.out⟩
  ·have HA1 := hid a1
   clear a1 HA0
   go_wp2_with fail
   refine (hn _ _ _ _ _ HA1.out (by have := HA1.out.pT; omega)).mono ?_
   rintro e w4 ⟨rfl, p4, b4, n4, l4a, l4b, l4c, a4⟩
   have HA4 := hid a4
   clear a4 HA1
   go_wp2
   exact bodyPost_ret (results_none rfl _ _ _) rfl ⟨rfl, p4, b4, n4, by omega, by omega, by omega, HA4.out⟩
 ·go_enter Tryz.func98, Tryz.ntmps98
  go_wp2
  exact bodyPost_ret (results_none rfl _ _ _) rfl ⟨rfl, p, true, n, by omega, by omega, by omega, HA0.out⟩
set_option maxHeartbeats 4000000 in
theorem ops7_at {s : Ds} {p : Nat} (hE : ∀ q, p < q → EOk9 s q) (hN : ∀ q, p < q → OpsOk9 s 7 q) (bad : Bool) (n : Nat) (ov0 : Value) (w0 w : World) (h : Ad s ov0 w0 p bad n w) (hl : n + 2 * s.T ≤ 400000 + 2 * p) :
  Calls Tryz.prog 98 #[.pointer (some ⟨s.D, 0, none⟩), .int .i64 7] w (DE 0 s ov0 w0 p n) := by
 have HA0 := hid h
 have hT := h.pT.2
 clear h
 obtain ⟨_, _, c3, _⟩ := HA0.out.cells
 cases bad
 ·go_enter Tryz.func98, Tryz.ntmps98
  go_wp2_with fail
  refine (take_at HA0.out _).mono ?_
  rintro e w1 (⟨rfl, l1, a1⟩ | ⟨rfl, a1⟩)
  ·have HA1 := hid a1
   clear a1 HA0
   go_wp2_with fail
   refine (hN (p + 1) (by omega) _ _ _ _ _ HA1.out (by have := HA1.out.pT; omega)).mono ?_
   rintro e w2 ⟨rfl, p2, b2, n2, l2a, l2b, l2c, a2⟩
   have HA2 := hid a2
   clear a2 HA1
   go_wp2_with fail
   refine (put_at9 HA2.out ⟨6, 2, 0, ⟨#[]⟩, 1⟩ (by show (⟨#[]⟩ : ByteArray).size ≤ 1000; decide) (by have := HA2.out.pT; omega)).mono ?_
   rintro e w3 ⟨rfl, a3⟩
   have HA3 := hid a3
   clear a3 HA2
   go_wp2
   exact bodyPost_ret (results_none rfl _ _ _) rfl ⟨rfl, p2, b2, (n2 + 1), by omega, by omega, by omega, HA3.out⟩
  ·have HA1 := hid a1
   clear a1 HA0
   go_wp2_with fail
   refine (post_at hE HA1.out (by have := HA1.out.pT; omega)).mono ?_
   rintro e w4 ⟨rfl, p4, b4, n4, l4a, l4b, l4c, a4⟩
   have HA4 := hid a4
   clear a4 HA1
   go_wp2
   exact bodyPost_ret (results_none rfl _ _ _) rfl ⟨rfl, p4, b4, n4, by omega, by omega, by omega, HA4.out⟩
 ·go_enter Tryz.func98, Tryz.ntmps98
  go_wp2
  exact bodyPost_ret (results_none rfl _ _ _) rfl ⟨rfl, p, true, n, by omega, by omega, by omega, HA0.out⟩
set_option maxHeartbeats 8000000 in
theorem opsB_at {s : Ds} {p : Nat} (r : Int) (hr1 : 1 ≤ r) (hr6 : r ≤ 6) (h3 : r ≠ 3) (h7 : r ≠ 7) (hn : OpsOk9 s (r + 1) p) (hN : ∀ q, p < q → OpsOk9 s (r + 1) q) (bad : Bool) (n : Nat) (ov0 : Value) (w0 w : World) (h : Ad s ov0 w0 p bad n w) (hl : n + 2 * s.T ≤ 400000 + 2 * p) :
  Calls Tryz.prog 98 #[.pointer (some ⟨s.D, 0, none⟩), .int .i64 r] w (DE 0 s ov0 w0 p n) := by
 have HA0 := hid h
 have hT := h.pT.2
 clear h
 obtain ⟨_, _, c3, _⟩ := HA0.out.cells
 have r3 : (r == 3) = false := by simpa using h3
 have r7 : (r == 7) = false := by simpa using h7
 cases bad
 ·go_enter Tryz.func98, Tryz.ntmps98
  go_wp2_with fail
  refine (hn _ _ _ _ _ HA0.out (by have := HA0.out.pT; omega)).mono ?_
  rintro e w1 ⟨rfl, p1, b1, n1, l1a, l1b, l1c, a1⟩
  have HA1 := hid a1
  clear a1 HA0
  go_wp2
  go_loopw [] (fun wr => ∃ q k : Nat, ∃ bb : Bool, p ≤ q ∧ n ≤ k ∧ k + 2 * p ≤ n + 2 * q ∧ Ad s ov0 w0 q bb k wr) (fun wr => s.T - deskP s wr)
  case atStart => exact ⟨p1, n1, b1, by omega, by omega, by omega, HA1.out⟩
  case round =>
   obtain ⟨q, k, bb, lq, lk, lkq, ad⟩ := hrel
   have HAr := hid ad
   have HDP := hid ad.deskP
   have hqT := ad.pT.1
   clear ad HA1
   go_wp2_with fail
   refine (op_at _ HAr.out).mono ?_
   rintro e w2 ⟨r2, rfl, l2a, l2b, a2⟩
   have HA2 := hid a2
   have HL2 := hid l2b
   clear a2 HAr l2b
   rcases Nat.eq_zero_or_pos r2 with rfl | hr1
   ·skip
    go_wp2
    exact bodyPost_ret (results_none rfl _ _ _) rfl ⟨rfl, q, bb, k, by omega, by omega, by omega, HA2.out⟩
   ·have hr0 : ((r2 : Int) == 0) = false := by simp; omega
    have hqt := HL2.out (by omega)
    obtain ⟨_, d2, _, f2⟩ := HA2.out.cells
    have HAi := hid (HA2.out.inc hqt)
    go_wp2_with fail
    refine (hN (q + 1) (by omega) _ _ _ _ _ HAi.out (by omega)).mono ?_
    rintro e w3 ⟨rfl, p3, b3, n3, l3a, l3b, l3c, a3⟩
    have HA3 := hid a3
    clear a3 HAi
    clear d2 f2 HA2
    go_wp2_with fail
    refine (put_at9 HA3.out ⟨7, (r2 : Int), 0, ⟨#[]⟩, 2⟩ (by show (⟨#[]⟩ : ByteArray).size ≤ 1000; decide) (by have := HA3.out.pT; omega)).mono ?_
    rintro e w4 ⟨rfl, a4⟩
    have HA4 := hid a4
    clear a4 HA3
    by_cases h4 : r = 4
    ·subst h4
     go_wp2
     exact bodyPost_ret (results_none rfl _ _ _) rfl ⟨rfl, p3, b3, (n3 + 1), by omega, by omega, by omega, HA4.out⟩
    ·have r4 : (r == 4) = false := by simpa using h4
     go_wp2
     go_roundw
     case rel => exact ⟨p3, (n3 + 1), b3, by omega, by omega, by omega, HA4.out⟩
     case measure => rw [HA4.out.deskP, HDP.out]; have := HA4.out.pT; omega
 ·go_enter Tryz.func98, Tryz.ntmps98
  go_wp2
  exact bodyPost_ret (results_none rfl _ _ _) rfl ⟨rfl, p, true, n, by omega, by omega, by omega, HA0.out⟩
end Go.Proofs.YtbakebdfmdepnaaGreatDoor
