import Derived.Deep.DeepCutAuto
import Derived.Test.YtbakebdfmdepnaaGreatDoorJ02
import Derived.Test.YtbakebdfmdepnaaGreatDoorJ27
import Derived.Test.YtbakebdfmdepnaaGreatDoorJ24
import Derived.Test.YtbakebdfmdepnaaGreatDoorJ22
import Derived.Test.YtbakebdfmdepnaaGreatDoorJ28
namespace Go.Proofs.YtbakebdfmdepnaaGreatDoor
open Go.RowKit
set_option maxRecDepth 20000
set_option maxHeartbeats 4000000 in
theorem KO_C (kind : Int) (hkind : kind = 10 ∨ kind = 11 ∨ kind = 13 ∨ kind = 14 ∨ kind = 17) : KO kind := by
 intro b N cap g o m c nd ks w hm hb hg hn hk
 have HN := hid hn
 have HK := hid hk
 clear hn hk
 go_enter Tryz.func26, Tryz.ntmps26
 go_wp2
 go_loopw [8, 10] (fun es i wr => ∃ j e : Nat, j ≤ m ∧ e ≤ j ∧ i = .int .i64 j ∧ es = .int .i64 e ∧ (e = j ↔ AllE j (fun i => nd (ks i))) ∧ Below (w.heap.size + 1) (w.alloc (.cells #[.slice (some ⟨b, 0, none⟩) N cap] 25)) wr) (fun _ i _ => m - (intOf i).toNat)
 case atStart => exact ⟨0, 0, Nat.zero_le _, Nat.zero_le _, rfl, rfl, ⟨fun _ i h => absurd h (Nat.not_lt_zero _), fun _ => rfl⟩, Below.refl _ _⟩
 case round =>
  obtain ⟨j, e, hj, he, rfl, rfl, hall, hbw⟩ := hrel
  have HALL := hid hall
  have HBW := hid hbw
  clear hall hbw
  by_cases hlt : j < m
  ·have t0 := tree_cell HBW.out
   obtain ⟨a0, a1⟩ := (HK.out.below (btree HBW.out) hg) j hlt
   obtain ⟨a2, _⟩ := (HN.out.below (btree HBW.out) hb) (ks j) a1
   have HS := hid (AllE_step HALL.out he)
   cases hE : isE (nd (ks j)).kind
   ·have NX := hid (HS.out.2 hE)
    clear HS
    go_wp2
    go_region_with (go_at_call 47; refine (l2E_any _ _).mono ?_; rintro e w' ⟨rfl, hw⟩; have hw2 := hw.symm; clear hw; subst hw2)
    all_goals go_wp2
    all_goals
     go_roundw
     case rel => exact ⟨j + 1, e, by omega, by omega, by go_num, rfl, NX.out, HBW.out.drew⟩
     case measure => simp [intOf]; omega
   ·have NX := hid (HS.out.1 hE)
    clear HS
    go_wp2
    go_region_with (go_at_call 47; refine (l2E_any _ _).mono ?_; rintro e w' ⟨rfl, hw⟩; have hw2 := hw.symm; clear hw; subst hw2)
    all_goals go_wp2
    all_goals
     go_roundw
     case rel => exact ⟨j + 1, e + 1, by omega, by omega, by go_num, by go_num, NX.out, HBW.out.drew⟩
     case measure => simp [intOf]; omega
  ·obtain rfl : j = m := by omega
   rcases hkind with rfl | rfl | rfl | rfl | rfl
   all_goals go_wp2
   all_goals go_ret
   all_goals refine ⟨⟨_, rfl, ?_⟩, btree HBW.out⟩
   all_goals simp [KidsOk, ← HALL.out, *]
   all_goals omega
section
variable {s : Ds} {p n : Nat} {bad : Bool} {ov : Value} {w : World}
theorem tkKind (k m q : Int) (t : ByteArray) (w : World) : (Instr.field 120 (.agg #[.int .i64 k, .string t, .int .i64 m, .int .i64 q]) 0).run Tryz.prog w = .ok (.int .i64 k) w := by kernel_rfl
theorem tkPlace (k m q : Int) (t : ByteArray) (w : World) : (Instr.field 120 (.agg #[.int .i64 k, .string t, .int .i64 m, .int .i64 q]) 3).run Tryz.prog w = .ok (.int .i64 q) w := by kernel_rfl
theorem tbox {W : World} {g : Nat} {k m q : Int} {t : ByteArray} (e : W.heap[g]? = some (.cells #[.int .i64 k, .string t, .int .i64 m, .int .i64 q] 120 (0, 0))) : (W.cell? ⟨g, 0, none⟩ = some (.int .i64 k) ∧ W.cell? ⟨g, 1, none⟩ = some (.string t) ∧ W.cell? ⟨g, 2, none⟩ = some (.int .i64 m) ∧ W.cell? ⟨g, 3, none⟩ = some (.int .i64 q)) ∧ W.frozen? ⟨g, 0, none⟩ = false ∧ W.frozen? ⟨g, 1, none⟩ = false ∧ W.frozen? ⟨g, 2, none⟩ = false ∧ W.frozen? ⟨g, 3, none⟩ = false :=
 ⟨⟨cell_hp e 0, cell_hp e 1, cell_hp e 2, cell_hp e 3⟩, frozen_hp e 0, frozen_hp e 1, frozen_hp e 2, frozen_hp e 3⟩
theorem four_below {w W0 : World} {rb : Nat} (h : Below w.heap.size w W0) (hrb : w.heap.size = rb) (k : Nat) (a b c d : Value) : Below w.heap.size w (((((W0.drewN k).setCell ⟨rb, 0, none⟩ a).setCell ⟨rb, 1, none⟩ b).setCell ⟨rb, 2, none⟩ c).setCell ⟨rb, 3, none⟩ d) := by
 have h1 : Below w.heap.size w (W0.drewN k) := by
  induction k with
  | zero => exact h
  | succ k ih => exact ih.drew
 have hr : w.heap.size ≤ rb := by omega
 exact (((h1.setCell (p := ⟨rb, 0, none⟩) hr _).setCell (p := ⟨rb, 1, none⟩) hr _).setCell (p := ⟨rb, 2, none⟩) hr _).setCell (p := ⟨rb, 3, none⟩) hr _
set_option maxHeartbeats 1000000 in
theorem tok_in (h : Dk s p bad n ov w) (hp : p < s.T) :
  Calls Tryz.prog 83 #[.pointer (some ⟨s.D, 0, none⟩)] w fun e w' => e = .returned (.agg #[.int .i64 (s.tk p).kind, .string (s.tk p).text, .int .i64 (s.tk p).n, .int .i64 (s.tk p).place]) ∧ Below w.heap.size w w' := by
 have hTT := h.TT
 have hpT := h.pT
 have HB0 := hid ((Below.refl w.heap.size w).alloc (Nat.le_refl _) (.cells #[.int .i64 0, .string ⟨#[]⟩, .int .i64 0, .int .i64 0] 120))
 have HBX := hid (heap_alloc_new w (.cells #[.int .i64 0, .string ⟨#[]⟩, .int .i64 0, .int .i64 0] 120))
 have HD := hid (h.next HB0.out)
 clear h
 go_enter Tryz.func83, Tryz.ntmps83
 go_upto_region 1 with fail
 obtain ⟨rb, hrb⟩ : ∃ g, w.heap.size = g := ⟨_, rfl⟩
 obtain ⟨W0, hW0⟩ : ∃ W, w.alloc (.cells #[.int .i64 0, .string ⟨#[]⟩, .int .i64 0, .int .i64 0] 120) = W := ⟨_, rfl⟩
 rw [hW0] at HB0 HBX HD ⊢
 rw [hrb] at HBX ⊢
 have HRB := hid hrb
 clear hrb hW0
 obtain ⟨⟨r0, r1, r2, r3⟩, z0, z1, z2, z3⟩ := tbox HBX.out
 obtain ⟨c0, c1, c2, c3, c5⟩ := HD.out.cells
 have hta : s.ta = some ⟨s.b, 0, none⟩ := HD.out.tad.resolve_left (by omega)
 obtain ⟨t0, t1, t2, t3⟩ := HD.out.tks p hp
 rw [hta] at c0
 clear hta
 go_quiet (fail)
 go_wp2
 go_region
 go_wp2
 exact bodyPost_ret (v := .agg #[.int .i64 (s.tk p).kind, .string (s.tk p).text, .int .i64 (s.tk p).n, .int .i64 (s.tk p).place]) (by simp [results, Tryz.results83, go_sem, r0, r1, r2, r3]) rfl ⟨rfl, four_below HB0.out HRB.out _ _ _ _ _⟩
set_option maxHeartbeats 1000000 in
theorem tok_out (h : Dk s p bad n ov w) (hp : ¬ p < s.T) :
  Calls Tryz.prog 83 #[.pointer (some ⟨s.D, 0, none⟩)] w fun e w' => e = .returned (.agg #[.int .i64 0, .string ⟨#[]⟩, .int .i64 0, .int .i64 s.sz]) ∧ Below w.heap.size w w' := by
 have hTT := h.TT
 have hpT := h.pT
 have HB0 := hid ((Below.refl w.heap.size w).alloc (Nat.le_refl _) (.cells #[.int .i64 0, .string ⟨#[]⟩, .int .i64 0, .int .i64 0] 120))
 have HBX := hid (heap_alloc_new w (.cells #[.int .i64 0, .string ⟨#[]⟩, .int .i64 0, .int .i64 0] 120))
 have HD := hid (h.next HB0.out)
 clear h
 go_enter Tryz.func83, Tryz.ntmps83
 go_upto_region 1 with fail
 obtain ⟨rb, hrb⟩ : ∃ g, w.heap.size = g := ⟨_, rfl⟩
 obtain ⟨W0, hW0⟩ : ∃ W, w.alloc (.cells #[.int .i64 0, .string ⟨#[]⟩, .int .i64 0, .int .i64 0] 120) = W := ⟨_, rfl⟩
 rw [hW0] at HB0 HBX HD ⊢
 rw [hrb] at HBX ⊢
 have HRB := hid hrb
 clear hrb hW0
 obtain ⟨⟨r0, r1, r2, r3⟩, z0, z1, z2, z3⟩ := tbox HBX.out
 obtain ⟨c0, c1, c2, c3, c5⟩ := HD.out.cells
 go_quiet (fail)
 go_wp2
 exact bodyPost_ret (v := .agg #[.int .i64 0, .string ⟨#[]⟩, .int .i64 0, .int .i64 s.sz]) (by simp [results, Tryz.results83, go_sem, r0, r1, r2, r3]) rfl ⟨rfl, four_below HB0.out HRB.out _ _ _ _ _⟩
theorem tok_dk (h : Dk s p bad n ov w) :
  Calls Tryz.prog 83 #[.pointer (some ⟨s.D, 0, none⟩)] w fun e w' => ∃ (k m q : Int) (t : ByteArray), e = .returned (.agg #[.int .i64 k, .string t, .int .i64 m, .int .i64 q]) ∧ t.size ≤ 1000 ∧ (k ≠ 0 → p < s.T) ∧ Below w.heap.size w w' := by
 by_cases hp : p < s.T
 ·exact (tok_in h hp).mono fun e w' ⟨h1, h2⟩ => ⟨_, _, _, _, h1, h.txt p hp, fun _ => hp, h2⟩
 ·exact (tok_out h hp).mono fun e w' ⟨h1, h2⟩ => ⟨_, _, _, _, h1, by decide, fun h => absurd rfl h, h2⟩
set_option maxHeartbeats 1000000 in
theorem stop_dk (h : Dk s p bad n ov w) :
  Calls Tryz.prog 84 #[.pointer (some ⟨s.D, 0, none⟩)] w fun e w' => e = .returned (.tuple #[]) ∧ Dk s p true n ov w' ∧ Dt s ov w ov w' := by
 obtain ⟨c0, c1, c2, c3, c5⟩ := h.cells
 cases bad
 ·have f3 := h.fz 3
  have HD1 := hid (h.setbad true)
  have HT1 := hid (Dt.set s ov w 3 (.bool true))
  clear h
  go_enter Tryz.func84, Tryz.ntmps84
  go_wp2_with fail
  refine (tok_dk HD1.out).mono ?_
  rintro e w2 ⟨k, m, q, t, rfl, _, _, hb⟩
  have F3 := fun W => tkPlace k m q t W
  have HD2 := hid (HD1.out.next hb)
  have HT2 := hid (HT1.out.next hb)
  have f4 := HD2.out.fz 4
  obtain ⟨q0, c4⟩ := HD2.out.cell4
  clear hb HD1 HT1
  go_wp2
  go_end0
  exact ⟨rfl, HD2.out.setat q, HT2.out.trans (Dt.set s ov w2 4 (.int .i64 q))⟩
 ·have HD := hid h
  clear h
  go_enter Tryz.func84, Tryz.ntmps84
  go_wp2
  go_end0
  exact ⟨rfl, HD.out, Dt.refl _ _ _⟩
def IsEnd (s : Ds) (p : Nat) (bad : Bool) (w : World) (e : Ending) (w' : World) : Prop := ∃ b, e = .returned (.bool b) ∧ (b = true → bad = false ∧ p < s.T) ∧ Below w.heap.size w w'
theorem IsEnd.t {w' : World} (hb : bad = false) (hp : p < s.T) (h : Below w.heap.size w w') : IsEnd s p bad w (.returned (.bool true)) w' := ⟨true, rfl, fun _ => ⟨hb, hp⟩, h⟩
theorem IsEnd.f {w' : World} (h : Below w.heap.size w w') : IsEnd s p bad w (.returned (.bool false)) w' := ⟨false, rfl, fun h => (nomatch h), h⟩
set_option maxHeartbeats 2000000 in
theorem is_dk (h : Dk s p bad n ov w) (x : ByteArray) :
  Calls Tryz.prog 97 #[.pointer (some ⟨s.D, 0, none⟩), .string x] w (IsEnd s p bad w) := by
 have HD := hid h
 clear h
 go_enter Tryz.func97, Tryz.ntmps97
 go_wp2_with fail
 refine (tok_dk HD.out).mono ?_
 rintro e w2 ⟨k, m, q, t, rfl, _, hk, hb⟩
 have HK := hid hk
 have HB := hid hb
 have C3 : ∀ o, (w2.alloc o).cell? ⟨s.D, 3, none⟩ = some (.bool bad) := fun o => ((HD.out.next hb).next ((Below.refl _ _).alloc (Nat.le_refl _) o)).cells.2.2.2.1
 have HB9 : Hid (∀ o, Below w.heap.size w (w2.alloc o)) := fun o => hb.alloc hb.size o
 clear hb hk HB
 cases bad
 ·by_cases h2 : k = 2
  ·subst h2
   have hp := HK.out (by decide)
   go_wp2
   go_ret
   exact ⟨_, rfl, fun _ => ⟨rfl, hp⟩, HB9.out _⟩
  ·by_cases h5 : k = 5
   ·subst h5
    have hp := HK.out (by decide)
    go_wp2
    go_ret
    exact ⟨_, rfl, fun _ => ⟨rfl, hp⟩, HB9.out _⟩
   ·have e2 : (k == 2) = false := by simpa using h2
    have e5 : (k == 5) = false := by simpa using h5
    go_wp2
    go_ret
    exact .f (HB9.out _)
 ·go_wp2
  go_ret
  exact .f (HB9.out _)
theorem Dk.inc (h : Dk s p bad n ov w) (hp : p < s.T) : Dk s (p + 1) bad n ov (w.setCell ⟨s.D, 2, none⟩ (.int .i64 ((p : Int) + 1))) := by
 have := h.setp (p + 1) hp
 simpa using this
def TkEnd (s : Ds) (p : Nat) (bad : Bool) (n : Nat) (ov : Value) (w : World) (e : Ending) (w' : World) : Prop :=
 (e = .returned (.bool true) ∧ bad = false ∧ p < s.T ∧ Dk s (p + 1) bad n ov w' ∧ Dt s ov w ov w') ∨ (e = .returned (.bool false) ∧ Dk s p bad n ov w' ∧ Dt s ov w ov w')
set_option maxHeartbeats 1000000 in
theorem take_dk (h : Dk s p bad n ov w) (x : ByteArray) :
  Calls Tryz.prog 78 #[.pointer (some ⟨s.D, 0, none⟩), .string x] w (TkEnd s p bad n ov w) := by
 have HD := hid h
 clear h
 go_enter Tryz.func78, Tryz.ntmps78
 go_wp2_with fail
 refine (is_dk HD.out x).mono ?_
 rintro e w2 ⟨b, rfl, hb, hw⟩
 have HD2 := hid (HD.out.next hw)
 have HT2 := hid ((Dt.refl s ov w).next hw)
 have HB := hid hb
 have hTT := HD2.out.TT
 have hpT := HD2.out.pT
 obtain ⟨c0, c1, c2, c3, c5⟩ := HD2.out.cells
 have f2 := HD2.out.fz 2
 clear hb hw HD
 cases b
 ·go_wp2
  go_ret
  exact .inr ⟨rfl, HD2.out, HT2.out⟩
 ·obtain ⟨hb, hp⟩ := HB.out rfl
  have HE : Hid (TkEnd s p bad n ov w (.returned (.bool true)) (w2.setCell ⟨s.D, 2, none⟩ (.int .i64 ((p : Int) + 1)))) := .inl ⟨rfl, hb, hp, HD2.out.inc hp, HT2.out.trans (Dt.set s ov w2 2 _)⟩
  clear hb
  go_wp2
  go_ret
  exact HE.out
def NeEnd (s : Ds) (p : Nat) (bad : Bool) (n : Nat) (ov : Value) (w : World) (e : Ending) (w' : World) : Prop :=
 e = .returned (.tuple #[]) ∧ ∃ p' bad', p ≤ p' ∧ p' ≤ p + 1 ∧ (bad = true → bad' = true) ∧ (p' = p + 1 ∨ bad' = true) ∧ Dk s p' bad' n ov w' ∧ Dt s ov w ov w'
set_option maxHeartbeats 1000000 in
theorem need_dk (h : Dk s p bad n ov w) (x : ByteArray) :
  Calls Tryz.prog 81 #[.pointer (some ⟨s.D, 0, none⟩), .string x] w (NeEnd s p bad n ov w) := by
 have HD := hid h
 clear h
 go_enter Tryz.func81, Tryz.ntmps81
 go_wp2_with fail
 refine (take_dk HD.out x).mono ?_
 rintro e w2 (⟨rfl, hb, hp, h1, h2⟩ | ⟨rfl, h1, h2⟩)
 ·have HE : Hid (NeEnd s p bad n ov w (.returned (.tuple #[])) w2) := ⟨rfl, p + 1, bad, by omega, by omega, id, .inl rfl, h1, h2⟩
  clear hb h1 h2 HD
  go_wp2
  go_end0
  exact HE.out
 ·have H1 := hid h1
  have H2 := hid h2
  clear h1 h2 HD
  go_wp2_with fail
  refine (stop_dk H1.out).mono ?_
  rintro e w3 ⟨rfl, h3, h4⟩
  have HE : Hid (NeEnd s p bad n ov w (.returned (.tuple #[])) w3) := ⟨rfl, p, true, by omega, by omega, fun _ => rfl, .inr rfl, h3, H2.out.trans h4⟩
  clear h3 h4
  go_wp2
  go_end0
  exact HE.out
def NmEnd (s : Ds) (p : Nat) (n : Nat) (ov : Value) (w : World) (e : Ending) (w' : World) : Prop :=
 ∃ (t : ByteArray) (p' : Nat) (bad' : Bool), e = .returned (.string t) ∧ t.size ≤ 1000 ∧ p ≤ p' ∧ p' ≤ p + 1 ∧ (p < p' ∨ bad' = true) ∧ Dk s p' bad' n ov w' ∧ Dt s ov w ov w'
set_option maxHeartbeats 2000000 in
theorem name_dk (h : Dk s p bad n ov w) :
  Calls Tryz.prog 79 #[.pointer (some ⟨s.D, 0, none⟩)] w (NmEnd s p n ov w) := by
 have HD := hid h
 obtain ⟨c0, c1, c2, c3, c5⟩ := h.cells
 clear h
 cases bad
 ·go_enter Tryz.func79, Tryz.ntmps79
  go_wp2_with fail
  refine (tok_dk HD.out).mono ?_
  rintro e w2 ⟨k, m, q, t, rfl, _, hk, hw⟩
  have F0 := fun W => tkKind k m q t W
  have HD2 := hid (HD.out.next hw)
  have HT2 := hid ((Dt.refl s ov w).next hw)
  have HK := hid hk
  clear hk hw HD c0 c1 c2 c3 c5
  by_cases h1 : k = 1
  ·subst h1
   have hp := HK.out (by decide)
   have hTT := HD2.out.TT
   obtain ⟨c0, c1, c2, c3, c5⟩ := HD2.out.cells
   have f2 := HD2.out.fz 2
   have HD3 := hid (HD2.out.inc hp)
   obtain ⟨d0, d1, d2, d3, d5⟩ := HD3.out.cells
   have hta : s.ta = some ⟨s.b, 0, none⟩ := HD2.out.tad.resolve_left (by omega)
   obtain ⟨t0, t1, t2, t3⟩ := HD3.out.tks p hp
   rw [hta] at c0 d0
   have HT3 := hid (HT2.out.trans (Dt.set s ov w2 2 (.int .i64 ((p : Int) + 1))))
   have HX := hid (HD2.out.txt p hp)
   clear hta HK
   go_wp2
   obtain ⟨W3, hW3⟩ : ∃ W, w2.setCell ⟨s.D, 2, none⟩ (.int .i64 ((p : Int) + 1)) = W := ⟨_, rfl⟩
   rw [hW3] at HD3 HT3 d0 d1 d2 d3 d5 t0 t1 t2 t3 ⊢
   clear hW3 c0 c1 c2 c3 c5 HD2 HT2 f2
   have HE : Hid (∀ k, NmEnd s p n ov w (.returned (.string (s.tk p).text)) (W3.drewN k)) := fun k => ⟨_, p + 1, false, rfl, HX.out, by omega, by omega, .inl (by omega), HD3.out.next (below_drewN (Below.refl _ _) k), HT3.out.next (below_drewN (Below.refl _ _) k)⟩
   go_quiet (fail)
   go_wp2
   go_ret
   exact HE.out _
  ·have e1 : (k != 1) = true := by simpa using h1
   go_wp2_with fail
   refine (stop_dk HD2.out).mono ?_
   rintro e w3 ⟨rfl, h3, h4⟩
   have HE : Hid (NmEnd s p n ov w (.returned (.string ⟨#[]⟩)) w3) := ⟨_, p, true, rfl, by decide, by omega, by omega, .inr rfl, h3, HT2.out.trans h4⟩
   clear h3 h4
   go_wp2
   go_ret
   exact HE.out
 ·go_enter Tryz.func79, Tryz.ntmps79
  go_wp2_with fail
  refine (stop_dk HD.out).mono ?_
  rintro e w3 ⟨rfl, h3, h4⟩
  have HE : Hid (NmEnd s p n ov w (.returned (.string ⟨#[]⟩)) w3) := ⟨_, p, true, rfl, by decide, by omega, by omega, .inr rfl, h3, h4⟩
  clear h3 h4
  go_wp2
  go_ret
  exact HE.out
theorem info_nd9 : (Tryz.prog.info? 33).map (fun i => (i.zero, i.size, i.bytes)) = some (some (.agg #[.int .i64 0, .int .i64 0, .int .i64 0, .string ⟨#[]⟩, .int .i64 0]), 5, 48) := by kernel_rfl
theorem cell_five_new (w : World) (a b c d f : Value) (t : TypeId) : ∀ j u, [a, b, c, d, f][j]? = some u → (w.alloc (.cells #[a, b, c, d, f] t)).cell? ((⟨w.heap.size, 0, none⟩ : Addr).add j) = some u := by
 intro j u hj
 rw [add_none, cell_new_row]
 simpa using hj
def PuEnd (s : Ds) (p : Nat) (bad : Bool) (n : Nat) (ov : Value) (w : World) (e : Ending) (w' : World) : Prop := e = .returned (.tuple #[]) ∧ ∃ ov', Dk s p bad (n + 1) ov' w' ∧ Dt s ov w ov' w'
set_option maxHeartbeats 2000000 in
theorem put_dk (h : Dk s p bad n ov w) (x : Nd) (hx : x.text.size ≤ 1000) (hn : n ≤ 1000000) :
  Calls Tryz.prog 53 #[.pointer (some ⟨s.D, 0, none⟩), .agg #[.int .i64 x.kind, .int .i64 x.op, .int .i64 x.n, .string x.text, .int .i64 x.kids]] w (PuEnd s p bad n ov w) := by
 obtain ⟨i0, hi0, hz0, hz1, hz2⟩ := info_parts info_nd9
 have HHI := hid (And.intro hi0 (And.intro hz0 (And.intro hz1 hz2)))
 clear hi0 hz0 hz1 hz2
 have HB0 := hid ((Below.refl w.heap.size w).alloc (Nat.le_refl _) (.cells #[.int .i64 x.kind, .int .i64 x.op, .int .i64 x.n, .string x.text, .int .i64 x.kids] 33))
 have HBX := hid (heap_alloc_new w (.cells #[.int .i64 x.kind, .int .i64 x.op, .int .i64 x.n, .string x.text, .int .i64 x.kids] 33))
 have HD := hid (h.next HB0.out)
 clear h
 go_enter Tryz.func53, Tryz.ntmps53
 go_upto_region 1 with fail
 obtain ⟨rb, hrb⟩ : ∃ g, w.heap.size = g := ⟨_, rfl⟩
 obtain ⟨W0, hW0⟩ : ∃ W, w.alloc (.cells #[.int .i64 x.kind, .int .i64 x.op, .int .i64 x.n, .string x.text, .int .i64 x.kids] 33) = W := ⟨_, rfl⟩
 rw [hW0] at HB0 HBX HD ⊢
 rw [hrb] at HBX ⊢
 have HT0 := hid ((Dt.refl s ov w).next HB0.out)
 clear hrb hW0 HB0
 obtain ⟨_, _, _, _, c5⟩ := HD.out.cells
 have HAL := hid ((Below.refl W0.heap.size W0).alloc (Nat.le_refl _) (.cells #[.int .i64 x.kind, .int .i64 x.op, .int .i64 x.n, .string x.text, .int .i64 x.kids] 33))
 have HDA := hid (HD.out.next HAL.out)
 have HDV := hid (HDA.out.next (Below.refl _ _).drew)
 have HTV := hid ((HT0.out.next HAL.out).next (Below.refl _ _).drew)
 have hBz := HDV.out.Bz
 obtain ⟨O, hO, how, hOx⟩ := HDV.out.out
 have HOV := hid how
 have HOL := hid hO
 have HOX := hid hOx
 clear how hO hOx
 obtain ⟨va, vc, rfl⟩ := own_sl HOV.out
 have b0 := cell_hp HBX.out 0
 have b1 := cell_hp HBX.out 1
 have b2 := cell_hp HBX.out 2
 have b3 := cell_hp HBX.out 3
 have b4 := cell_hp HBX.out 4
 simp at b0 b1 b2 b3 b4
 have C5 : ∀ o, (W0.alloc o).cell? ⟨s.D, 5, none⟩ = some (.slice va n vc) := fun o => (HD.out.next ((Below.refl _ _).alloc (Nat.le_refl _) o)).cells.2.2.2.2
 have HKS : Hid (∀ V : World, (W0.alloc (.cells #[.int .i64 x.kind, .int .i64 x.op, .int .i64 x.n, .string x.text, .int .i64 x.kids] 33)).drew.grownBy V (Value.ownBlock (.slice va n vc)) → V.cell? ⟨s.D, 5, none⟩ = some (.slice va n vc) ∧ V.frozen? ⟨s.D, 5, none⟩ = false) := fun V hg => by
  have hk := hg.block s.D HDV.out.lt (fun e => HDV.out.ne e.symm)
  obtain ⟨q, hq⟩ := HDV.out.box
  exact ⟨cell_hp (hk.trans hq) 5, frozen_hp (hk.trans hq) 5⟩
 have HFIN : Hid (∀ (v' : Value) (V : World), (W0.alloc (.cells #[.int .i64 x.kind, .int .i64 x.op, .int .i64 x.n, .string x.text, .int .i64 x.kids] 33)).drew.grownBy V (Value.ownBlock (.slice va n vc)) → V.ownsRow s.B 33 5 v' (n + 1) (ndRow O ++ [.int .i64 x.kind, .int .i64 x.op, .int .i64 x.n, .string x.text, .int .i64 x.kids]) → (v'.ownBlock = Value.ownBlock (.slice va n vc) ∨ v'.ownBlock = some (W0.alloc (.cells #[.int .i64 x.kind, .int .i64 x.op, .int .i64 x.n, .string x.text, .int .i64 x.kids] 33)).drew.heap.size) → PuEnd s p bad n (.slice va n vc) w (.returned (.tuple #[])) (V.setCell ⟨s.D, 5, none⟩ v')) := fun v' V hg ho hr => by
  refine ⟨rfl, v', HDV.out.setout (O := O ++ [x]) hg (by rw [ndRow_append]; exact ho) (by rw [List.length_append, HOL.out]; rfl) ?_, HTV.out.trans (Dt.setout hg fun k hk => ?_)⟩
  ·intro y hy
   rcases List.mem_append.1 hy with hy | hy
   ·exact HOX.out y hy
   ·rw [List.mem_singleton.1 hy]
    exact hx
  ·rcases hr with hr | hr
   ·exact .inl (by rw [← hr]; exact hk)
   ·rw [hr] at hk
    injection hk with hk
    exact .inr (by omega)
 go_wp2_with fail
 go_region_law (refine step_append_own_at rfl (.tmp 8) (.tmp 10) 23 rfl s.B 33 i0 (.agg #[.int .i64 0, .int .i64 0, .int .i64 0, .string ⟨#[]⟩, .int .i64 0]) 5 48 Tryz.underlying23 HHI.out.1 HHI.out.2.1 HHI.out.2.2.1 HHI.out.2.2.2 rfl (by decide) (.slice va n vc) n (ndRow O) (by simp [Act.eval]) HOV.out ⟨W0.heap.size, 0, none⟩ 1 1 [.int .i64 x.kind, .int .i64 x.op, .int .i64 x.n, .string x.text, .int .i64 x.kids] (by simp [Act.eval]) rfl (fun j u hj => cell_five_new W0 _ _ _ _ _ _ j u hj) (by simp [Value.oneCell']) (by unfold maxLen; omega) (by omega) hBz ?_; intro vn wn on gn nn bn; obtain ⟨m1, m2⟩ := HKS.out _ gn; have HEN := hid (HFIN.out _ _ gn on bn); have hvn := own_sl on; obtain ⟨an3, cn3, rfl⟩ := hvn; clear on gn nn bn)
 all_goals
  go_wp2_with fail
  go_end0
  exact HEN.out
end
end Go.Proofs.YtbakebdfmdepnaaGreatDoor
namespace Go.Proofs.YtbakebdfmdepnaaGreatDoor
open Go.RowKit Go.Maps Go.WideMaps
set_option maxRecDepth 20000
theorem walk_inner (x : Bx) (hx : x.Ok) (k : Nat) : k < x.N → (x.nd k).kind ≤ 19 → WalkOk x k := by
 induction k using Nat.strongRecOn with
 | ind k ih =>
  intro hk h19 kn
  have := walk_any x hx k hk (by omega) (fun j hj h => ih j hj (by omega) h) kn
  have e : mksE x.nd x.o k kn = [] := by unfold mksE; rw [if_neg (by omega), if_neg (by omega)]
  intro a bn p w h1 h2 h3
  have := this a bn p w h1 h2 h3
  simp only [e, List.append_nil] at this
  exact this
theorem walk_st (x : Bx) (hx : x.Ok) (k : Nat) (hk : k < x.N) (h23 : (x.nd k).kind ≤ 23) (kn : Env) : WalksTo x k (fun kn => wk x.nd x.o k kn ++ mksE x.nd x.o k kn) kn :=
 walk_any x hx k hk h23 (fun j hj h => walk_inner x hx j (by omega) h) kn
theorem kids_file {nd : Nat → Nd} {o : List (List Nat)} {k : Nat} (h : FitAt nd o k) (hk : (nd k).kind = 24) : (o.getD k []).length ≤ 200 ∧ ∀ j ∈ o.getD k [], 20 ≤ (nd j).kind ∧ (nd j).kind ≤ 23 := by
 obtain ⟨_, h⟩ := h
 have : (o.getD k []).length ≤ 200 ∧ ∀ i, i < (o.getD k []).length → 20 ≤ (nd ((o.getD k []).getD i 0)).kind ∧ (nd ((o.getD k []).getD i 0)).kind ≤ 23 := by
  rcases h with h | h | h | h | h | h | h | h | h | h | h | h
  all_goals first | omega | exact ⟨h.2.1, h.2.2⟩
 refine ⟨this.1, fun j hj => ?_⟩
 obtain ⟨i, hi, rfl⟩ := List.getElem_of_mem hj
 have h2 := this.2 i hi
 rw [List.getD_eq_getElem?_getD, List.getElem?_eq_getElem hi] at h2
 exact h2
def fileEnv (nd : Nat → Nd) (o : List (List Nat)) (ks : List Nat) (kn : Env) : Env := fun t => (fileF nd (fun _ => none) (ks.flatMap (makersOf nd o)) t).getD (kn t)
set_option maxHeartbeats 2000000 in
theorem walk_root (x : Bx) (hx : x.Ok) (k : Nat) (hkN : k < x.N) (h24 : (x.nd k).kind = 24) (kn : Env) (a : Option Addr) (bn : Nat → Int) (p : Int × Int) (w : World) (h : x.At w bn p.1 p.2) (ht : Stb x.S w x.Tree) (hk : Kn x.S w (.pointer a) kn) :
  Calls Tryz.prog 21 #[.pointer (some ⟨x.bb, 0, none⟩), .int .i64 k, .pointer a] w fun e w' => e = .returned (.tuple #[]) ∧
   x.Ends w w' bn p ((x.o.getD k []).flatMap fun s => wk x.nd x.o s (fileEnv x.nd x.o (x.o.getD k []) kn) ++ mksE x.nd x.o s (fileEnv x.nd x.o (x.o.getD k []) kn)) := by
 obtain ⟨evs, hev⟩ : ∃ evs, ((x.o.getD k []).flatMap fun s => wk x.nd x.o s (fileEnv x.nd x.o (x.o.getD k []) kn) ++ mksE x.nd x.o s (fileEnv x.nd x.o (x.o.getD k []) kn)) = evs := ⟨_, rfl⟩
 rw [hev]
 have HEV := hid hev
 have H24 := hid h24
 clear hev h24
 have hb1 : ∀ O, Below w.heap.size w (w.alloc O) := fun O => (Below.refl _ _).alloc (Nat.le_refl _) O
 have hSn : ¬ x.S w.heap.size := fun e => absurd (h.lt _ e) (Nat.lt_irrefl _)
 obtain ⟨f0, f1, f2, f3, f4, f5, f6⟩ := h.five
 have g0 : ∀ O, (w.alloc O).cell? ⟨x.bb, 0, none⟩ = _ := fun O => (h.go (hb1 O)).five.1
 have g1 : ∀ O, (w.alloc O).cell? ⟨x.bb, 1, none⟩ = _ := fun O => (h.go (hb1 O)).five.2.1
 obtain ⟨c0, c1, c2, c3, c4⟩ := ht.now.1 k hkN
 have d0 : ∀ O, (w.alloc O).cell? ⟨x.g, k * 5, none⟩ = _ := fun O => ((ht _ (Sv.of_below (hb1 O))).1 k hkN).1
 have d1 : ∀ O, (w.alloc O).cell? ⟨x.g, k * 5 + 1, none⟩ = _ := fun O => ((ht _ (Sv.of_below (hb1 O))).1 k hkN).2.1
 have d2 : ∀ O, (w.alloc O).cell? ⟨x.g, k * 5 + 2, none⟩ = _ := fun O => ((ht _ (Sv.of_below (hb1 O))).1 k hkN).2.2.1
 have d3 : ∀ O, (w.alloc O).cell? ⟨x.g, k * 5 + 3, none⟩ = _ := fun O => ((ht _ (Sv.of_below (hb1 O))).1 k hkN).2.2.2.1
 have d4 : ∀ O, (w.alloc O).cell? ⟨x.g, k * 5 + 4, none⟩ = _ := fun O => ((ht _ (Sv.of_below (hb1 O))).1 k hkN).2.2.2.2
 obtain ⟨ad, c, hk1, hk2, hk3, hk4⟩ := Bx.kids hx ht k hkN
 obtain ⟨kl, hkl⟩ : ∃ kl, x.o.getD k [] = kl := ⟨_, rfl⟩
 rw [hkl] at hk4 hk1 hk3
 have k0 := hk4.now.1
 have k1 : ∀ O, (w.alloc O).cell? ⟨x.gk, k, none⟩ = _ := fun O => (hk4 _ (Sv.of_below (hb1 O))).1
 have HX := hid hx
 have HSn := hid hSn
 have HB1 := hid hb1
 have HA := hid h
 have HKL := hid hkl
 have HK4 := hid hk4
 have HK3 := hid hk3
 have HT := hid ht
 have HK := hid hk
 have hN5 := hx.N
 clear h hx ht hk hk4 hkl hk3 hb1 hSn
 go_enter Tryz.func21, Tryz.ntmps21
 go_wp2
 go_region
 have HN2 : Hid (NodeAt (w.alloc (.cells #[.int .i64 (x.nd k).kind, .int .i64 (x.nd k).op, .int .i64 (x.nd k).n, .string (x.nd k).text, .int .i64 (x.nd k).kids] 33)).drew w.heap.size (x.nd k)) := heap_alloc_new w _
 have HS2 : Hid (Sv x.S w (w.alloc (.cells #[.int .i64 (x.nd k).kind, .int .i64 (x.nd k).op, .int .i64 (x.nd k).n, .string (x.nd k).text, .int .i64 (x.nd k).kids] 33)).drew) := Sv.drew (w := w.alloc (.cells #[.int .i64 (x.nd k).kind, .int .i64 (x.nd k).op, .int .i64 (x.nd k).n, .string (x.nd k).text, .int .i64 (x.nd k).kids] 33)) (Sv.of_below (HB1.out _))
 have HA2 : Hid (x.At (w.alloc (.cells #[.int .i64 (x.nd k).kind, .int .i64 (x.nd k).op, .int .i64 (x.nd k).n, .string (x.nd k).text, .int .i64 (x.nd k).kids] 33)).drew bn p.1 p.2) := HA.out.go (HB1.out _).drew
 clear g0 g1 d0 d1 d2 d3 d4 k0 k1 c0 c1 c2 c3 c4 f0 f1 f2 f3 f4 f5 f6 HB1 HA
 generalize (w.alloc (.cells #[.int .i64 (x.nd k).kind, .int .i64 (x.nd k).op, .int .i64 (x.nd k).n, .string (x.nd k).text, .int .i64 (x.nd k).kids] 33)).drew = w2 at *
 have HT2 := hid (HT.out.go HS2.out)
 have HK2 := hid (HK.out.go HS2.out)
 obtain ⟨n0, n1, n2, n3, n4, _, _, _, _, _⟩ := HN2.out.cells
 obtain ⟨f0, f1, f2, f3, f4, f5, f6⟩ := HA2.out.five
 obtain ⟨hl200, hst⟩ := kids_file (HX.out.fit k hkN) H24.out
 have hpl := HX.out.place k
 rw [HKL.out] at hl200 hst hpl HEV
 have HST := hid hst
 have HPL := hid hpl
 clear hst hpl
 rw [H24.out] at n0
 go_wp2_with (first
  | (go_at_call 44; refine (file_anyC x HX.out kl HPL.out (by omega) kn ad c a bn p w2 (fun W hW => (HK4.out W (HS2.out.trans hW)).2) HA2.out HT2.out HK2.out).mono ?_; rintro e w4 ⟨b4, rfl, hkk, hb4⟩; have HKF := hid hkk; have HB4 := hid hb4; clear hkk hb4)
  | (go_at_call 40; refine (walkAll_of x kl _ (fun j kn => wk x.nd x.o j kn ++ mksE x.nd x.o j kn) (fun j hj => walk_st x HX.out j (HPL.out j hj) (HST.out j hj).2 _) ad c (some ⟨b4, 0, none⟩) bn p w4 (by omega) (fun W hW => (HK4.out W (HS2.out.trans ((Sv.of_below HB4.out).trans hW))).2) (HA2.out.go HB4.out) (HT2.out.go (Sv.of_below HB4.out)) HKF.out).mono ?_; rintro e w5 ⟨rfl, hen5⟩; have HE5 := hid hen5; clear hen5))
 go_end0
 rw [← HEV.out]
 exact ⟨rfl, ends_join (e1 := []) (HS2.out.trans (Sv.of_below HB4.out)) (fun _ => rfl) HE5.out⟩
end Go.Proofs.YtbakebdfmdepnaaGreatDoor
namespace Go.Proofs.YtbakebdfmdepnaaGreatDoor
open Go.RowKit
set_option maxRecDepth 20000
def knRow (L : List (ByteArray × Nat)) : List Value := L.flatMap fun p => [.string p.1, .int .i64 p.2]
theorem knRow_length (L : List (ByteArray × Nat)) : (knRow L).length = L.length * 2 := by
 induction L with
 | nil => rfl
 | cons p L ih =>
  unfold knRow at ih ⊢
  rw [List.flatMap_cons, List.length_append, ih, List.length_cons]
  simp; omega
theorem knRow_append (L M : List (ByteArray × Nat)) : knRow (L ++ M) = knRow L ++ knRow M := by simp [knRow]
theorem knRow_at (L : List (ByteArray × Nat)) : ∀ i p, L[i]? = some p → (knRow L)[i * 2]? = some (.string p.1) ∧ (knRow L)[i * 2 + 1]? = some (.int .i64 p.2) := by
 induction L with
 | nil => intro i p h; simp at h
 | cons q L ih =>
  intro i p h
  have e : knRow (q :: L) = .string q.1 :: .int .i64 q.2 :: knRow L := rfl
  rw [e]
  cases i with
  | zero => simp at h; subst h; simp
  | succ i =>
   simp only [List.getElem?_cons_succ] at h
   have := ih i p h
   rw [show (i + 1) * 2 = i * 2 + 1 + 1 by omega]
   simpa using this
theorem knRow_one (L : List (ByteArray × Nat)) : ∀ u ∈ knRow L, u.oneCell' = true := by
 intro u hu
 obtain ⟨p, _, hp⟩ := List.mem_flatMap.1 hu
 simp at hp
 rcases hp with rfl | rfl <;> rfl
def KnR (W : World) (g c : Nat) (L : List (ByteArray × Nat)) : Prop := L.length ≤ c ∧ c ≤ maxLen ∧ ∃ cur, W.heap[g]? = some (.cells cur 62 (0, 0)) ∧ cur.size = c * 2 ∧ cur.toList.take (L.length * 2) = knRow L
theorem KnR.lt {W : World} {g c : Nat} {L : List (ByteArray × Nat)} (h : KnR W g c L) : g < W.heap.size := by
 obtain ⟨_, _, cur, h1, _⟩ := h
 exact (Array.getElem?_eq_some_iff.1 h1).1
theorem KnR.keep {W W' : World} {g c : Nat} {L : List (ByteArray × Nat)} (h : KnR W g c L) (hk : W'.heap[g]? = W.heap[g]?) : KnR W' g c L := by
 obtain ⟨h1, h2, cur, h3, h4⟩ := h
 exact ⟨h1, h2, cur, hk.trans h3, h4⟩
theorem KnR.cells {W : World} {g c : Nat} {L : List (ByteArray × Nat)} (h : KnR W g c L) : ∀ j u, (knRow L)[j]? = some u → W.cell? ((⟨g, 0, none⟩ : Addr).add j) = some u := by
 obtain ⟨_, _, cur, h3, h4, h5⟩ := h
 intro j u hj
 have hl := (List.getElem?_eq_some_iff.1 hj).1
 rw [knRow_length] at hl
 have e1 : ((⟨g, 0, none⟩ : Addr).add j) = ⟨g, j, none⟩ := by unfold Addr.add; simp; intro h; exact h.symm
 rw [e1]
 unfold World.cell?
 rw [h3]
 show cur[j]? = some u
 rw [← Array.getElem?_toList, ← hj, ← h5, List.getElem?_take_of_lt hl]
theorem KnR.at {W : World} {g c : Nat} {L : List (ByteArray × Nat)} (h : KnR W g c L) : KnAt W g c L := by
 refine ⟨h.1, h.2.1, h.lt, fun i p hp => ?_⟩
 obtain ⟨a, b⟩ := knRow_at L i p hp
 have e1 : ∀ j, ((⟨g, 0, none⟩ : Addr).add j) = ⟨g, j, none⟩ := fun j => by unfold Addr.add; simp; intro h; exact h.symm
 have ca := h.cells _ _ a
 have cb := h.cells _ _ b
 rw [e1] at ca cb
 exact ⟨ca, cb⟩
theorem KnR.of_own {W : World} {B n : Nat} {v : Value} {L : List (ByteArray × Nat)} (h : W.ownsRow B 62 2 v n (knRow L)) (hn : L.length = n) (hv : ¬ v = .slice none 0 0) : ∃ g c, v = .slice (some ⟨g, 0, none⟩) n c ∧ B ≤ g ∧ KnR W g c L := by
 obtain ⟨h1, ⟨h2, _⟩ | ⟨g, cap, cur, h2, h3, h4, h5, h6, h7, h8⟩⟩ := h
 ·exact absurd h2 hv
 ·exact ⟨g, cap, h2, h3, by omega, h6, cur, h4, h7, by rw [hn]; exact h8⟩
theorem KnR.own {W : World} {B g c : Nat} {L : List (ByteArray × Nat)} (h : KnR W g c L) (hB : B ≤ g) : W.ownsRow B 62 2 (.slice (some ⟨g, 0, none⟩) L.length c) L.length (knRow L) := by
 obtain ⟨h1, h2, cur, h3, h4, h5⟩ := h
 exact ⟨knRow_length L, .inr ⟨g, c, cur, rfl, hB, h3, h1, h2, h4, h5⟩⟩
theorem info_kn : (Tryz.prog.info? 62).map (fun i => (i.zero, i.size, i.bytes)) = some (some (.agg #[.string ⟨#[]⟩, .int .i64 0]), 2, 24) := by kernel_rfl
theorem Mx.kids {x : Mx} (hx : x.Ok) {w : World} (ht : Stb x.S w x.Tree) (k : Nat) (hk : k < x.N) : ∃ ad c, (x.o.getD k []).length ≤ c ∧ c ≤ maxLen ∧ (x.o.getD k [] = [] ∨ ∃ g, ad = some ⟨g, 0, none⟩) ∧
  Stb x.S w fun W => W.cell? ⟨x.gk, k, none⟩ = some (.slice ad (x.o.getD k []).length c) ∧ PlA W ad (x.o.getD k []) := by
 obtain ⟨ad, c, h1, h2, h3, h4⟩ := ht.now.2.2 k hk
 refine ⟨ad, c, h2, h3, h4.imp_right fun ⟨g, h, _⟩ => ⟨g, h⟩, fun W hW => ?_⟩
 have e := (hW.cell (p := ⟨x.gk, k, none⟩) (World.block_lt_of_cell? w _ h1) hx.gk).trans h1
 obtain ⟨ad', c', h5, _, _, h6⟩ := (ht W hW).2.2 k hk
 rw [e] at h5
 cases h5
 refine ⟨e, h6.imp_right ?_⟩
 rintro ⟨g, rfl, h7⟩
 exact ⟨g, 0, rfl, fun i hi => by rw [Nat.zero_add]; exact h7 i hi⟩
def GoOk (x : Mx) (k : Nat) : Prop := ∀ (L : List (ByteArray × Nat)) (g c : Nat) (F : Nat × Nat → Prop) (cf : Nat → Nat) (bn : Nat → Int) (w : World), L.length + 10 * k ≤ 2000000 → x.At w cf bn → Stb x.S w x.Tree → CodesOk cf F → KnR w g c L → ¬ x.S g →
 Calls Tryz.prog 29 #[.pointer (some ⟨x.wb, 0, none⟩), .int .i64 k, .slice (some ⟨g, 0, none⟩) L.length c] w fun e w' => e = .returned (.tuple #[]) ∧ x.Ends w w' F bn (wk x.nd x.o k (envL L))
end Go.Proofs.YtbakebdfmdepnaaGreatDoor
