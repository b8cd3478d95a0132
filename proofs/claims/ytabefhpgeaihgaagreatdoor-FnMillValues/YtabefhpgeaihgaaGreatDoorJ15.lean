import Derived.Laws.Bits64
import Derived.Test.YtabefhpgeaihgaaGreatDoorJ13
/-! Printed by gen_vrd.py. -/
namespace Go.Proofs.YtabefhpgeaihgaaGreatDoor.V
open Go.RowKit
set_option maxRecDepth 20000
/-- All that lay in w is as it was, but for the blocks of S. -/
structure Sv (S : Nat → Prop) (w w' : World) : Prop where
  os : w'.os = w.os
  tape : w'.tape = w.tape
  output : w'.output = w.output
  size : w.heap.size ≤ w'.heap.size
  block : ∀ k, k < w.heap.size → ¬ S k → w'.heap[k]? = w.heap[k]?
theorem Sv.refl (S : Nat → Prop) (w : World) : Sv S w w := ⟨rfl, rfl, rfl, Nat.le_refl _, fun _ _ _ => rfl⟩
theorem Sv.trans {S : Nat → Prop} {a b c : World} (h : Sv S a b) (k : Sv S b c) : Sv S a c :=
  ⟨k.os.trans h.os, k.tape.trans h.tape, k.output.trans h.output, Nat.le_trans h.size k.size, fun i hi hs => (k.block i (Nat.lt_of_lt_of_le hi h.size) hs).trans (h.block i hi hs)⟩
theorem Sv.of_below {S : Nat → Prop} {a b : World} (h : Below a.heap.size a b) : Sv S a b := ⟨h.os, h.tape, h.output, h.size, fun k hk _ => h.block k hk⟩
theorem Sv.below {S : Nat → Prop} {a b : World} (h : Sv S a b) {B : Nat} (hB : B ≤ a.heap.size) (hS : ∀ k, S k → B ≤ k) : Below B a b := ⟨h.os, h.tape, h.output, h.size, fun k hk => h.block k (by omega) fun hs => by have := hS k hs; omega⟩
theorem Sv.alloc {S : Nat → Prop} {a w : World} (h : Sv S a w) (o : Obj) : Sv S a (w.alloc o) := h.trans (Sv.of_below ((Below.refl _ _).alloc (Nat.le_refl _) o))
theorem Sv.drew {S : Nat → Prop} {a w : World} (h : Sv S a w) : Sv S a w.drew := ⟨h.os, h.tape, h.output, h.size, h.block⟩
theorem Sv.setCell {S : Nat → Prop} {a w : World} (h : Sv S a w) {p : Addr} (hp : S p.block ∨ a.heap.size ≤ p.block) (u : Value) : Sv S a (w.setCell p u) :=
  ⟨h.os, h.tape, h.output, by have := h.size; simpa [World.setCell] using this, fun k hk hs => (Below.heap_setCell _ _ _ _ (by rintro rfl; rcases hp with hp | hp; exact hs hp; omega)).trans (h.block k hk hs)⟩
theorem Sv.cell {S : Nat → Prop} {a w : World} (h : Sv S a w) {p : Addr} (hp : p.block < a.heap.size) (hs : ¬ S p.block) : w.cell? p = a.cell? p := World.cell?_of_block (w := a) (h.block p.block hp hs)
theorem cell_hp {W : World} {k : Nat} {cs : Array Value} {t : TypeId} (h : W.heap[k]? = some (.cells cs t (0, 0))) (i : Nat) : W.cell? ⟨k, i, none⟩ = cs[i]? := by unfold World.cell?; rw [h]; rfl
theorem frozen_hp {W : World} {k : Nat} {cs : Array Value} {t : TypeId} (h : W.heap[k]? = some (.cells cs t (0, 0))) (i : Nat) : W.frozen? ⟨k, i, none⟩ = false := by unfold World.frozen?; rw [h]; simp
theorem byte_bd (c : UInt8) : 0 ≤ (c.toNat : Int) ∧ (c.toNat : Int) ≤ 255 := by have := c.toNat_lt; omega
theorem add_block (a : Addr) (n : Nat) : (a.add n).block = a.block := by unfold Addr.add; split <;> rfl
theorem set_at {W : World} {g i : Nat} {cur : Array Value} {t : TypeId} (v : Value) (h : W.heap[g]? = some (.cells cur t (0, 0))) : (W.setCell ⟨g, i, none⟩ v).heap[g]? = some (.cells (cur.setIfInBounds i v) t (0, 0)) := by
  unfold World.setCell
  simp only [Array.getElem?_modify, h]
  simp
/-- Bytes that can be read, and lie below block R. -/
def CodeIn (R : Nat) (w : World) (ad : Option Addr) (n : Nat) : Prop := n = 0 ∨ ∃ a : Addr, ad = some a ∧ a.block < R ∧ ∀ i, i < n → ∃ x : UInt8, w.cell? (a.add i) = some (.int .u8 x.toNat)
/-- A reader in block R that has read p numbers. -/
def Rd (R : Nat) (w : World) (p : Nat) : Prop := ∃ ad n cap, w.heap[R]? = some (.cells #[.slice ad n cap, .int .i64 p] 55 (0, 0)) ∧ n ≤ 2000 ∧ CodeIn R w ad n
theorem Rd.lt {R : Nat} {w : World} {p : Nat} (h : Rd R w p) : R < w.heap.size := by obtain ⟨_, _, _, h, _⟩ := h; exact (Array.getElem?_eq_some_iff.1 h).1
theorem CodeIn.sv {S : Nat → Prop} {R : Nat} {w w' : World} {ad : Option Addr} {n : Nat} (h : CodeIn R w ad n) (hs : Sv S w w') (hS : ∀ k, S k → R ≤ k) : CodeIn R w' ad n := by
  rcases h with h | ⟨a, e, h2, h3⟩
  · exact .inl h
  · refine .inr ⟨a, e, h2, fun i hi => ?_⟩
    obtain ⟨x, hx⟩ := h3 i hi
    exact ⟨x, (hs.cell (p := a.add i) (World.block_lt_of_cell? w _ hx) (by rw [add_block]; exact fun h => by have := hS _ h; omega)).trans hx⟩
theorem Rd.next {R : Nat} {w w' : World} {p : Nat} (h : Rd R w p) (hb : Below w.heap.size w w') : Rd R w' p := by
  have hl := h.lt
  obtain ⟨ad, n, cap, h1, h2, h3⟩ := h
  exact ⟨ad, n, cap, (hb.block R hl).trans h1, h2, h3.sv (Sv.of_below (S := fun _ => False) hb) (fun _ h => h.elim)⟩
theorem Rd.sv {S : Nat → Prop} {R : Nat} {w w' : World} {p : Nat} (h : Rd R w p) (hs : Sv S w w') (hS : ∀ k, S k → R < k) : Rd R w' p := by
  have hl := h.lt
  obtain ⟨ad, n, cap, h1, h2, h3⟩ := h
  exact ⟨ad, n, cap, (hs.block R hl (fun h => by have := hS R h; omega)).trans h1, h2, h3.sv hs (fun k h => Nat.le_of_lt (hS k h))⟩
/-- Up to c numbers were read; nothing else that lay there was written. -/
def Drew (R c p : Nat) (w w' : World) : Prop := ∃ p', p ≤ p' ∧ p' ≤ p + c ∧ Rd R w' p' ∧ Sv (fun k => k = R) w w'
theorem Drew.trans {R c c' p p1 : Nat} {w w1 w2 : World} (hs : Sv (fun k => k = R) w w1) (hp : p ≤ p1) (hp' : p1 ≤ p + c) (h : Drew R c' p1 w1 w2) : Drew R (c + c') p w w2 := by
  obtain ⟨p2, h1, h2, h3, h4⟩ := h
  exact ⟨p2, by omega, by omega, h3, hs.trans h4⟩
theorem Sv.drewN {S : Nat → Prop} {a w : World} (h : Sv S a w) (n : Nat) : Sv S a (w.drewN n) := by
  induction n with
  | zero => exact h
  | succ n ih => exact ih.drew
theorem bits_xor_i64_nat (a b : Nat) (ha : a < 4611686018427387904) (hb : b < 4611686018427387904) : bits .xor .i64 (a : Int) (b : Int) = ((a ^^^ b : Nat) : Int) ∧ a ^^^ b < 4611686018427387904 := by
  have hx : a ^^^ b < 2 ^ 62 := Nat.xor_lt_two_pow (by omega) (by omega)
  have h1 : (BitVec.ofInt 64 (a : Int)).toNat = a := by
    rw [BitVec.ofInt_natCast, BitVec.toNat_ofNat]; exact Nat.mod_eq_of_lt (by omega)
  have h2 : (BitVec.ofInt 64 (b : Int)).toNat = b := by
    rw [BitVec.ofInt_natCast, BitVec.toNat_ofNat]; exact Nat.mod_eq_of_lt (by omega)
  refine ⟨?_, by omega⟩
  show IntKind.i64.wrap ((BitVec.ofInt 64 (a : Int) ^^^ BitVec.ofInt 64 (b : Int)).toNat : Int) = _
  rw [BitVec.toNat_xor, h1, h2, IntKind.wrap_i64]
  omega
set_option maxHeartbeats 2000000 in
theorem pick_any (R p : Nat) (n : Int) (w : World) (hp : p ≤ 1000000000) (hn : n ≤ 1000000000) (hr : Rd R w p) :
    Calls Tryz.prog 12 #[.pointer (some ⟨R, 0, none⟩), .int .i64 n] w fun e w' => (∃ x : Nat, e = .returned (.int .i64 x) ∧ (x = 0 ∨ (x : Int) < n)) ∧ Rd R w' (p + 1) ∧ Sv (fun k => k = R) w w' := by
  obtain ⟨ad, m, cap, hh, hm, hc⟩ := hr
  have HC := hid hc
  have HH := hid hh
  have x0 : w.cell? ⟨R, 0, none⟩ = some (.slice ad m cap) := cell_hp hh 0
  have x1 : w.cell? ⟨R, 1, none⟩ = some (.int .i64 p) := cell_hp hh 1
  have y1 : w.frozen? ⟨R, 1, none⟩ = false := frozen_hp hh 1
  have hS := hid (Sv.setCell (S := fun k => k = R) (Sv.refl _ w) (p := ⟨R, 1, none⟩) (.inl rfl) (.int .i64 ((p : Int) + 1)))
  have HR : Hid (Rd R (w.setCell ⟨R, 1, none⟩ (.int .i64 ((p : Int) + 1))) (p + 1)) := by
    refine ⟨ad, m, cap, ?_, hm, hc.sv hS.out (fun _ h => by omega)⟩
    have := set_at (i := 1) (.int .i64 ((p : Int) + 1)) hh
    simpa using this
  clear hc hh
  by_cases h1 : n < 1
  · go_enter Tryz.func12, Tryz.ntmps12
    go_wp2
    go_ret
    exact ⟨⟨0, rfl, .inl rfl⟩, HR.out, hS.out⟩
  · by_cases h0 : m = 0
    · subst h0
      go_enter Tryz.func12, Tryz.ntmps12
      go_wp2
      go_ret
      exact ⟨⟨0, rfl, .inl rfl⟩, HR.out, hS.out⟩
    · have hm0 : ¬ ((m : Int) = 0) := by omega
      by_cases hk : p < m
      · obtain ⟨a, rfl, haR, hb⟩ := HC.out.resolve_left h0
        obtain ⟨x, hx⟩ := hb p hk
        have hx2 := (hS.out.cell (p := a.add p) (World.block_lt_of_cell? w _ hx) (by rw [add_block]; omega)).trans hx
        have hxb := byte_bd x
        have hx3 : w.cell? (a.add p) = some (.int .u8 x.toNat) := hx
        go_enter Tryz.func12, Tryz.ntmps12
        go_wp2
        go_ret
        have hn0 : 0 < n := by omega
        have h2 := Int.emod_nonneg (x.toNat : Int) (by omega : n ≠ 0)
        have h3 := Int.emod_lt_of_pos (x.toNat : Int) hn0
        exact ⟨⟨((x.toNat : Int) % n).toNat, ret_int (by omega), .inr (by omega)⟩, HR.out, hS.out⟩
      · obtain ⟨a, rfl, haR, hb⟩ := HC.out.resolve_left h0
        have hm1 : 0 < m := by omega
        obtain ⟨i1, hi1⟩ : ∃ i1 : Nat, p % m = i1 := ⟨_, rfl⟩
        obtain ⟨i2, hi2⟩ : ∃ i2 : Nat, (p * 7 + 3) % m = i2 := ⟨_, rfl⟩
        have l1 : i1 < m := by rw [← hi1]; exact Nat.mod_lt _ hm1
        have l2 : i2 < m := by rw [← hi2]; exact Nat.mod_lt _ hm1
        have e1 : (p : Int) % (m : Int) = (i1 : Int) := by rw [← hi1]; simp
        have e2 : ((p : Int) * 7 + 3) % (m : Int) = (i2 : Int) := by rw [← hi2]; simp
        obtain ⟨x, hx⟩ := hb i1 l1
        obtain ⟨y, hy⟩ := hb i2 l2
        have hx2 := (hS.out.cell (p := a.add i1) (World.block_lt_of_cell? w _ hx) (by rw [add_block]; omega)).trans hx
        have hy2 := (hS.out.cell (p := a.add i2) (World.block_lt_of_cell? w _ hy) (by rw [add_block]; omega)).trans hy
        have hxb := byte_bd x
        have hyb := byte_bd y
        obtain ⟨d, hd⟩ : ∃ d : Nat, p / m = d := ⟨_, rfl⟩
        have ed : (p : Int) / (m : Int) = (d : Int) := by rw [← hd]; simp
        have hdb : d ≤ 1000000000 := by rw [← hd]; exact Nat.le_trans (Nat.div_le_self _ _) hp
        have x0' : (w.setCell ⟨R, 1, none⟩ (.int .i64 ((p : Int) + 1))).cell? ⟨R, 0, none⟩ = some (.slice (some a) m cap) := by
          have := set_at (i := 1) (.int .i64 ((p : Int) + 1)) HH.out
          exact (cell_hp this 0).trans rfl
        clear hi1 hi2 hd hb hx hy
        go_enter Tryz.func12, Tryz.ntmps12
        go_wp2_with fail
        go_quiet (fail)
        obtain ⟨z, hz, hz2⟩ : ∃ z : Nat, (x.toNat : Int) * 131 + (y.toNat : Int) * 1117 + (p : Int) * 29 + (d : Int) * 53 = (z : Int) ∧ z ≤ 1000000000000 := ⟨x.toNat * 131 + y.toNat * 1117 + p * 29 + d * 53, by omega, by omega⟩
        rw [hz]
        obtain ⟨u, hu, hu2⟩ : ∃ u : Nat, (z : Int) / 64 = (u : Int) ∧ u ≤ 1000000000000 := ⟨z / 64, by omega, by omega⟩
        obtain ⟨q, hq, hq2⟩ : ∃ q : Nat, bits .xor .i64 (z : Int) (u : Int) = (q : Int) ∧ q < 4611686018427387904 := ⟨z ^^^ u, bits_xor_i64_nat z u (by omega) (by omega)⟩
        clear hz e1 e2 ed
        go_wp2
        go_ret
        have hn0 : 0 < n := by omega
        have h2 := Int.emod_nonneg (q : Int) (by omega : n ≠ 0)
        have h3 := Int.emod_lt_of_pos (q : Int) hn0
        exact ⟨⟨((q : Int) % n).toNat, ret_int (by omega), .inr (by omega)⟩, HR.out.sv (S := fun _ => False) (by exact Sv.drewN (Sv.refl _ _) nq) (fun _ h => h.elim), hS.out.drewN nq⟩
set_option maxHeartbeats 2000000 in
theorem l10Many_any (s : ByteArray) (n : Nat) (w : World) (h : s.size * n ≤ 3001) (hn : n ≤ 3001) (hs : s.size ≤ 3001) :
    Calls Tryz.prog 25 #[.string s, .int .i64 n] w fun e w' => (∃ t : ByteArray, e = .returned (.string t) ∧ t.size ≤ 3001) ∧ w' = w := by
  go_enter Tryz.func25, Tryz.ntmps25
  go_wp2
  go_loopw [0, 1, 5] (fun a b c wr => ∃ (s o : ByteArray) (k : Nat), a = .string s ∧ b = .int .i64 k ∧ c = .string o ∧ o.size + s.size * k ≤ 3001 ∧ k ≤ 3001 ∧ s.size ≤ 6002 ∧ wr = w) (fun _ b _ _ => (intOf b).toNat)
  case atStart => exact ⟨s, ⟨#[]⟩, n, rfl, rfl, rfl, by show 0 + s.size * n ≤ 3001; omega, hn, by omega, rfl⟩
  case round =>
    obtain ⟨s, o, k, rfl, rfl, rfl, h1, h2, h3, rfl⟩ := hrel
    by_cases hk : 0 < k
    · have hk2 : s.size ≤ s.size * k := Nat.le_mul_of_pos_right _ hk
      have hd : k = 2 * (k / 2) + k % 2 := (Nat.div_add_mod k 2).symm
      have hq : (k : Int) / 2 = ((k / 2 : Nat) : Int) := by omega
      have hr : (k : Int) % 2 = ((k % 2 : Nat) : Int) := by omega
      have he : s.size * k = s.size * 2 * (k / 2) + s.size * (k % 2) := by
        conv => lhs; rw [hd]
        rw [Nat.mul_add, Nat.mul_assoc]
      obtain ⟨m, hm⟩ : ∃ m, k / 2 = m := ⟨_, rfl⟩
      rw [hm] at hq he
      rcases Nat.mod_two_eq_zero_or_one k with hz | hz
      · rw [hz] at hr he
        have HX := hid (show o.size + (s.size + s.size) * m ≤ 3001 ∧ m < k from ⟨by rw [Nat.mul_zero, Nat.add_zero] at he; rw [← Nat.mul_two]; omega, by omega⟩)
        clear he hd
        go_wp2
        go_roundw
        case rel => exact ⟨s ++ s, o, m, rfl, by go_num, rfl, by rw [ByteArray.size_append]; exact HX.out.1, by have := HX.out.2; omega, by rw [ByteArray.size_append]; omega, by trivial⟩
        case measure => have := HX.out.2; simp [intOf]; omega
      · rw [hz] at hr he
        have HX := hid (show o.size + s.size + (s.size + s.size) * m ≤ 3001 ∧ m < k from ⟨by rw [Nat.mul_one] at he; rw [← Nat.mul_two]; omega, by omega⟩)
        clear he hd
        go_wp2
        go_roundw
        case rel => exact ⟨s ++ s, o ++ s, m, rfl, by go_num, rfl, by rw [ByteArray.size_append, ByteArray.size_append]; exact HX.out.1, by have := HX.out.2; omega, by rw [ByteArray.size_append]; omega, by trivial⟩
        case measure => have := HX.out.2; simp [intOf]; omega
    · go_wp2
      go_ret
      exact ⟨⟨o, rfl, by omega⟩, rfl⟩
theorem Drew.one {R p : Nat} {w w' : World} (h : Rd R w' (p + 1)) (hs : Sv (fun k => k = R) w w') : Drew R 1 p w w' := ⟨p + 1, by omega, by omega, h, hs⟩
theorem Drew.mono {R c c' p : Nat} {w w' : World} (h : Drew R c p w w') (hc : c ≤ c') : Drew R c' p w w' := by
  obtain ⟨p', h1, h2, h3⟩ := h
  exact ⟨p', h1, by omega, h3⟩
/-- Bytes that came in. -/
def CodeA (w : World) (ad : Option Addr) (n : Nat) : Prop := n = 0 ∨ ∃ a : Addr, ad = some a ∧ a.block < w.heap.size ∧ ∀ i, i < n → ∃ x : UInt8, w.cell? (a.add i) = some (.int .u8 x.toNat)
theorem CodeA.box {w : World} {ad : Option Addr} {n m : Nat} {o : Obj} (h : CodeA w ad n) (hm : m ≤ n) : CodeIn w.heap.size (w.alloc o) ad m := by
  rcases h with h | ⟨a, e, h1, h2⟩
  · exact .inl (by omega)
  · refine .inr ⟨a, e, h1, fun i hi => ?_⟩
    obtain ⟨x, hx⟩ := h2 i (by omega)
    exact ⟨x, (((Below.refl w.heap.size w).alloc (Nat.le_refl _) o).cell (p := a.add i) (by rw [add_block]; exact h1)).trans hx⟩
set_option maxHeartbeats 2000000 in
theorem l10Open_any (ad : Option Addr) (n cap : Nat) (w : World) (hn : n ≤ 1048576) (hc : n ≤ cap) (hcm : cap ≤ 9223372036854775807) (h : CodeA w ad n) (hnil : ad = none → n = 0 ∧ cap = 0) :
    Calls Tryz.prog 11 #[.slice ad n cap] w fun e w' => e = .returned (.pointer (some ⟨w.heap.size, 0, none⟩)) ∧ Rd w.heap.size w' 0 ∧ Below w.heap.size w w' := by
  by_cases h2 : n ≤ 2000
  · have HRD : Hid (Rd w.heap.size (w.alloc (.cells #[.slice ad n cap, .int .i64 0] 55)) 0) := ⟨ad, n, cap, heap_alloc_new w _, h2, h.box (Nat.le_refl _)⟩
    clear h hnil
    go_enter Tryz.func11, Tryz.ntmps11
    go_wp2
    go_ret
    exact ⟨rfl, HRD.out, (Below.refl _ _).alloc (Nat.le_refl _) _⟩
  · obtain ⟨a, rfl⟩ : ∃ a, ad = some a := by
      cases ad with
      | none => have := (hnil rfl).1; omega
      | some a => exact ⟨a, rfl⟩
    have HRD : Hid (Rd w.heap.size (w.alloc (.cells #[.slice (some a) 2000 cap, .int .i64 0] 55)) 0) := ⟨_, 2000, cap, heap_alloc_new w _, by omega, h.box (by omega)⟩
    have hn3 : (2000 : Int) < (n : Int) := by omega
    have hc3 : (2000 : Int) ≤ (cap : Int) := by omega
    clear h hnil
    go_enter Tryz.func11, Tryz.ntmps11
    go_wp2
    go_ret
    exact ⟨rfl, HRD.out, (Below.refl _ _).alloc (Nat.le_refl _) _⟩
end Go.Proofs.YtabefhpgeaihgaaGreatDoor.V
