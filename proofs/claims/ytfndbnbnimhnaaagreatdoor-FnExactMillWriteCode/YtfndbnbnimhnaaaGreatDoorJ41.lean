import Derived.Test.YtfndbnbnimhnaaaGreatDoorJ31
import Derived.Test.YtfndbnbnimhnaaaGreatDoorJ29
import Derived.Test.YtfndbnbnimhnaaaGreatDoorJ32
/-! Sameness. -/
namespace Go.Proofs.YtfndbnbnimhnaaaGreatDoor.R
open Go.RowKit
set_option maxRecDepth 20000
set_option maxHeartbeats 4000000 in
theorem eqFn_same (x : C.Fn) {u0 v0 u1 v1 : Value} {B : Nat} (w : World) (hx : LoFn x) (k0 : SIntR B w u0 x.params) (l0 : SIntR B w v0 x.params) (k1 : SInR B w u1 x.ins) (l1 : SInR B w v1 x.ins) :
    Calls Tryz.prog 44 #[.agg #[.string x.name, u0, .int .i64 x.result, .int .i64 x.slots, u1], .agg #[.string x.name, v0, .int .i64 x.result, .int .i64 x.slots, v1]] w fun e w' => e = .returned (.bool true) ∧ Below w.heap.size w w' := by
  have e0 : (x.name.toList != x.name.toList) = false := by simp
  have i0 : (x.result != x.result) = false := by simp
  have i1 : (x.slots != x.slots) = false := by simp
  have K0 := hid (And.intro k0 l0)
  obtain ⟨gu0, rfl⟩ := k0.sl
  obtain ⟨gv0, rfl⟩ := l0.sl
  clear k0 l0
  have K1 := hid (And.intro k1 l1)
  obtain ⟨gu1, rfl⟩ := k1.sl
  obtain ⟨gv1, rfl⟩ := l1.sl
  clear k1 l1
  have HLO := hid hx
  clear hx
  have HB0 := hid (B2.start w (.cells #[.string x.name, .slice (some ⟨gu0, 0, none⟩) x.params.length x.params.length, .int .i64 x.result, .int .i64 x.slots, .slice (some ⟨gu1, 0, none⟩) x.ins.length x.ins.length] 57) (.cells #[.string x.name, .slice (some ⟨gv0, 0, none⟩) x.params.length x.params.length, .int .i64 x.result, .int .i64 x.slots, .slice (some ⟨gv1, 0, none⟩) x.ins.length x.ins.length] 57))
  go_enter Tryz.func44, Tryz.ntmps44
  go_wp2_with fail
  refine (eqSInt_same x.params _ HLO.out.1 (K0.out.1.next HB0.out.lo) (K0.out.2.next HB0.out.lo)).mono ?_
  rintro e w1 ⟨rfl, hb0⟩
  have HB1 := hid (HB0.out.next hb0)
  clear hb0
  have p1_2 : w1.cell? ⟨w.heap.size, 2, none⟩ = some (.int .i64 x.result) := row_cell HB1.out.e 2
  have q1_2 : w1.cell? ⟨w.heap.size + 1, 2, none⟩ = some (.int .i64 x.result) := row_cell HB1.out.f 2
  have p1_3 : w1.cell? ⟨w.heap.size, 3, none⟩ = some (.int .i64 x.slots) := row_cell HB1.out.e 3
  have q1_3 : w1.cell? ⟨w.heap.size + 1, 3, none⟩ = some (.int .i64 x.slots) := row_cell HB1.out.f 3
  have p1_4 : w1.cell? ⟨w.heap.size, 4, none⟩ = some (.slice (some ⟨gu1, 0, none⟩) x.ins.length x.ins.length) := row_cell HB1.out.e 4
  have q1_4 : w1.cell? ⟨w.heap.size + 1, 4, none⟩ = some (.slice (some ⟨gv1, 0, none⟩) x.ins.length x.ins.length) := row_cell HB1.out.f 4
  go_wp2_with fail
  refine (eqSIn_same x.ins _ HLO.out.2 (K1.out.1.next HB1.out.lo) (K1.out.2.next HB1.out.lo)).mono ?_
  rintro e w2 ⟨rfl, hb1⟩
  have HB2 := hid (HB1.out.next hb1)
  clear hb1
  go_wp2
  go_ret
  exact ⟨rfl, HB2.out.lo⟩
set_option maxHeartbeats 4000000 in
theorem eqSFn_same (l : List C.Fn) {u v : Value} {B : Nat} (w : World) (hx : LoFnS l) (k0 : SFnR B w u l) (l0 : SFnR B w v l) :
    Calls Tryz.prog 24 #[u, v] w fun e w' => e = .returned (.bool true) ∧ Below w.heap.size w w' := by
  have H1 := hid k0
  have H2 := hid l0
  have HX := hid hx
  have hN : l.length ≤ 1048576 := hx.1
  obtain ⟨gu, rfl⟩ := k0.sl
  obtain ⟨gv, rfl⟩ := l0.sl
  clear k0 l0 hx
  have hne : ((l.length : Int) != (l.length : Int)) = false := by simp
  go_enter Tryz.func24, Tryz.ntmps24
  go_wp2
  go_loopw [5] (fun i wr => ∃ j : Nat, j ≤ l.length ∧ i = .int .i64 j ∧ Below w.heap.size w wr) (fun i _ => l.length - (intOf i).toNat)
  case atStart => exact ⟨0, Nat.zero_le _, rfl, Below.refl _ _⟩
  case round =>
    obtain ⟨j, hj, rfl, hbw⟩ := hrel
    have HBW := hid hbw
    clear hbw
    by_cases hlt : j < l.length
    · obtain ⟨g, e9, _, hgu, u0, u1, a0, a1, a2, a3, a4, r0, r1⟩ := (H1.out.next HBW.out).at hlt
      injection e9 with ea en ec
      injection ea with eb
      injection eb with ec2
      subst ec2
      obtain ⟨g2, e8, _, hgv, v0, v1, b0, b1, b2, b3, b4, q0, q1⟩ := (H2.out.next HBW.out).at hlt
      injection e8 with ea2 en2 ec3
      injection ea2 with eb2
      injection eb2 with ec4
      subst ec4
      clear en ec en2 ec3
      have HLO := hid (HX.out.2 j hlt)
      obtain ⟨x, hx⟩ : ∃ x, l.getD j C.fn0 = x := ⟨_, rfl⟩
      rw [hx] at HLO a0 b0 a2 b2 a3 b3 r0 q0 r1 q1
      clear hx
      have HT0 := hid (And.intro (r0.mono (B' := 0) (Nat.zero_le _)) (q0.mono (B' := 0) (Nat.zero_le _)))
      obtain ⟨gr0, rfl⟩ := r0.sl
      obtain ⟨gq0, rfl⟩ := q0.sl
      clear r0 q0
      have HT1 := hid (And.intro (r1.mono (B' := 0) (Nat.zero_le _)) (q1.mono (B' := 0) (Nat.zero_le _)))
      obtain ⟨gr1, rfl⟩ := r1.sl
      obtain ⟨gq1, rfl⟩ := q1.sl
      clear r1 q1
      have A0 := fun p : Gr wr => (p.h.cell (p := ⟨_, _, none⟩) hgu).trans a0
      have C0 := fun p : Gr wr => (p.h.cell (p := ⟨_, _, none⟩) hgv).trans b0
      have A1 := fun p : Gr wr => (p.h.cell (p := ⟨_, _, none⟩) hgu).trans a1
      have C1 := fun p : Gr wr => (p.h.cell (p := ⟨_, _, none⟩) hgv).trans b1
      have A2 := fun p : Gr wr => (p.h.cell (p := ⟨_, _, none⟩) hgu).trans a2
      have C2 := fun p : Gr wr => (p.h.cell (p := ⟨_, _, none⟩) hgv).trans b2
      have A3 := fun p : Gr wr => (p.h.cell (p := ⟨_, _, none⟩) hgu).trans a3
      have C3 := fun p : Gr wr => (p.h.cell (p := ⟨_, _, none⟩) hgv).trans b3
      have A4 := fun p : Gr wr => (p.h.cell (p := ⟨_, _, none⟩) hgu).trans a4
      have C4 := fun p : Gr wr => (p.h.cell (p := ⟨_, _, none⟩) hgv).trans b4
      clear a0 b0 a1 b1 a2 b2 a3 b3 a4 b4
      go_wp2_with fail
      have hne2 : Nonempty (Gr wr) := ⟨⟨wr, Below.refl _ _⟩⟩
      refine wp_region_gr (by kernel_rfl) (by kernel_rfl) ?_
      repeat (go_big_quiet_step (first | (go_at_call 44; refine Calls.gr_of (v := .bool true) fun hpw => ?_; exact eqFn_same x _ HLO.out (HT0.out.1.next hpw) (HT0.out.2.next hpw) (HT1.out.1.next hpw) (HT1.out.2.next hpw))))
      refine wpQuiet_nil ?_
      intro _ hw'
      obtain ⟨pw, rfl⟩ := hw'
      have HB4 := hid (HBW.out.trans (pw.h.mono HBW.out.size))
      clear A0 C0 A1 C1 A2 C2 A3 C3 A4 C4
      go_wp2
      go_roundw
      case rel => exact ⟨j + 1, by omega, by go_num, HB4.out⟩
      case measure => simp [intOf]; omega
    · obtain rfl : j = l.length := by omega
      go_wp2
      go_ret
      exact ⟨rfl, HBW.out⟩
end Go.Proofs.YtfndbnbnimhnaaaGreatDoor.R
/-! Sameness. -/
namespace Go.Proofs.YtfndbnbnimhnaaaGreatDoor.R
open Go.RowKit
set_option maxRecDepth 20000
set_option maxHeartbeats 4000000 in
theorem eqCd_same (x : Cd) {u0 v0 : Value} {B : Nat} (w : World) (hx : LoCd x) (k0 : SFnR B w u0 x.fns) (l0 : SFnR B w v0 x.fns) :
    Calls Tryz.prog 9 #[.agg #[u0], .agg #[v0]] w fun e w' => e = .returned (.bool true) ∧ Below w.heap.size w w' := by
  have K0 := hid (And.intro k0 l0)
  obtain ⟨gu0, rfl⟩ := k0.sl
  obtain ⟨gv0, rfl⟩ := l0.sl
  clear k0 l0
  have HLO := hid hx
  clear hx
  have HB0 := hid (B2.start w (.cells #[.slice (some ⟨gu0, 0, none⟩) x.fns.length x.fns.length] 29) (.cells #[.slice (some ⟨gv0, 0, none⟩) x.fns.length x.fns.length] 29))
  go_enter Tryz.func9, Tryz.ntmps9
  go_wp2_with fail
  refine (eqSFn_same x.fns _ HLO.out (K0.out.1.next HB0.out.lo) (K0.out.2.next HB0.out.lo)).mono ?_
  rintro e w1 ⟨rfl, hb0⟩
  have HB1 := hid (HB0.out.next hb0)
  clear hb0
  go_wp2
  go_ret
  exact ⟨rfl, HB1.out.lo⟩
end Go.Proofs.YtfndbnbnimhnaaaGreatDoor.R
/-! Copies. -/
namespace Go.Proofs.YtfndbnbnimhnaaaGreatDoor.R
open Go.RowKit
set_option maxRecDepth 20000
set_option maxHeartbeats 4000000 in
theorem toCd_any (x : Cd) {v0 : Value} (w : World) (hx : LoCd x) (k0 : SFnA w v0 x.fns) :
    Calls Tryz.prog 7 #[.agg #[v0]] w fun e w' => ∃ u0, e = .returned (.agg #[u0]) ∧ SFnR w.heap.size w' u0 x.fns ∧ Below w.heap.size w w' := by
  have K0 := hid k0
  obtain ⟨ad0, cp0, rfl⟩ := k0.sl
  clear k0
  have HLO := hid hx
  clear hx
  have HX0 := hid (B3.start w (.cells #[.slice ad0 x.fns.length cp0] 24) #[.slice none 0 0] #[.slice none 0 0] 29)
  obtain ⟨W0, hW0⟩ : ∃ W, ((w.alloc (.cells #[.slice ad0 x.fns.length cp0] 24)).alloc (.cells #[.slice none 0 0] 29)).alloc (.cells #[.slice none 0 0] 29) = W := ⟨_, rfl⟩
  rw [hW0] at HX0
  have a0_0 : W0.cell? ⟨w.heap.size, 0, none⟩ = some (.slice ad0 x.fns.length cp0) := row_cell HX0.out.e 0
  go_enter Tryz.func7, Tryz.ntmps7
  go_wp2_with fail
  clear hW0
  have HY0 := hid HX0.out
  clear a0_0 HX0
  refine (toSFn_any x.fns W0 HLO.out (K0.out.next HY0.out.lo)).mono ?_
  rintro e w1 ⟨u0, rfl, r0, hb0⟩
  have HRu0 := hid (r0.mono (B' := w.heap.size + 3) HY0.out.sz)
  obtain ⟨gu0, rfl⟩ := r0.sl
  clear r0
  have HX1 := hid (HY0.out.next hb0)
  clear hb0 HY0
  have o1_0 : w1.cell? ⟨w.heap.size + 1 + 1, 0, none⟩ = some (.slice none 0 0) := row_cell HX1.out.o 0
  have y1_0 : w1.cell? ⟨w.heap.size + 1, 0, none⟩ = some (.slice none 0 0) := row_cell HX1.out.r 0
  have f1_0 : w1.frozen? ⟨w.heap.size + 1, 0, none⟩ = false := (row_room HX1.out.r (i := 0) (by simp)).2
  have z1_0 : w1.frozen? ⟨w.heap.size + 1 + 1, 0, none⟩ = false := (row_room HX1.out.o (i := 0) (by simp)).2
  go_wp2
  refine bodyPost_ret (v := .agg #[.slice (some ⟨gu0, 0, none⟩) x.fns.length x.fns.length]) (by simp [results, Tryz.results7, go_sem, y1_0]) rfl ⟨_, rfl, ?_, ?_⟩
  · exact ((HRu0.out.set (by omega) _ _).set (by omega) _ _).mono (by omega)
  · exact (below_set (below_set HX1.out.lo _ _ (by omega) _) _ _ (by omega) _)
end Go.Proofs.YtfndbnbnimhnaaaGreatDoor.R
/-! Numbers and texts of a form, by the program's writer. -/
namespace Go.Proofs.YtfndbnbnimhnaaaGreatDoor.C
open Go.RowKit
set_option maxRecDepth 20000
theorem or_128F : ∀ a : Fin 256, bits BinOp.or IntKind.u8 ((a.val : Nat) : Int) 128 = ((a.val % 128 + 128 : Nat) : Int) := by decide +kernel
theorem or_128 (k : Nat) : bits BinOp.or IntKind.u8 (IntKind.u8.wrap (k : Int)) 128 = (((k % 128 + 128).toUInt8).toNat : Int) := by
  have h := or_128F ⟨k % 256, Nat.mod_lt _ (by decide)⟩
  have e : IntKind.u8.wrap (k : Int) = ((k % 256 : Nat) : Int) := by rw [IntKind.wrap_u8]; omega
  rw [e, u8_nat (by omega), h]
  congr 1
  show k % 256 % 128 + 128 = _
  omega
theorem or_128w (k : Nat) : bits BinOp.or IntKind.u8 ((k : Int) % 256) 128 = (((k % 128 + 128).toUInt8).toNat : Int) := by
  have h := or_128 k
  rw [IntKind.wrap_u8] at h
  exact h
theorem wrap_127w {k : Nat} (h : ¬ 127 < k) : (k : Int) = ((k.toUInt8).toNat : Int) := (u8_nat (by omega)).symm
set_option maxHeartbeats 2000000 in
theorem len_any (B b : Nat) (l : List UInt8) (w : World) (h : WrAt B b l w) :
    Calls Tryz.prog 43 #[.pointer (some ⟨b, 0, none⟩)] w fun e w' => e = .returned (.int .i64 l.length) ∧ w' = w := by
  obtain ⟨p, v, _, h⟩ := h
  have c1 : w.cell? ⟨b, 1, none⟩ = some v := by rw [Lib.cell_of_heap h.blk]; rfl
  obtain ⟨ad, c, rfl⟩ := own_formB (show OwnB B w v l from h.own)
  clear h
  go_enter Tryz.func43, Tryz.ntmps43
  go_wp2
  go_ret
  exact ⟨rfl, rfl⟩
set_option maxHeartbeats 2000000 in
theorem isFull_any (B b : Nat) (l : List UInt8) (w : World) (h : WrAt B b l w) :
    Calls Tryz.prog 22 #[.pointer (some ⟨b, 0, none⟩)] w fun e w' => e = .returned (.bool (decide (200000 < l.length))) ∧ w' = w := by
  have HW := hid h
  clear h
  go_enter Tryz.func22, Tryz.ntmps22
  go_wp2_with fail
  refine (len_any B b l _ HW.out).mono ?_
  rintro e w' ⟨rfl, rfl⟩
  by_cases h : 200000 < l.length
  · have hi : (200000 : Int) < (l.length : Int) := by omega
    go_wp2
    go_ret
    exact ⟨by simp [h], rfl⟩
  · have hi : ¬ (200000 : Int) < (l.length : Int) := by omega
    go_wp2
    go_ret
    exact ⟨by simp [h]; omega, rfl⟩
theorem writeByte_at (B b : Nat) (l : List UInt8) (c : UInt8) (x : Int) (hx : x = c.toNat) (w : World) (h : WrAt B b l w) (hlen : l.length + 1 ≤ 1000000000000) :
    Calls Tryz.prog 73 #[.pointer (some ⟨b, 0, none⟩), .int .u8 x] w fun e w' => e = .returned .nilIface ∧ WrAt B b (l ++ [c]) w' ∧ Wk B b w w' := by
  subst hx
  exact writeByte_any B b l c w h hlen
set_option maxHeartbeats 4000000 in
theorem number_any (B b : Nat) (l : List UInt8) (n : Nat) (w : World) (hn : n < 18446744073709551616) (h : WrAt B b l w) (hl : l.length ≤ 1000000000) :
    Calls Tryz.prog 40 #[.pointer (some ⟨b, 0, none⟩), .int .u64 n] w fun e w' => e = .returned (.tuple #[]) ∧ WrAt B b (l ++ nb n) w' ∧ Wk B b w w' := by
  have HW := hid h
  have HL : Hid ((nb n).length ≤ 10) := hid (nb_10 hn)
  clear h
  go_enter Tryz.func40, Tryz.ntmps40
  go_wp2
  go_loopw [1] (fun m wr => ∃ (k : Nat) (cs : List UInt8), m = .int .u64 k ∧ k < 18446744073709551616 ∧ WrAt B b cs wr ∧ cs ++ nb k = l ++ nb n ∧ Wk B b w wr) (fun m _ => (intOf m).toNat)
  case atStart => exact ⟨n, l, rfl, hn, HW.out, rfl, Wk.refl _ _ _⟩
  case round =>
    obtain ⟨k, cs, rfl, hk, hwr, he, hub⟩ := hrel
    have HO := hid hwr
    have HE := hid he
    have HU := hid hub
    have HCL : Hid (cs.length + 1 ≤ 1000000000000) := hid (by
      have h1 := congrArg List.length he
      have h2 := HL.out
      simp only [List.length_append] at h1
      omega)
    clear hwr he hub HW
    by_cases h7 : 127 < k
    · have h7i : (127 : Int) < (k : Int) := by omega
      have HNX : Hid (cs ++ [(k % 128 + 128).toUInt8] ++ nb (k / 128) = l ++ nb n) := hid (by rw [← HE.out, nb_more h7]; simp)
      go_wp2_with fail
      refine (writeByte_at B b cs (k % 128 + 128).toUInt8 _ ?cx _ HO.out HCL.out).mono ?_
      case cx => exact or_128w k
      rintro e w1 ⟨rfl, hw1, hk1⟩
      have HO1 := hid hw1
      have HU1 := hid (HU.out.trans hk1)
      clear hw1 hk1
      go_wp2
      go_roundw
      case rel => exact ⟨k / 128, _, by go_num, by omega, HO1.out, HNX.out, HU1.out⟩
      case measure => simp [intOf]; omega
    · have h7i : ¬ (127 : Int) < (k : Int) := by omega
      have HNX : Hid (cs ++ [k.toUInt8] = l ++ nb n) := hid (by rw [← HE.out, nb_last h7])
      go_wp2_with fail
      refine (writeByte_at B b cs k.toUInt8 _ ?cx _ HO.out HCL.out).mono ?_
      case cx => exact wrap_127w h7
      rintro e w1 ⟨rfl, hw1, hk1⟩
      rw [HNX.out] at hw1
      have HO1 := hid hw1
      have HU1 := hid (HU.out.trans hk1)
      clear hw1 hk1
      go_wp2
      go_end0
      exact ⟨rfl, HO1.out, HU1.out⟩
theorem number_int (B b : Nat) (l : List UInt8) (n : Nat) (x : Int) (hx : x = n) (w : World) (hn : n < 18446744073709551616) (h : WrAt B b l w) (hl : l.length ≤ 1000000000) :
    Calls Tryz.prog 40 #[.pointer (some ⟨b, 0, none⟩), .int .u64 x] w fun e w' => e = .returned (.tuple #[]) ∧ WrAt B b (l ++ nb n) w' ∧ Wk B b w w' := by
  subst hx
  exact number_any B b l n w hn h hl
set_option maxHeartbeats 2000000 in
theorem size_any (B b : Nat) (l : List UInt8) (x : Int) (w : World) (h : WrAt B b l w) (hl : l.length ≤ 1000000000) :
    Calls Tryz.prog 20 #[.pointer (some ⟨b, 0, none⟩), .int .i64 x] w fun e w' => e = .returned (.tuple #[]) ∧ WrAt B b (l ++ nb (uOf x)) w' ∧ Wk B b w w' := by
  have HW := hid h
  clear h
  go_enter Tryz.func20, Tryz.ntmps20
  go_wp2_with fail
  refine (number_int B b l (uOf x) _ ?cx _ (u64_lt x) HW.out hl).mono ?_
  case cx => first | exact (u64_cast x).symm | (rw [u64_conv]; done)
  rintro e w1 ⟨rfl, hw1, hk1⟩
  have HO1 := hid hw1
  have HU1 := hid hk1
  clear hw1 hk1
  go_wp2
  go_end0
  exact ⟨rfl, HO1.out, HU1.out⟩
theorem size_nat (B b : Nat) (l : List UInt8) (n : Nat) (w : World) (hn : n < 18446744073709551616) (h : WrAt B b l w) (hl : l.length ≤ 1000000000) :
    Calls Tryz.prog 20 #[.pointer (some ⟨b, 0, none⟩), .int .i64 n] w fun e w' => e = .returned (.tuple #[]) ∧ WrAt B b (l ++ nb n) w' ∧ Wk B b w w' := by
  have := size_any B b l n w h hl
  rw [u64_nat n hn] at this
  exact this
set_option maxHeartbeats 2000000 in
theorem textW_any (B b : Nat) (l : List UInt8) (s : ByteArray) (w : World) (h : WrAt B b l w) (hl : l.length ≤ 1000000000) (hs : s.size ≤ 1048576) :
    Calls Tryz.prog 41 #[.pointer (some ⟨b, 0, none⟩), .string s] w fun e w' => e = .returned (.tuple #[]) ∧ WrAt B b (l ++ tb s) w' ∧ Wk B b w w' := by
  have HW := hid h
  clear h
  go_enter Tryz.func41, Tryz.ntmps41
  go_wp2_with fail
  refine (size_nat B b l s.size _ (by omega) HW.out hl).mono ?_
  rintro e w1 ⟨rfl, hw1, hk1⟩
  have HO1 := hid hw1
  have HU1 := hid hk1
  have HL : Hid ((l ++ nb s.size).length + s.size ≤ 1000000000000) := hid (by
    have := nb_10 (n := s.size) (by omega)
    rw [List.length_append]
    omega)
  clear hw1 hk1 HW
  go_wp2_with fail
  refine (writeString_any B b (l ++ nb s.size) s _ HO1.out HL.out).mono ?_
  rintro e w2 ⟨rfl, hw2, hk2⟩
  rw [List.append_assoc] at hw2
  have HO2 : Hid (WrAt B b (l ++ tb s) w2) := hid hw2
  have HU2 := hid (HU1.out.trans hk2)
  clear hw2 hk2
  go_wp2
  go_end0
  exact ⟨rfl, HO2.out, HU2.out⟩
end Go.Proofs.YtfndbnbnimhnaaaGreatDoor.C
