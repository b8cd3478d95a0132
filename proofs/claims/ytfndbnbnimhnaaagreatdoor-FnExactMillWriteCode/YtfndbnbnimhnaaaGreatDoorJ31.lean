import Derived.OwnWalk
import Derived.Test.YtfndbnbnimhnaaaGreatDoorJ29
import Derived.Test.YtfndbnbnimhnaaaGreatDoorJ30
import Derived.Test.YtfndbnbnimhnaaaGreatDoorJ09
/-! Sameness. -/
namespace Go.Proofs.YtfndbnbnimhnaaaGreatDoor.R
open Go.RowKit
set_option maxRecDepth 20000
set_option maxHeartbeats 4000000 in
theorem eqIn_same (x : C.In) (w : World) :
    Calls Tryz.prog 103 #[.agg #[.int .i64 x.op, .int .i64 x.a, .int .i64 x.n, .string x.text], .agg #[.int .i64 x.op, .int .i64 x.a, .int .i64 x.n, .string x.text]] w fun e w' => e = .returned (.bool true) ∧ Below w.heap.size w w' := by
  have e0 : (x.text.toList != x.text.toList) = false := by simp
  have i0 : (x.op != x.op) = false := by simp
  have i1 : (x.a != x.a) = false := by simp
  have i2 : (x.n != x.n) = false := by simp
  have HB0 := hid (B2.start w (.cells #[.int .i64 x.op, .int .i64 x.a, .int .i64 x.n, .string x.text] 84) (.cells #[.int .i64 x.op, .int .i64 x.a, .int .i64 x.n, .string x.text] 84))
  go_enter Tryz.func103, Tryz.ntmps103
  go_wp2
  go_ret
  exact ⟨rfl, HB0.out.lo⟩
set_option maxHeartbeats 4000000 in
theorem eqSIn_same (l : List C.In) {u v : Value} {B : Nat} (w : World) (hx : LoInS l) (k0 : SInR B w u l) (l0 : SInR B w v l) :
    Calls Tryz.prog 75 #[u, v] w fun e w' => e = .returned (.bool true) ∧ Below w.heap.size w w' := by
  have H1 := hid k0
  have H2 := hid l0
  have HX := hid hx
  have hN : l.length ≤ 1048576 := hx.1
  obtain ⟨gu, rfl⟩ := k0.sl
  obtain ⟨gv, rfl⟩ := l0.sl
  clear k0 l0 hx
  have hne : ((l.length : Int) != (l.length : Int)) = false := by simp
  go_enter Tryz.func75, Tryz.ntmps75
  go_wp2
  go_loopw [5] (fun i wr => ∃ j : Nat, j ≤ l.length ∧ i = .int .i64 j ∧ Below w.heap.size w wr) (fun i _ => l.length - (intOf i).toNat)
  case atStart => exact ⟨0, Nat.zero_le _, rfl, Below.refl _ _⟩
  case round =>
    obtain ⟨j, hj, rfl, hbw⟩ := hrel
    have HBW := hid hbw
    clear hbw
    by_cases hlt : j < l.length
    · obtain ⟨g, e9, _, hgu, a0, a1, a2, a3⟩ := (H1.out.next HBW.out).at hlt
      injection e9 with ea en ec
      injection ea with eb
      injection eb with ec2
      subst ec2
      obtain ⟨g2, e8, _, hgv, b0, b1, b2, b3⟩ := (H2.out.next HBW.out).at hlt
      injection e8 with ea2 en2 ec3
      injection ea2 with eb2
      injection eb2 with ec4
      subst ec4
      clear en ec en2 ec3
      have HLO := hid (HX.out.2 j hlt)
      obtain ⟨x, hx⟩ : ∃ x, l.getD j C.in0 = x := ⟨_, rfl⟩
      rw [hx] at HLO a0 b0 a1 b1 a2 b2 a3 b3
      clear hx
      have A0 := fun p : Gr wr => (p.h.cell (p := ⟨_, _, none⟩) hgu).trans a0
      have C0 := fun p : Gr wr => (p.h.cell (p := ⟨_, _, none⟩) hgv).trans b0
      have A1 := fun p : Gr wr => (p.h.cell (p := ⟨_, _, none⟩) hgu).trans a1
      have C1 := fun p : Gr wr => (p.h.cell (p := ⟨_, _, none⟩) hgv).trans b1
      have A2 := fun p : Gr wr => (p.h.cell (p := ⟨_, _, none⟩) hgu).trans a2
      have C2 := fun p : Gr wr => (p.h.cell (p := ⟨_, _, none⟩) hgv).trans b2
      have A3 := fun p : Gr wr => (p.h.cell (p := ⟨_, _, none⟩) hgu).trans a3
      have C3 := fun p : Gr wr => (p.h.cell (p := ⟨_, _, none⟩) hgv).trans b3
      clear a0 b0 a1 b1 a2 b2 a3 b3
      go_wp2_with fail
      have hne2 : Nonempty (Gr wr) := ⟨⟨wr, Below.refl _ _⟩⟩
      refine wp_region_gr (by kernel_rfl) (by kernel_rfl) ?_
      repeat (go_big_quiet_step (first | (go_at_call 103; refine Calls.gr_of (v := .bool true) fun hpw => ?_; exact eqIn_same x _)))
      refine wpQuiet_nil ?_
      intro _ hw'
      obtain ⟨pw, rfl⟩ := hw'
      have HB4 := hid (HBW.out.trans (pw.h.mono HBW.out.size))
      clear A0 C0 A1 C1 A2 C2 A3 C3
      go_wp2
      go_roundw
      case rel => exact ⟨j + 1, by omega, by go_num, HB4.out⟩
      case measure => simp [intOf]; omega
    · obtain rfl : j = l.length := by omega
      go_wp2
      go_ret
      exact ⟨rfl, HBW.out⟩
end Go.Proofs.YtfndbnbnimhnaaaGreatDoor.R
/-! Numbers and texts of a form, by the model. -/
namespace Go.Proofs.YtfndbnbnimhnaaaGreatDoor.C
open Go.RowKit
set_option maxRecDepth 20000
/-- No row of bytes lies at block k. -/
def NotB (W : World) (k : Nat) : Prop := ∀ cs fr, W.heap[k]? ≠ some (.cells cs 5 fr)
/-- What writing into rows of bytes from B on leaves. -/
structure Ub (B : Nat) (w w' : World) : Prop where
  os : w'.os = w.os
  tape : w'.tape = w.tape
  output : w'.output = w.output
  size : w.heap.size ≤ w'.heap.size
  block : ∀ k, k < w.heap.size → (k < B ∨ NotB w k) → w'.heap[k]? = w.heap[k]?
theorem Ub.refl (B : Nat) (w : World) : Ub B w w := ⟨rfl, rfl, rfl, Nat.le_refl _, fun _ _ _ => rfl⟩
theorem Ub.trans {B : Nat} {u v w : World} (h : Ub B u v) (k : Ub B v w) : Ub B u w :=
  ⟨k.os.trans h.os, k.tape.trans h.tape, k.output.trans h.output, Nat.le_trans h.size k.size, fun i hi hn => by
    have e := h.block i hi hn
    exact (k.block i (Nat.lt_of_lt_of_le hi h.size) (hn.imp_right fun hn cs fr => by rw [e]; exact hn cs fr)).trans e⟩
theorem Ub.of_below {B : Nat} {w w' : World} (h : Below w.heap.size w w') : Ub B w w' := ⟨h.os, h.tape, h.output, h.size, fun k hk _ => h.block k hk⟩
theorem Ub.below {B : Nat} {w w' : World} (h : Ub B w w') (hB : B ≤ w.heap.size) : Below B w w' := ⟨h.os, h.tape, h.output, h.size, fun k hk => h.block k (by omega) (.inl hk)⟩
def OwnB (B : Nat) (W : World) (v : Value) (bs : List UInt8) : Prop := W.ownsRow B 5 1 v bs.length (Lib.byteCells bs)
theorem Ub.grown {B : Nat} {w w1 w2 : World} {v : Value} {n : Nat} {xs : List Value} (h : Ub B w w1) (hown : w1.ownsRow B 5 1 v n xs) (hg : w1.grownBy w2 v.ownBlock) : Ub B w w2 :=
  h.trans ⟨hg.os, hg.tape, hg.output, hg.size, fun k hk hn => hg.block k hk fun e => by
    rcases hown.2 with ⟨rfl, _⟩ | ⟨g, cap, cur, rfl, h1, h2, _⟩
    · simp [Value.ownBlock] at e
    · simp only [Value.ownBlock, Option.some.injEq] at e
      subst e
      rcases hn with hn | hn
      · omega
      · exact hn _ _ h2⟩
theorem own_formB {W : World} {B : Nat} {v : Value} {bs : List UInt8} (h : OwnB B W v bs) : ∃ ad c, v = .slice ad bs.length c := by
  obtain ⟨_, ⟨rfl, e⟩ | ⟨g, cap, cur, rfl, _⟩⟩ := h
  · exact ⟨none, 0, by rw [e]⟩
  · exact ⟨_, cap, rfl⟩
theorem own_formM {W : World} {B : Nat} {v : Value} {bs : List UInt8} (h : OwnB B W v bs) : ∃ ad m c, v = .slice ad m c := by
  obtain ⟨ad, c, e⟩ := own_formB h
  exact ⟨ad, _, c, e⟩
theorem u8_nat {n : Nat} (h : n < 256) : ((n.toUInt8).toNat : Int) = n := by
  simp [Nat.mod_eq_of_lt h]
theorem own_byte {W : World} {B : Nat} {v : Value} {bs : List UInt8} {c : UInt8} (h : W.ownsRow B 5 1 v (bs.length + 1) (Lib.byteCells bs ++ [.int .u8 c.toNat])) : OwnB B W v (bs ++ [c]) := by
  unfold OwnB
  rw [Lib.byteCells_append, List.length_append]
  exact h
theorem lit_byte (W : World) (x : Value) : ∀ j u, ([x] : List Value)[j]? = some u → (W.alloc (.cells #[x] 5)).cell? ((⟨W.heap.size, 0, none⟩ : Addr).add j) = some u := fun j u hj => by
  match j, hj with
  | 0, hj => simp at hj; subst hj; simp [Addr.add]
set_option maxHeartbeats 4000000 in
theorem l16Number_any {B : Nat} {v : Value} {bs : List UInt8} (n : Nat) (w : World) (hn : n < 18446744073709551616) (h : OwnB B w v bs) (hB : B ≤ w.heap.size) (hl : bs.length ≤ 1000000000) :
    Calls Tryz.prog 33 #[v, .int .u64 n] w fun e w' => ∃ v', e = .returned v' ∧ OwnB B w' v' (bs ++ nb n) ∧ Ub B w w' := by
  obtain ⟨i0, hi, hz0, hz1, hz2⟩ := info_parts (P := Tryz.prog) (e := 5) (z := .int .u8 0) (size := 1) (bytes := 1) (by kernel_rfl)
  have HHI := hid (And.intro hi (And.intro hz0 (And.intro hz1 hz2)))
  have HW := hid h
  have HL : Hid ((nb n).length ≤ 10) := hid (nb_10 hn)
  clear hi hz0 hz1 hz2 h
  go_enter Tryz.func33, Tryz.ntmps33
  go_wp2
  go_loopw [0, 1] (fun u m wr => ∃ (k : Nat) (cs : List UInt8), m = .int .u64 k ∧ k < 18446744073709551616 ∧ OwnB B wr u cs ∧ cs ++ nb k = bs ++ nb n ∧ Ub B w wr) (fun _ m _ => (intOf m).toNat)
  case atStart => exact ⟨n, bs, rfl, hn, HW.out, rfl, Ub.refl _ _⟩
  case round =>
    obtain ⟨k, cs, rfl, hk, hown, he, hub⟩ := hrel
    have HO := hid hown
    have HE := hid he
    have HU := hid hub
    have HCL : Hid (cs.length ≤ 1000000010) := hid (by
      have h1 := congrArg List.length he
      have h2 := HL.out
      simp only [List.length_append] at h1
      omega)
    have hcl := HCL.out
    have HBW : Hid (B ≤ wr.heap.size) := hid (Nat.le_trans hB hub.size)
    obtain ⟨ad, cp, rfl⟩ := own_formB hown
    clear hown he hub HW
    have HOA : Hid (∀ x, (wr.alloc (.cells #[x] 5)).ownsRow B 5 1 (.slice ad cs.length cp) cs.length (Lib.byteCells cs)) := hid fun x => World.ownsRow.alloc (show wr.ownsRow B 5 1 (.slice ad cs.length cp) cs.length (Lib.byteCells cs) from HO.out) _
    have HUA : Hid (∀ x, Ub B w (wr.alloc (.cells #[x] 5))) := hid fun x => HU.out.trans (Ub.of_below ((Below.refl _ _).alloc (Nat.le_refl _) _))
    have HBA : Hid (∀ x, B ≤ (wr.alloc (.cells #[x] 5)).heap.size) := hid fun x => by have := HBW.out; simp; omega
    by_cases h7 : 127 < k
    · have h7i : (127 : Int) < (k : Int) := by omega
      have HC : Hid ((((k % 128 + 128).toUInt8).toNat : Int) = (k : Int) % 128 + 128) := hid (by rw [u8_nat (by omega)]; omega)
      have HNX : Hid (cs ++ [(k % 128 + 128).toUInt8] ++ nb (k / 128) = bs ++ nb n) := hid (by rw [← HE.out, nb_more h7]; simp)
      go_wp2_with (at_builtin; refine wpList_append_own _ rfl (.tmp 7) (.tmp 12) 39 rfl B 5 i0 (.int .u8 0) 1 1 Tryz.underlying39 HHI.out.1 HHI.out.2.1 HHI.out.2.2.1 HHI.out.2.2.2 rfl (by decide) (.slice ad cs.length cp) cs.length (Lib.byteCells cs) rfl (HOA.out _) ⟨wr.heap.size, 0, none⟩ 1 1 [.int .u8 ((k : Int) % 128 + 128)] rfl rfl (lit_byte _ _) (fun u hu => by simp at hu; subst hu; rfl) (by unfold maxLen; omega) (by omega) (HBA.out _) ?_; intro v9 w9 o9 g9 _; have HU9 := hid ((HUA.out _).grown (HOA.out _) g9); have HO9 : Hid (OwnB B w9 v9 (cs ++ [(k % 128 + 128).toUInt8])) := hid (own_byte (by rw [HC.out]; exact o9)); obtain ⟨a9, m9, c9, rfl⟩ := own_formM HO9.out; clear o9 g9)
      go_roundw
      case rel => exact ⟨k / 128, _, by go_num, by omega, HO9.out, HNX.out, HU9.out⟩
      case measure => simp [intOf]; omega
    · have h7i : ¬ (127 : Int) < (k : Int) := by omega
      have HC : Hid (((k.toUInt8).toNat : Int) = (k : Int)) := hid (u8_nat (by omega))
      have HNX : Hid (cs ++ [k.toUInt8] = bs ++ nb n) := hid (by rw [← HE.out, nb_last h7])
      go_wp2_with (at_builtin; refine wpList_append_own _ rfl (.tmp 16) (.tmp 19) 39 rfl B 5 i0 (.int .u8 0) 1 1 Tryz.underlying39 HHI.out.1 HHI.out.2.1 HHI.out.2.2.1 HHI.out.2.2.2 rfl (by decide) (.slice ad cs.length cp) cs.length (Lib.byteCells cs) rfl (HOA.out _) ⟨wr.heap.size, 0, none⟩ 1 1 [.int .u8 (k : Int)] rfl rfl (lit_byte _ _) (fun u hu => by simp at hu; subst hu; rfl) (by unfold maxLen; omega) (by omega) (HBA.out _) ?_; intro v9 w9 o9 g9 _; have HU9 := hid ((HUA.out _).grown (HOA.out _) g9); have HO9 : Hid (OwnB B w9 v9 (bs ++ nb n)) := hid (by rw [← HNX.out]; exact own_byte (by rw [HC.out]; exact o9)); obtain ⟨a9, m9, c9, rfl⟩ := own_formM HO9.out; clear o9 g9)
      go_ret
      exact ⟨_, rfl, HO9.out, HU9.out⟩
theorem l16Number_int {B : Nat} {v : Value} {bs : List UInt8} (n : Nat) (a : Int) (ha : a = n) (w : World) (hn : n < 18446744073709551616) (h : OwnB B w v bs) (hB : B ≤ w.heap.size) (hl : bs.length ≤ 1000000000) :
    Calls Tryz.prog 33 #[v, .int .u64 a] w fun e w' => ∃ v', e = .returned v' ∧ OwnB B w' v' (bs ++ nb n) ∧ Ub B w w' := by
  subst ha
  exact l16Number_any n w hn h hB hl
theorem own_str {W : World} {B : Nat} {v : Value} {bs : List UInt8} {s : ByteArray} (h : W.ownsRow B 5 1 v (bs.length + s.size) (Lib.byteCells bs ++ Lib.strCells s)) : OwnB B W v (bs ++ s.data.toList) := by
  unfold OwnB
  rw [Lib.byteCells_append, ← Lib.strCells_eq, List.length_append, len_sizeF]
  exact h
set_option maxHeartbeats 4000000 in
theorem l16Text_any {B : Nat} {v : Value} {bs : List UInt8} (s : ByteArray) (w : World) (hs : s.size ≤ 1048576) (h : OwnB B w v bs) (hB : B ≤ w.heap.size) (hl : bs.length ≤ 900000000) :
    Calls Tryz.prog 34 #[v, .string s] w fun e w' => ∃ v', e = .returned v' ∧ OwnB B w' v' (bs ++ tb s) ∧ Ub B w w' := by
  obtain ⟨i0, hi, hz0, hz1, hz2⟩ := info_parts (P := Tryz.prog) (e := 5) (z := .int .u8 0) (size := 1) (bytes := 1) (by kernel_rfl)
  have HHI := hid (And.intro hi (And.intro hz0 (And.intro hz1 hz2)))
  have HN := hid (l16Number_int s.size (s.size : Int) rfl w (by omega) h hB (by omega))
  have HL : Hid ((bs ++ nb s.size).length ≤ 900000010) := hid (by rw [List.length_append]; have := nb_10 (n := s.size) (by omega); omega)
  have hlb := HL.out
  obtain ⟨ad, cp, rfl⟩ := own_formB h
  clear hi hz0 hz1 hz2 h
  go_enter Tryz.func34, Tryz.ntmps34
  go_wp2_with fail
  refine HN.out.mono ?_
  rintro e w1 ⟨v1, rfl, ho1, hu1⟩
  have HO1 := hid ho1
  have HU1 := hid hu1
  have HBW : Hid (B ≤ w1.heap.size) := hid (Nat.le_trans hB hu1.size)
  obtain ⟨a1, c1, rfl⟩ := own_formB ho1
  obtain ⟨cs, hcs⟩ : ∃ cs, bs ++ nb s.size = cs := ⟨_, rfl⟩
  have HCE : Hid (cs ++ s.data.toList = bs ++ tb s) := hid (by rw [← hcs]; unfold tb; simp)
  rw [hcs] at HO1 hlb ⊢
  clear ho1 hu1 hcs HL HN
  go_wp2_with (at_builtin; refine Lib.wpList_append_own_string _ rfl _ _ 39 9 rfl B 5 i0 Tryz.underlying39 Tryz.underlying9 HHI.out.1 HHI.out.2.1 HHI.out.2.2.1 HHI.out.2.2.2 (.slice a1 cs.length c1) cs.length (Lib.byteCells cs) rfl HO1.out s rfl (by unfold maxLen; omega) (by omega) HBW.out ?_; intro v9 w9 o9 g9 _; have HU9 := hid (HU1.out.grown HO1.out g9); have HO9 : Hid (OwnB B w9 v9 (bs ++ tb s)) := hid (by rw [← HCE.out]; exact own_str o9); obtain ⟨a9, m9, c9, rfl⟩ := own_formM HO9.out; clear o9 g9)
  go_ret
  exact ⟨_, rfl, HO9.out, HU9.out⟩
end Go.Proofs.YtfndbnbnimhnaaaGreatDoor.C
/-! What an instruction puts, in the program. Printed by gen_put.py. -/
namespace Go.Proofs.YtfndbnbnimhnaaaGreatDoor.C
open Go.RowKit
set_option maxRecDepth 20000
def putK (fns : List Fn) (i : In) (sl tk : List Int) : Int :=
  if i.op = 1 ∨ i.op = 7 then i.a else if i.op = 2 then sl.getD i.a.toNat 0 else if i.op = 5 then unG i.a (tk.getD 0 0) else if i.op = 6 then binG i.a (tk.getD 0 0) (tk.getD 1 0) else if i.op = 8 then (sig i.a).2 else (fns.getD i.a.toNat fn0).result
def putR (fns : List Fn) (i : In) (sl tk : List Int) : List Int × Bool :=
  if putsT i.op.toNat = 0 then ([], true) else if i.op = 9 ∧ (fns.getD i.a.toNat fn0).result = 0 then ([], true) else ([putK fns i sl tk], decide (¬ putK fns i sl tk = 0))
def PutEnd (fns : List Fn) (i : In) (sl tk : List Int) (w : World) (e : Ending) (w' : World) : Prop := e = .returned (.tuple #[.string (kt (putR fns i sl tk).1), .bool (putR fns i sl tk).2]) ∧ Below w.heap.size w w'
theorem put_some {fns : List Fn} {i : In} {sl tk : List Int} (h0 : ¬ putsT i.op.toNat = 0) (h9 : ¬ (i.op = 9 ∧ (fns.getD i.a.toNat fn0).result = 0)) : putR fns i sl tk = ([putK fns i sl tk], decide (¬ putK fns i sl tk = 0)) := by
  unfold putR
  rw [if_neg h0, if_neg h9]
theorem put_end {fns : List Fn} {i : In} {sl tk : List Int} {w W : World} {y : Int} (lo : Below w.heap.size w W) (h0 : ¬ putsT i.op.toNat = 0) (h9 : ¬ (i.op = 9 ∧ (fns.getD i.a.toNat fn0).result = 0)) (hy : putK fns i sl tk = y) : PutEnd fns i sl tk w (.returned (.tuple #[.string (kt [y]), .bool (y != 0)])) W := by
  refine ⟨?_, lo⟩
  rw [put_some h0 h9, hy]
  have : (y != 0) = decide (¬ y = 0) := by by_cases h : y = 0 <;> simp [h]
  rw [this]
set_option maxHeartbeats 2000000 in
theorem put_3 {fns : List Fn} {f : Fn} {b : Nat} {cv pv iv xv wv : Value} {w : World} (hM : MS fns f b cv pv iv xv wv w) (hE : EnvI w) {a n : Int} {tx : ByteArray} (hi : InsR fns f ⟨3, a, n, tx⟩) {sl tk : List Int} {tv : Value} (hs : Ok10 sl) (ht : IntRow w tv tk) (hr : ∀ x ∈ tk, 1 ≤ x ∧ x ≤ 10) (hl : tk.length = takesN fns ⟨3, a, n, tx⟩) (hsl : sl.length = f.S) (hF : ∀ g ∈ fns, FnR fns g) :
    Calls Tryz.prog 131 #[.pointer (some ⟨b, 0, none⟩), inV ⟨3, a, n, tx⟩, .string (kt sl), tv] w (PutEnd fns ⟨3, a, n, tx⟩ sl tk w) := by
  have HLO : Hid (Below w.heap.size w (w.alloc (ibox ⟨3, a, n, tx⟩))) := hid ((Below.refl _ _).alloc (Nat.le_refl _) _)
  have HM := hid (hM.next HLO.out)
  have HE := hid (hE.next HLO.out)
  have HT := hid (ht.next HLO.out)
  obtain ⟨j0, j1, j2, j3⟩ := ix (ibox_new w ⟨3, a, n, tx⟩)
  obtain ⟨m0, m1, m2, m3, m4, m5, m6, m7⟩ := mx HM.out
  obtain ⟨_, s0, s1, s2, _⟩ := HE.out.rows 3 (by omega) (by omega)
  dsimp only at j0 j1 j2 j3
  have hP : putsT 3 = 0 := rfl
  rw [hP] at s2
  simp only [Nat.reduceMul, Nat.reduceAdd] at s0 s1 s2
  have HI := hid hi
  have HS := hid hs
  have HR := hid hr
  have HL := hid hl
  have HSL := hid hsl
  have HF := hid hF
  obtain ⟨at9, ct9, rfl⟩ := ht.sl
  clear hM hE ht hi hs hr hl hsl hF hP s0 s1
  unfold inV
  dsimp only
  go_enter Tryz.func131, Tryz.ntmps131
  go_upto_region 2 with fail
  obtain ⟨W1, hW1⟩ : ∃ W, w.alloc (ibox ⟨3, a, n, tx⟩) = W := ⟨_, rfl⟩
  rw [hW1] at HLO HM HE HT j0 j1 j2 j3 m0 m1 m2 m3 m4 m5 m6 m7 s2
  unfold ibox at hW1
  rw [hW1]
  clear hW1
  go_wp2_with fail
  go_ret2
  exact ⟨rfl, HLO.out⟩
set_option maxHeartbeats 2000000 in
theorem put_4 {fns : List Fn} {f : Fn} {b : Nat} {cv pv iv xv wv : Value} {w : World} (hM : MS fns f b cv pv iv xv wv w) (hE : EnvI w) {a n : Int} {tx : ByteArray} (hi : InsR fns f ⟨4, a, n, tx⟩) {sl tk : List Int} {tv : Value} (hs : Ok10 sl) (ht : IntRow w tv tk) (hr : ∀ x ∈ tk, 1 ≤ x ∧ x ≤ 10) (hl : tk.length = takesN fns ⟨4, a, n, tx⟩) (hsl : sl.length = f.S) (hF : ∀ g ∈ fns, FnR fns g) :
    Calls Tryz.prog 131 #[.pointer (some ⟨b, 0, none⟩), inV ⟨4, a, n, tx⟩, .string (kt sl), tv] w (PutEnd fns ⟨4, a, n, tx⟩ sl tk w) := by
  have HLO : Hid (Below w.heap.size w (w.alloc (ibox ⟨4, a, n, tx⟩))) := hid ((Below.refl _ _).alloc (Nat.le_refl _) _)
  have HM := hid (hM.next HLO.out)
  have HE := hid (hE.next HLO.out)
  have HT := hid (ht.next HLO.out)
  obtain ⟨j0, j1, j2, j3⟩ := ix (ibox_new w ⟨4, a, n, tx⟩)
  obtain ⟨m0, m1, m2, m3, m4, m5, m6, m7⟩ := mx HM.out
  obtain ⟨_, s0, s1, s2, _⟩ := HE.out.rows 4 (by omega) (by omega)
  dsimp only at j0 j1 j2 j3
  have hP : putsT 4 = 0 := rfl
  rw [hP] at s2
  simp only [Nat.reduceMul, Nat.reduceAdd] at s0 s1 s2
  have HI := hid hi
  have HS := hid hs
  have HR := hid hr
  have HL := hid hl
  have HSL := hid hsl
  have HF := hid hF
  obtain ⟨at9, ct9, rfl⟩ := ht.sl
  clear hM hE ht hi hs hr hl hsl hF hP s0 s1
  unfold inV
  dsimp only
  go_enter Tryz.func131, Tryz.ntmps131
  go_upto_region 2 with fail
  obtain ⟨W1, hW1⟩ : ∃ W, w.alloc (ibox ⟨4, a, n, tx⟩) = W := ⟨_, rfl⟩
  rw [hW1] at HLO HM HE HT j0 j1 j2 j3 m0 m1 m2 m3 m4 m5 m6 m7 s2
  unfold ibox at hW1
  rw [hW1]
  clear hW1
  go_wp2_with fail
  go_ret2
  exact ⟨rfl, HLO.out⟩
set_option maxHeartbeats 2000000 in
theorem put_10 {fns : List Fn} {f : Fn} {b : Nat} {cv pv iv xv wv : Value} {w : World} (hM : MS fns f b cv pv iv xv wv w) (hE : EnvI w) {a n : Int} {tx : ByteArray} (hi : InsR fns f ⟨10, a, n, tx⟩) {sl tk : List Int} {tv : Value} (hs : Ok10 sl) (ht : IntRow w tv tk) (hr : ∀ x ∈ tk, 1 ≤ x ∧ x ≤ 10) (hl : tk.length = takesN fns ⟨10, a, n, tx⟩) (hsl : sl.length = f.S) (hF : ∀ g ∈ fns, FnR fns g) :
    Calls Tryz.prog 131 #[.pointer (some ⟨b, 0, none⟩), inV ⟨10, a, n, tx⟩, .string (kt sl), tv] w (PutEnd fns ⟨10, a, n, tx⟩ sl tk w) := by
  have HLO : Hid (Below w.heap.size w (w.alloc (ibox ⟨10, a, n, tx⟩))) := hid ((Below.refl _ _).alloc (Nat.le_refl _) _)
  have HM := hid (hM.next HLO.out)
  have HE := hid (hE.next HLO.out)
  have HT := hid (ht.next HLO.out)
  obtain ⟨j0, j1, j2, j3⟩ := ix (ibox_new w ⟨10, a, n, tx⟩)
  obtain ⟨m0, m1, m2, m3, m4, m5, m6, m7⟩ := mx HM.out
  obtain ⟨_, s0, s1, s2, _⟩ := HE.out.rows 10 (by omega) (by omega)
  dsimp only at j0 j1 j2 j3
  have hP : putsT 10 = 0 := rfl
  rw [hP] at s2
  simp only [Nat.reduceMul, Nat.reduceAdd] at s0 s1 s2
  have HI := hid hi
  have HS := hid hs
  have HR := hid hr
  have HL := hid hl
  have HSL := hid hsl
  have HF := hid hF
  obtain ⟨at9, ct9, rfl⟩ := ht.sl
  clear hM hE ht hi hs hr hl hsl hF hP s0 s1
  unfold inV
  dsimp only
  go_enter Tryz.func131, Tryz.ntmps131
  go_upto_region 2 with fail
  obtain ⟨W1, hW1⟩ : ∃ W, w.alloc (ibox ⟨10, a, n, tx⟩) = W := ⟨_, rfl⟩
  rw [hW1] at HLO HM HE HT j0 j1 j2 j3 m0 m1 m2 m3 m4 m5 m6 m7 s2
  unfold ibox at hW1
  rw [hW1]
  clear hW1
  go_wp2_with fail
  go_ret2
  exact ⟨rfl, HLO.out⟩
set_option maxHeartbeats 2000000 in
theorem put_11 {fns : List Fn} {f : Fn} {b : Nat} {cv pv iv xv wv : Value} {w : World} (hM : MS fns f b cv pv iv xv wv w) (hE : EnvI w) {a n : Int} {tx : ByteArray} (hi : InsR fns f ⟨11, a, n, tx⟩) {sl tk : List Int} {tv : Value} (hs : Ok10 sl) (ht : IntRow w tv tk) (hr : ∀ x ∈ tk, 1 ≤ x ∧ x ≤ 10) (hl : tk.length = takesN fns ⟨11, a, n, tx⟩) (hsl : sl.length = f.S) (hF : ∀ g ∈ fns, FnR fns g) :
    Calls Tryz.prog 131 #[.pointer (some ⟨b, 0, none⟩), inV ⟨11, a, n, tx⟩, .string (kt sl), tv] w (PutEnd fns ⟨11, a, n, tx⟩ sl tk w) := by
  have HLO : Hid (Below w.heap.size w (w.alloc (ibox ⟨11, a, n, tx⟩))) := hid ((Below.refl _ _).alloc (Nat.le_refl _) _)
  have HM := hid (hM.next HLO.out)
  have HE := hid (hE.next HLO.out)
  have HT := hid (ht.next HLO.out)
  obtain ⟨j0, j1, j2, j3⟩ := ix (ibox_new w ⟨11, a, n, tx⟩)
  obtain ⟨m0, m1, m2, m3, m4, m5, m6, m7⟩ := mx HM.out
  obtain ⟨_, s0, s1, s2, _⟩ := HE.out.rows 11 (by omega) (by omega)
  dsimp only at j0 j1 j2 j3
  have hP : putsT 11 = 0 := rfl
  rw [hP] at s2
  simp only [Nat.reduceMul, Nat.reduceAdd] at s0 s1 s2
  have HI := hid hi
  have HS := hid hs
  have HR := hid hr
  have HL := hid hl
  have HSL := hid hsl
  have HF := hid hF
  obtain ⟨at9, ct9, rfl⟩ := ht.sl
  clear hM hE ht hi hs hr hl hsl hF hP s0 s1
  unfold inV
  dsimp only
  go_enter Tryz.func131, Tryz.ntmps131
  go_upto_region 2 with fail
  obtain ⟨W1, hW1⟩ : ∃ W, w.alloc (ibox ⟨11, a, n, tx⟩) = W := ⟨_, rfl⟩
  rw [hW1] at HLO HM HE HT j0 j1 j2 j3 m0 m1 m2 m3 m4 m5 m6 m7 s2
  unfold ibox at hW1
  rw [hW1]
  clear hW1
  go_wp2_with fail
  go_ret2
  exact ⟨rfl, HLO.out⟩
set_option maxHeartbeats 2000000 in
theorem put_12 {fns : List Fn} {f : Fn} {b : Nat} {cv pv iv xv wv : Value} {w : World} (hM : MS fns f b cv pv iv xv wv w) (hE : EnvI w) {a n : Int} {tx : ByteArray} (hi : InsR fns f ⟨12, a, n, tx⟩) {sl tk : List Int} {tv : Value} (hs : Ok10 sl) (ht : IntRow w tv tk) (hr : ∀ x ∈ tk, 1 ≤ x ∧ x ≤ 10) (hl : tk.length = takesN fns ⟨12, a, n, tx⟩) (hsl : sl.length = f.S) (hF : ∀ g ∈ fns, FnR fns g) :
    Calls Tryz.prog 131 #[.pointer (some ⟨b, 0, none⟩), inV ⟨12, a, n, tx⟩, .string (kt sl), tv] w (PutEnd fns ⟨12, a, n, tx⟩ sl tk w) := by
  have HLO : Hid (Below w.heap.size w (w.alloc (ibox ⟨12, a, n, tx⟩))) := hid ((Below.refl _ _).alloc (Nat.le_refl _) _)
  have HM := hid (hM.next HLO.out)
  have HE := hid (hE.next HLO.out)
  have HT := hid (ht.next HLO.out)
  obtain ⟨j0, j1, j2, j3⟩ := ix (ibox_new w ⟨12, a, n, tx⟩)
  obtain ⟨m0, m1, m2, m3, m4, m5, m6, m7⟩ := mx HM.out
  obtain ⟨_, s0, s1, s2, _⟩ := HE.out.rows 12 (by omega) (by omega)
  dsimp only at j0 j1 j2 j3
  have hP : putsT 12 = 0 := rfl
  rw [hP] at s2
  simp only [Nat.reduceMul, Nat.reduceAdd] at s0 s1 s2
  have HI := hid hi
  have HS := hid hs
  have HR := hid hr
  have HL := hid hl
  have HSL := hid hsl
  have HF := hid hF
  obtain ⟨at9, ct9, rfl⟩ := ht.sl
  clear hM hE ht hi hs hr hl hsl hF hP s0 s1
  unfold inV
  dsimp only
  go_enter Tryz.func131, Tryz.ntmps131
  go_upto_region 2 with fail
  obtain ⟨W1, hW1⟩ : ∃ W, w.alloc (ibox ⟨12, a, n, tx⟩) = W := ⟨_, rfl⟩
  rw [hW1] at HLO HM HE HT j0 j1 j2 j3 m0 m1 m2 m3 m4 m5 m6 m7 s2
  unfold ibox at hW1
  rw [hW1]
  clear hW1
  go_wp2_with fail
  go_ret2
  exact ⟨rfl, HLO.out⟩
set_option maxHeartbeats 2000000 in
theorem put_13 {fns : List Fn} {f : Fn} {b : Nat} {cv pv iv xv wv : Value} {w : World} (hM : MS fns f b cv pv iv xv wv w) (hE : EnvI w) {a n : Int} {tx : ByteArray} (hi : InsR fns f ⟨13, a, n, tx⟩) {sl tk : List Int} {tv : Value} (hs : Ok10 sl) (ht : IntRow w tv tk) (hr : ∀ x ∈ tk, 1 ≤ x ∧ x ≤ 10) (hl : tk.length = takesN fns ⟨13, a, n, tx⟩) (hsl : sl.length = f.S) (hF : ∀ g ∈ fns, FnR fns g) :
    Calls Tryz.prog 131 #[.pointer (some ⟨b, 0, none⟩), inV ⟨13, a, n, tx⟩, .string (kt sl), tv] w (PutEnd fns ⟨13, a, n, tx⟩ sl tk w) := by
  have HLO : Hid (Below w.heap.size w (w.alloc (ibox ⟨13, a, n, tx⟩))) := hid ((Below.refl _ _).alloc (Nat.le_refl _) _)
  have HM := hid (hM.next HLO.out)
  have HE := hid (hE.next HLO.out)
  have HT := hid (ht.next HLO.out)
  obtain ⟨j0, j1, j2, j3⟩ := ix (ibox_new w ⟨13, a, n, tx⟩)
  obtain ⟨m0, m1, m2, m3, m4, m5, m6, m7⟩ := mx HM.out
  obtain ⟨_, s0, s1, s2, _⟩ := HE.out.rows 13 (by omega) (by omega)
  dsimp only at j0 j1 j2 j3
  have hP : putsT 13 = 0 := rfl
  rw [hP] at s2
  simp only [Nat.reduceMul, Nat.reduceAdd] at s0 s1 s2
  have HI := hid hi
  have HS := hid hs
  have HR := hid hr
  have HL := hid hl
  have HSL := hid hsl
  have HF := hid hF
  obtain ⟨at9, ct9, rfl⟩ := ht.sl
  clear hM hE ht hi hs hr hl hsl hF hP s0 s1
  unfold inV
  dsimp only
  go_enter Tryz.func131, Tryz.ntmps131
  go_upto_region 2 with fail
  obtain ⟨W1, hW1⟩ : ∃ W, w.alloc (ibox ⟨13, a, n, tx⟩) = W := ⟨_, rfl⟩
  rw [hW1] at HLO HM HE HT j0 j1 j2 j3 m0 m1 m2 m3 m4 m5 m6 m7 s2
  unfold ibox at hW1
  rw [hW1]
  clear hW1
  go_wp2_with fail
  go_ret2
  exact ⟨rfl, HLO.out⟩
set_option maxHeartbeats 2000000 in
theorem put_14 {fns : List Fn} {f : Fn} {b : Nat} {cv pv iv xv wv : Value} {w : World} (hM : MS fns f b cv pv iv xv wv w) (hE : EnvI w) {a n : Int} {tx : ByteArray} (hi : InsR fns f ⟨14, a, n, tx⟩) {sl tk : List Int} {tv : Value} (hs : Ok10 sl) (ht : IntRow w tv tk) (hr : ∀ x ∈ tk, 1 ≤ x ∧ x ≤ 10) (hl : tk.length = takesN fns ⟨14, a, n, tx⟩) (hsl : sl.length = f.S) (hF : ∀ g ∈ fns, FnR fns g) :
    Calls Tryz.prog 131 #[.pointer (some ⟨b, 0, none⟩), inV ⟨14, a, n, tx⟩, .string (kt sl), tv] w (PutEnd fns ⟨14, a, n, tx⟩ sl tk w) := by
  have HLO : Hid (Below w.heap.size w (w.alloc (ibox ⟨14, a, n, tx⟩))) := hid ((Below.refl _ _).alloc (Nat.le_refl _) _)
  have HM := hid (hM.next HLO.out)
  have HE := hid (hE.next HLO.out)
  have HT := hid (ht.next HLO.out)
  obtain ⟨j0, j1, j2, j3⟩ := ix (ibox_new w ⟨14, a, n, tx⟩)
  obtain ⟨m0, m1, m2, m3, m4, m5, m6, m7⟩ := mx HM.out
  obtain ⟨_, s0, s1, s2, _⟩ := HE.out.rows 14 (by omega) (by omega)
  dsimp only at j0 j1 j2 j3
  have hP : putsT 14 = 0 := rfl
  rw [hP] at s2
  simp only [Nat.reduceMul, Nat.reduceAdd] at s0 s1 s2
  have HI := hid hi
  have HS := hid hs
  have HR := hid hr
  have HL := hid hl
  have HSL := hid hsl
  have HF := hid hF
  obtain ⟨at9, ct9, rfl⟩ := ht.sl
  clear hM hE ht hi hs hr hl hsl hF hP s0 s1
  unfold inV
  dsimp only
  go_enter Tryz.func131, Tryz.ntmps131
  go_upto_region 2 with fail
  obtain ⟨W1, hW1⟩ : ∃ W, w.alloc (ibox ⟨14, a, n, tx⟩) = W := ⟨_, rfl⟩
  rw [hW1] at HLO HM HE HT j0 j1 j2 j3 m0 m1 m2 m3 m4 m5 m6 m7 s2
  unfold ibox at hW1
  rw [hW1]
  clear hW1
  go_wp2_with fail
  go_ret2
  exact ⟨rfl, HLO.out⟩
set_option maxHeartbeats 2000000 in
theorem put_15 {fns : List Fn} {f : Fn} {b : Nat} {cv pv iv xv wv : Value} {w : World} (hM : MS fns f b cv pv iv xv wv w) (hE : EnvI w) {a n : Int} {tx : ByteArray} (hi : InsR fns f ⟨15, a, n, tx⟩) {sl tk : List Int} {tv : Value} (hs : Ok10 sl) (ht : IntRow w tv tk) (hr : ∀ x ∈ tk, 1 ≤ x ∧ x ≤ 10) (hl : tk.length = takesN fns ⟨15, a, n, tx⟩) (hsl : sl.length = f.S) (hF : ∀ g ∈ fns, FnR fns g) :
    Calls Tryz.prog 131 #[.pointer (some ⟨b, 0, none⟩), inV ⟨15, a, n, tx⟩, .string (kt sl), tv] w (PutEnd fns ⟨15, a, n, tx⟩ sl tk w) := by
  have HLO : Hid (Below w.heap.size w (w.alloc (ibox ⟨15, a, n, tx⟩))) := hid ((Below.refl _ _).alloc (Nat.le_refl _) _)
  have HM := hid (hM.next HLO.out)
  have HE := hid (hE.next HLO.out)
  have HT := hid (ht.next HLO.out)
  obtain ⟨j0, j1, j2, j3⟩ := ix (ibox_new w ⟨15, a, n, tx⟩)
  obtain ⟨m0, m1, m2, m3, m4, m5, m6, m7⟩ := mx HM.out
  obtain ⟨_, s0, s1, s2, _⟩ := HE.out.rows 15 (by omega) (by omega)
  dsimp only at j0 j1 j2 j3
  have hP : putsT 15 = 0 := rfl
  rw [hP] at s2
  simp only [Nat.reduceMul, Nat.reduceAdd] at s0 s1 s2
  have HI := hid hi
  have HS := hid hs
  have HR := hid hr
  have HL := hid hl
  have HSL := hid hsl
  have HF := hid hF
  obtain ⟨at9, ct9, rfl⟩ := ht.sl
  clear hM hE ht hi hs hr hl hsl hF hP s0 s1
  unfold inV
  dsimp only
  go_enter Tryz.func131, Tryz.ntmps131
  go_upto_region 2 with fail
  obtain ⟨W1, hW1⟩ : ∃ W, w.alloc (ibox ⟨15, a, n, tx⟩) = W := ⟨_, rfl⟩
  rw [hW1] at HLO HM HE HT j0 j1 j2 j3 m0 m1 m2 m3 m4 m5 m6 m7 s2
  unfold ibox at hW1
  rw [hW1]
  clear hW1
  go_wp2_with fail
  go_ret2
  exact ⟨rfl, HLO.out⟩
set_option maxHeartbeats 2000000 in
theorem put_16 {fns : List Fn} {f : Fn} {b : Nat} {cv pv iv xv wv : Value} {w : World} (hM : MS fns f b cv pv iv xv wv w) (hE : EnvI w) {a n : Int} {tx : ByteArray} (hi : InsR fns f ⟨16, a, n, tx⟩) {sl tk : List Int} {tv : Value} (hs : Ok10 sl) (ht : IntRow w tv tk) (hr : ∀ x ∈ tk, 1 ≤ x ∧ x ≤ 10) (hl : tk.length = takesN fns ⟨16, a, n, tx⟩) (hsl : sl.length = f.S) (hF : ∀ g ∈ fns, FnR fns g) :
    Calls Tryz.prog 131 #[.pointer (some ⟨b, 0, none⟩), inV ⟨16, a, n, tx⟩, .string (kt sl), tv] w (PutEnd fns ⟨16, a, n, tx⟩ sl tk w) := by
  have HLO : Hid (Below w.heap.size w (w.alloc (ibox ⟨16, a, n, tx⟩))) := hid ((Below.refl _ _).alloc (Nat.le_refl _) _)
  have HM := hid (hM.next HLO.out)
  have HE := hid (hE.next HLO.out)
  have HT := hid (ht.next HLO.out)
  obtain ⟨j0, j1, j2, j3⟩ := ix (ibox_new w ⟨16, a, n, tx⟩)
  obtain ⟨m0, m1, m2, m3, m4, m5, m6, m7⟩ := mx HM.out
  obtain ⟨_, s0, s1, s2, _⟩ := HE.out.rows 16 (by omega) (by omega)
  dsimp only at j0 j1 j2 j3
  have hP : putsT 16 = 0 := rfl
  rw [hP] at s2
  simp only [Nat.reduceMul, Nat.reduceAdd] at s0 s1 s2
  have HI := hid hi
  have HS := hid hs
  have HR := hid hr
  have HL := hid hl
  have HSL := hid hsl
  have HF := hid hF
  obtain ⟨at9, ct9, rfl⟩ := ht.sl
  clear hM hE ht hi hs hr hl hsl hF hP s0 s1
  unfold inV
  dsimp only
  go_enter Tryz.func131, Tryz.ntmps131
  go_upto_region 2 with fail
  obtain ⟨W1, hW1⟩ : ∃ W, w.alloc (ibox ⟨16, a, n, tx⟩) = W := ⟨_, rfl⟩
  rw [hW1] at HLO HM HE HT j0 j1 j2 j3 m0 m1 m2 m3 m4 m5 m6 m7 s2
  unfold ibox at hW1
  rw [hW1]
  clear hW1
  go_wp2_with fail
  go_ret2
  exact ⟨rfl, HLO.out⟩
set_option maxHeartbeats 2000000 in
theorem put_1 {fns : List Fn} {f : Fn} {b : Nat} {cv pv iv xv wv : Value} {w : World} (hM : MS fns f b cv pv iv xv wv w) (hE : EnvI w) {a n : Int} {tx : ByteArray} (hi : InsR fns f ⟨1, a, n, tx⟩) {sl tk : List Int} {tv : Value} (hs : Ok10 sl) (ht : IntRow w tv tk) (hr : ∀ x ∈ tk, 1 ≤ x ∧ x ≤ 10) (hl : tk.length = takesN fns ⟨1, a, n, tx⟩) (hsl : sl.length = f.S) (hF : ∀ g ∈ fns, FnR fns g) :
    Calls Tryz.prog 131 #[.pointer (some ⟨b, 0, none⟩), inV ⟨1, a, n, tx⟩, .string (kt sl), tv] w (PutEnd fns ⟨1, a, n, tx⟩ sl tk w) := by
  have HLO : Hid (Below w.heap.size w (w.alloc (ibox ⟨1, a, n, tx⟩))) := hid ((Below.refl _ _).alloc (Nat.le_refl _) _)
  have HM := hid (hM.next HLO.out)
  have HE := hid (hE.next HLO.out)
  have HT := hid (ht.next HLO.out)
  obtain ⟨j0, j1, j2, j3⟩ := ix (ibox_new w ⟨1, a, n, tx⟩)
  obtain ⟨m0, m1, m2, m3, m4, m5, m6, m7⟩ := mx HM.out
  obtain ⟨_, s0, s1, s2, _⟩ := HE.out.rows 1 (by omega) (by omega)
  dsimp only at j0 j1 j2 j3
  have hP : putsT 1 = 1 := rfl
  rw [hP] at s2
  simp only [Nat.reduceMul, Nat.reduceAdd] at s0 s1 s2
  have HI := hid hi
  have HS := hid hs
  have HR := hid hr
  have HL := hid hl
  have HSL := hid hsl
  have HF := hid hF
  obtain ⟨at9, ct9, rfl⟩ := ht.sl
  clear hM hE ht hi hs hr hl hsl hF hP s0 s1
  unfold inV
  dsimp only
  go_enter Tryz.func131, Tryz.ntmps131
  go_upto_region 2 with fail
  obtain ⟨W1, hW1⟩ : ∃ W, w.alloc (ibox ⟨1, a, n, tx⟩) = W := ⟨_, rfl⟩
  rw [hW1] at HLO HM HE HT j0 j1 j2 j3 m0 m1 m2 m3 m4 m5 m6 m7 s2
  unfold ibox at hW1
  rw [hW1]
  clear hW1
  have HY : Hid (0 ≤ a ∧ a ≤ 10) := hid (by have := HI.out.push rfl; dsimp only at this; omega)
  have HK : Hid (putK fns ⟨1, a, n, tx⟩ sl tk = a) := hid rfl
  go_wp2_with (go_at_call 132; refine (kindText_any _ HY.out _).mono ?_; rintro e w5 ⟨rfl, hb5⟩; have HB5 := hid (HLO.out.trans (hb5.mono (HLO.out).size)); clear hb5)
  go_ret2
  have hz := put_end (fns := fns) (i := ⟨1, a, n, tx⟩) (sl := sl) (tk := tk) HB5.out (show ¬ putsT 1 = 0 by decide) (by simp) HK.out
  simpa [bne] using hz
set_option maxHeartbeats 2000000 in
theorem put_7 {fns : List Fn} {f : Fn} {b : Nat} {cv pv iv xv wv : Value} {w : World} (hM : MS fns f b cv pv iv xv wv w) (hE : EnvI w) {a n : Int} {tx : ByteArray} (hi : InsR fns f ⟨7, a, n, tx⟩) {sl tk : List Int} {tv : Value} (hs : Ok10 sl) (ht : IntRow w tv tk) (hr : ∀ x ∈ tk, 1 ≤ x ∧ x ≤ 10) (hl : tk.length = takesN fns ⟨7, a, n, tx⟩) (hsl : sl.length = f.S) (hF : ∀ g ∈ fns, FnR fns g) :
    Calls Tryz.prog 131 #[.pointer (some ⟨b, 0, none⟩), inV ⟨7, a, n, tx⟩, .string (kt sl), tv] w (PutEnd fns ⟨7, a, n, tx⟩ sl tk w) := by
  have HLO : Hid (Below w.heap.size w (w.alloc (ibox ⟨7, a, n, tx⟩))) := hid ((Below.refl _ _).alloc (Nat.le_refl _) _)
  have HM := hid (hM.next HLO.out)
  have HE := hid (hE.next HLO.out)
  have HT := hid (ht.next HLO.out)
  obtain ⟨j0, j1, j2, j3⟩ := ix (ibox_new w ⟨7, a, n, tx⟩)
  obtain ⟨m0, m1, m2, m3, m4, m5, m6, m7⟩ := mx HM.out
  obtain ⟨_, s0, s1, s2, _⟩ := HE.out.rows 7 (by omega) (by omega)
  dsimp only at j0 j1 j2 j3
  have hP : putsT 7 = 1 := rfl
  rw [hP] at s2
  simp only [Nat.reduceMul, Nat.reduceAdd] at s0 s1 s2
  have HI := hid hi
  have HS := hid hs
  have HR := hid hr
  have HL := hid hl
  have HSL := hid hsl
  have HF := hid hF
  obtain ⟨at9, ct9, rfl⟩ := ht.sl
  clear hM hE ht hi hs hr hl hsl hF hP s0 s1
  unfold inV
  dsimp only
  go_enter Tryz.func131, Tryz.ntmps131
  go_upto_region 2 with fail
  obtain ⟨W1, hW1⟩ : ∃ W, w.alloc (ibox ⟨7, a, n, tx⟩) = W := ⟨_, rfl⟩
  rw [hW1] at HLO HM HE HT j0 j1 j2 j3 m0 m1 m2 m3 m4 m5 m6 m7 s2
  unfold ibox at hW1
  rw [hW1]
  clear hW1
  have HY : Hid (0 ≤ a ∧ a ≤ 10) := hid (by have := HI.out.conv rfl; dsimp only at this; omega)
  have HK : Hid (putK fns ⟨7, a, n, tx⟩ sl tk = a) := hid rfl
  go_wp2_with (go_at_call 132; refine (kindText_any _ HY.out _).mono ?_; rintro e w5 ⟨rfl, hb5⟩; have HB5 := hid (HLO.out.trans (hb5.mono (HLO.out).size)); clear hb5)
  go_ret2
  have hz := put_end (fns := fns) (i := ⟨7, a, n, tx⟩) (sl := sl) (tk := tk) HB5.out (show ¬ putsT 7 = 0 by decide) (by simp) HK.out
  simpa [bne] using hz
set_option maxHeartbeats 2000000 in
theorem put_2 {fns : List Fn} {f : Fn} {b : Nat} {cv pv iv xv wv : Value} {w : World} (hM : MS fns f b cv pv iv xv wv w) (hE : EnvI w) {a n : Int} {tx : ByteArray} (hi : InsR fns f ⟨2, a, n, tx⟩) {sl tk : List Int} {tv : Value} (hs : Ok10 sl) (ht : IntRow w tv tk) (hr : ∀ x ∈ tk, 1 ≤ x ∧ x ≤ 10) (hl : tk.length = takesN fns ⟨2, a, n, tx⟩) (hsl : sl.length = f.S) (hF : ∀ g ∈ fns, FnR fns g) :
    Calls Tryz.prog 131 #[.pointer (some ⟨b, 0, none⟩), inV ⟨2, a, n, tx⟩, .string (kt sl), tv] w (PutEnd fns ⟨2, a, n, tx⟩ sl tk w) := by
  have HLO : Hid (Below w.heap.size w (w.alloc (ibox ⟨2, a, n, tx⟩))) := hid ((Below.refl _ _).alloc (Nat.le_refl _) _)
  have HM := hid (hM.next HLO.out)
  have HE := hid (hE.next HLO.out)
  have HT := hid (ht.next HLO.out)
  obtain ⟨j0, j1, j2, j3⟩ := ix (ibox_new w ⟨2, a, n, tx⟩)
  obtain ⟨m0, m1, m2, m3, m4, m5, m6, m7⟩ := mx HM.out
  obtain ⟨_, s0, s1, s2, _⟩ := HE.out.rows 2 (by omega) (by omega)
  dsimp only at j0 j1 j2 j3
  have hP : putsT 2 = 2 := rfl
  rw [hP] at s2
  simp only [Nat.reduceMul, Nat.reduceAdd] at s0 s1 s2
  have HI := hid hi
  have HS := hid hs
  have HR := hid hr
  have HL := hid hl
  have HSL := hid hsl
  have HF := hid hF
  obtain ⟨at9, ct9, rfl⟩ := ht.sl
  clear hM hE ht hi hs hr hl hsl hF hP s0 s1
  unfold inV
  dsimp only
  go_enter Tryz.func131, Tryz.ntmps131
  go_upto_region 2 with fail
  obtain ⟨W1, hW1⟩ : ∃ W, w.alloc (ibox ⟨2, a, n, tx⟩) = W := ⟨_, rfl⟩
  rw [hW1] at HLO HM HE HT j0 j1 j2 j3 m0 m1 m2 m3 m4 m5 m6 m7 s2
  unfold ibox at hW1
  rw [hW1]
  clear hW1
  have hb := HI.out.slot (.inl rfl)
  dsimp only at hb
  obtain ⟨q, rfl⟩ : ∃ q : Nat, a = q := ⟨a.toNat, by omega⟩
  have hq : q < sl.length := by rw [HSL.out]; unfold Fn.S; omega
  have hq2 : q < (kt sl).size := by rw [kt_size]; exact hq
  have hq3 : (q : Int) < ((kt sl).size : Int) := by omega
  have hyv := kt_get HS.out hq2
  have hr9 := getD_range0 HS.out q
  obtain ⟨y, hy⟩ : ∃ y, sl.getD q 0 = y := ⟨_, rfl⟩
  rw [hy] at hyv hr9
  have HY := hid hr9
  have hwy : IntKind.i64.wrap y = y := by rw [IntKind.wrap_i64]; omega
  have HK : Hid (putK fns ⟨2, (q : Int), n, tx⟩ sl tk = y) := hid (by rw [← hy]; rfl)
  clear hb hy hr9
  go_wp2_with (go_at_call 132; refine (kindText_any _ HY.out _).mono ?_; rintro e w5 ⟨rfl, hb5⟩; have HB5 := hid (HLO.out.trans (hb5.mono (HLO.out).size)); clear hb5)
  go_ret2
  have hz := put_end (fns := fns) (i := ⟨2, (q : Int), n, tx⟩) (sl := sl) (tk := tk) HB5.out (show ¬ putsT 2 = 0 by decide) (by simp) HK.out
  simpa [bne] using hz
set_option maxHeartbeats 2000000 in
theorem put_5 {fns : List Fn} {f : Fn} {b : Nat} {cv pv iv xv wv : Value} {w : World} (hM : MS fns f b cv pv iv xv wv w) (hE : EnvI w) {a n : Int} {tx : ByteArray} (hi : InsR fns f ⟨5, a, n, tx⟩) {sl tk : List Int} {tv : Value} (hs : Ok10 sl) (ht : IntRow w tv tk) (hr : ∀ x ∈ tk, 1 ≤ x ∧ x ≤ 10) (hl : tk.length = takesN fns ⟨5, a, n, tx⟩) (hsl : sl.length = f.S) (hF : ∀ g ∈ fns, FnR fns g) :
    Calls Tryz.prog 131 #[.pointer (some ⟨b, 0, none⟩), inV ⟨5, a, n, tx⟩, .string (kt sl), tv] w (PutEnd fns ⟨5, a, n, tx⟩ sl tk w) := by
  have HLO : Hid (Below w.heap.size w (w.alloc (ibox ⟨5, a, n, tx⟩))) := hid ((Below.refl _ _).alloc (Nat.le_refl _) _)
  have HM := hid (hM.next HLO.out)
  have HE := hid (hE.next HLO.out)
  have HT := hid (ht.next HLO.out)
  obtain ⟨j0, j1, j2, j3⟩ := ix (ibox_new w ⟨5, a, n, tx⟩)
  obtain ⟨m0, m1, m2, m3, m4, m5, m6, m7⟩ := mx HM.out
  obtain ⟨_, s0, s1, s2, _⟩ := HE.out.rows 5 (by omega) (by omega)
  dsimp only at j0 j1 j2 j3
  have hP : putsT 5 = 3 := rfl
  rw [hP] at s2
  simp only [Nat.reduceMul, Nat.reduceAdd] at s0 s1 s2
  have HI := hid hi
  have HS := hid hs
  have HR := hid hr
  have HL := hid hl
  have HSL := hid hsl
  have HF := hid hF
  obtain ⟨at9, ct9, rfl⟩ := ht.sl
  clear hM hE ht hi hs hr hl hsl hF hP s0 s1
  unfold inV
  dsimp only
  go_enter Tryz.func131, Tryz.ntmps131
  go_upto_region 2 with fail
  obtain ⟨W1, hW1⟩ : ∃ W, w.alloc (ibox ⟨5, a, n, tx⟩) = W := ⟨_, rfl⟩
  rw [hW1] at HLO HM HE HT j0 j1 j2 j3 m0 m1 m2 m3 m4 m5 m6 m7 s2
  unfold ibox at hW1
  rw [hW1]
  clear hW1
  have ht1 : tk.length = 1 := by rw [HL.out]; rfl
  obtain ⟨gT, cT, e9, _, _, _, hcT⟩ := HT.out.at (i := 0) (by omega)
  injection e9 with ea en ec
  clear en
  subst ea ec
  have kT := hcT 0 (by omega)
  obtain ⟨x, hx⟩ : ∃ x, tk.getD 0 0 = x := ⟨_, rfl⟩
  rw [hx] at kT
  have hxr : 0 ≤ x ∧ x ≤ 10 := by rw [← hx]; exact getD_range HR.out 0
  have HK : Hid (putK fns ⟨5, a, n, tx⟩ sl tk = unG a x) := hid (by rw [← hx]; rfl)
  have HY : Hid (0 ≤ unG a x ∧ unG a x ≤ 10) := hid (unG_range hxr)
  have hti : (0 : Int) < (tk.length : Int) := by omega
  have htn : 0 < tk.length := by omega
  have HC := hid (fun W => unGives_any a x W)
  obtain ⟨y, hy⟩ : ∃ y, unG a x = y := ⟨_, rfl⟩
  rw [hy] at HK HY HC
  obtain ⟨L, hL⟩ : ∃ L, tk.length = L := ⟨_, rfl⟩
  rw [hL] at hti htn ⊢
  clear hcT hx hy hxr ht1 hL
  go_wp2_with fail
  go_quiet (first | (go_at_call 148; exact Calls.quiet_of_same (HC.out _)) | fail)
  go_wp2_with (go_at_call 132; refine (kindText_any _ HY.out _).mono ?_; rintro e w5 ⟨rfl, hb5⟩; have HB5 := hid ((below_drewN HLO.out _).trans (hb5.mono (below_drewN HLO.out _).size)); clear hb5)
  go_ret2
  have hz := put_end (fns := fns) (i := ⟨5, a, n, tx⟩) (sl := sl) (tk := tk) HB5.out (show ¬ putsT 5 = 0 by decide) (by simp) HK.out
  simpa [bne] using hz
set_option maxHeartbeats 2000000 in
theorem put_6 {fns : List Fn} {f : Fn} {b : Nat} {cv pv iv xv wv : Value} {w : World} (hM : MS fns f b cv pv iv xv wv w) (hE : EnvI w) {a n : Int} {tx : ByteArray} (hi : InsR fns f ⟨6, a, n, tx⟩) {sl tk : List Int} {tv : Value} (hs : Ok10 sl) (ht : IntRow w tv tk) (hr : ∀ x ∈ tk, 1 ≤ x ∧ x ≤ 10) (hl : tk.length = takesN fns ⟨6, a, n, tx⟩) (hsl : sl.length = f.S) (hF : ∀ g ∈ fns, FnR fns g) :
    Calls Tryz.prog 131 #[.pointer (some ⟨b, 0, none⟩), inV ⟨6, a, n, tx⟩, .string (kt sl), tv] w (PutEnd fns ⟨6, a, n, tx⟩ sl tk w) := by
  have HLO : Hid (Below w.heap.size w (w.alloc (ibox ⟨6, a, n, tx⟩))) := hid ((Below.refl _ _).alloc (Nat.le_refl _) _)
  have HM := hid (hM.next HLO.out)
  have HE := hid (hE.next HLO.out)
  have HT := hid (ht.next HLO.out)
  obtain ⟨j0, j1, j2, j3⟩ := ix (ibox_new w ⟨6, a, n, tx⟩)
  obtain ⟨m0, m1, m2, m3, m4, m5, m6, m7⟩ := mx HM.out
  obtain ⟨_, s0, s1, s2, _⟩ := HE.out.rows 6 (by omega) (by omega)
  dsimp only at j0 j1 j2 j3
  have hP : putsT 6 = 4 := rfl
  rw [hP] at s2
  simp only [Nat.reduceMul, Nat.reduceAdd] at s0 s1 s2
  have HI := hid hi
  have HS := hid hs
  have HR := hid hr
  have HL := hid hl
  have HSL := hid hsl
  have HF := hid hF
  obtain ⟨at9, ct9, rfl⟩ := ht.sl
  clear hM hE ht hi hs hr hl hsl hF hP s0 s1
  unfold inV
  dsimp only
  go_enter Tryz.func131, Tryz.ntmps131
  go_upto_region 2 with fail
  obtain ⟨W1, hW1⟩ : ∃ W, w.alloc (ibox ⟨6, a, n, tx⟩) = W := ⟨_, rfl⟩
  rw [hW1] at HLO HM HE HT j0 j1 j2 j3 m0 m1 m2 m3 m4 m5 m6 m7 s2
  unfold ibox at hW1
  rw [hW1]
  clear hW1
  have ht1 : tk.length = 2 := by rw [HL.out]; rfl
  obtain ⟨gT, cT, e9, _, _, _, hcT⟩ := HT.out.at (i := 0) (by omega)
  injection e9 with ea en ec
  clear en
  subst ea ec
  have kT := hcT 0 (by omega)
  have kT2 := hcT 1 (by omega)
  obtain ⟨x, hx⟩ : ∃ x, tk.getD 0 0 = x := ⟨_, rfl⟩
  obtain ⟨x2, hx2⟩ : ∃ x, tk.getD 1 0 = x := ⟨_, rfl⟩
  rw [hx] at kT
  rw [hx2] at kT2
  have hxr : 0 ≤ x ∧ x ≤ 10 := by rw [← hx]; exact getD_range HR.out 0
  have HK : Hid (putK fns ⟨6, a, n, tx⟩ sl tk = binG a x x2) := hid (by rw [← hx, ← hx2]; rfl)
  have HY : Hid (0 ≤ binG a x x2 ∧ binG a x x2 ≤ 10) := hid (binG_range hxr)
  have hti : (0 : Int) < (tk.length : Int) := by omega
  have htn : 0 < tk.length := by omega
  have hti1 : (1 : Int) < (tk.length : Int) := by omega
  have htn1 : 1 < tk.length := by omega
  have hb := HI.out.bin rfl
  dsimp only at hb
  have HC := hid (fun W => binGives_any a x x2 hxr hb W)
  obtain ⟨y, hy⟩ : ∃ y, binG a x x2 = y := ⟨_, rfl⟩
  rw [hy] at HK HY HC
  obtain ⟨L, hL⟩ : ∃ L, tk.length = L := ⟨_, rfl⟩
  rw [hL] at hti htn hti1 htn1 ⊢
  clear hcT hx hx2 hy hxr ht1 hL hb
  go_wp2_with fail
  go_quiet (first | (go_at_call 149; exact Calls.quiet_of_same (HC.out _)) | fail)
  go_wp2_with (go_at_call 132; refine (kindText_any _ HY.out _).mono ?_; rintro e w5 ⟨rfl, hb5⟩; have HB5 := hid ((below_drewN HLO.out _).trans (hb5.mono (below_drewN HLO.out _).size)); clear hb5)
  go_ret2
  have hz := put_end (fns := fns) (i := ⟨6, a, n, tx⟩) (sl := sl) (tk := tk) HB5.out (show ¬ putsT 6 = 0 by decide) (by simp) HK.out
  simpa [bne] using hz
set_option maxHeartbeats 2000000 in
theorem put_8 {fns : List Fn} {f : Fn} {b : Nat} {cv pv iv xv wv : Value} {w : World} (hM : MS fns f b cv pv iv xv wv w) (hE : EnvI w) {a n : Int} {tx : ByteArray} (hi : InsR fns f ⟨8, a, n, tx⟩) {sl tk : List Int} {tv : Value} (hs : Ok10 sl) (ht : IntRow w tv tk) (hr : ∀ x ∈ tk, 1 ≤ x ∧ x ≤ 10) (hl : tk.length = takesN fns ⟨8, a, n, tx⟩) (hsl : sl.length = f.S) (hF : ∀ g ∈ fns, FnR fns g) :
    Calls Tryz.prog 131 #[.pointer (some ⟨b, 0, none⟩), inV ⟨8, a, n, tx⟩, .string (kt sl), tv] w (PutEnd fns ⟨8, a, n, tx⟩ sl tk w) := by
  have HLO : Hid (Below w.heap.size w (w.alloc (ibox ⟨8, a, n, tx⟩))) := hid ((Below.refl _ _).alloc (Nat.le_refl _) _)
  have HM := hid (hM.next HLO.out)
  have HE := hid (hE.next HLO.out)
  have HT := hid (ht.next HLO.out)
  obtain ⟨j0, j1, j2, j3⟩ := ix (ibox_new w ⟨8, a, n, tx⟩)
  obtain ⟨m0, m1, m2, m3, m4, m5, m6, m7⟩ := mx HM.out
  obtain ⟨_, s0, s1, s2, _⟩ := HE.out.rows 8 (by omega) (by omega)
  dsimp only at j0 j1 j2 j3
  have hP : putsT 8 = 5 := rfl
  rw [hP] at s2
  simp only [Nat.reduceMul, Nat.reduceAdd] at s0 s1 s2
  have HI := hid hi
  have HS := hid hs
  have HR := hid hr
  have HL := hid hl
  have HSL := hid hsl
  have HF := hid hF
  obtain ⟨at9, ct9, rfl⟩ := ht.sl
  clear hM hE ht hi hs hr hl hsl hF hP s0 s1
  unfold inV
  dsimp only
  go_enter Tryz.func131, Tryz.ntmps131
  go_upto_region 2 with fail
  obtain ⟨W1, hW1⟩ : ∃ W, w.alloc (ibox ⟨8, a, n, tx⟩) = W := ⟨_, rfl⟩
  rw [hW1] at HLO HM HE HT j0 j1 j2 j3 m0 m1 m2 m3 m4 m5 m6 m7 s2
  unfold ibox at hW1
  rw [hW1]
  clear hW1
  have hb := HI.out.built rfl
  dsimp only at hb
  obtain ⟨q, rfl⟩ : ∃ q : Nat, a = q := ⟨a.toNat, by omega⟩
  obtain ⟨v, b0, b1, _⟩ := HE.out.signs q (by omega) (by omega)
  have hki : (q : Int) < 13 := by omega
  have hkn : q < 13 := by omega
  have HY0 := sig_range (q : Int)
  have HK : Hid (putK fns ⟨8, (q : Int), n, tx⟩ sl tk = (sig (q : Int)).2) := hid rfl
  obtain ⟨y, hy⟩ : ∃ y, (sig (q : Int)).2 = y := ⟨_, rfl⟩
  rw [hy] at b1 HY0 HK
  have HY : Hid (0 ≤ y ∧ y ≤ 10) := hid (by omega)
  clear hb hy HY0 b0
  go_wp2_with (go_at_call 132; refine (kindText_any _ HY.out _).mono ?_; rintro e w5 ⟨rfl, hb5⟩; have HB5 := hid (HLO.out.trans (hb5.mono (HLO.out).size)); clear hb5)
  go_ret2
  have hz := put_end (fns := fns) (i := ⟨8, (q : Int), n, tx⟩) (sl := sl) (tk := tk) HB5.out (show ¬ putsT 8 = 0 by decide) (by simp) HK.out
  simpa [bne] using hz
set_option maxHeartbeats 2000000 in
theorem put_9 {fns : List Fn} {f : Fn} {b : Nat} {cv pv iv xv wv : Value} {w : World} (hM : MS fns f b cv pv iv xv wv w) (hE : EnvI w) {a n : Int} {tx : ByteArray} (hi : InsR fns f ⟨9, a, n, tx⟩) {sl tk : List Int} {tv : Value} (hs : Ok10 sl) (ht : IntRow w tv tk) (hr : ∀ x ∈ tk, 1 ≤ x ∧ x ≤ 10) (hl : tk.length = takesN fns ⟨9, a, n, tx⟩) (hsl : sl.length = f.S) (hF : ∀ g ∈ fns, FnR fns g) :
    Calls Tryz.prog 131 #[.pointer (some ⟨b, 0, none⟩), inV ⟨9, a, n, tx⟩, .string (kt sl), tv] w (PutEnd fns ⟨9, a, n, tx⟩ sl tk w) := by
  have HLO : Hid (Below w.heap.size w (w.alloc (ibox ⟨9, a, n, tx⟩))) := hid ((Below.refl _ _).alloc (Nat.le_refl _) _)
  have HM := hid (hM.next HLO.out)
  have HE := hid (hE.next HLO.out)
  have HT := hid (ht.next HLO.out)
  obtain ⟨j0, j1, j2, j3⟩ := ix (ibox_new w ⟨9, a, n, tx⟩)
  obtain ⟨m0, m1, m2, m3, m4, m5, m6, m7⟩ := mx HM.out
  obtain ⟨_, s0, s1, s2, _⟩ := HE.out.rows 9 (by omega) (by omega)
  dsimp only at j0 j1 j2 j3
  have hP : putsT 9 = 6 := rfl
  rw [hP] at s2
  simp only [Nat.reduceMul, Nat.reduceAdd] at s0 s1 s2
  have HI := hid hi
  have HS := hid hs
  have HR := hid hr
  have HL := hid hl
  have HSL := hid hsl
  have HF := hid hF
  obtain ⟨at9, ct9, rfl⟩ := ht.sl
  clear hM hE ht hi hs hr hl hsl hF hP s0 s1
  unfold inV
  dsimp only
  go_enter Tryz.func131, Tryz.ntmps131
  go_upto_region 2 with fail
  obtain ⟨W1, hW1⟩ : ∃ W, w.alloc (ibox ⟨9, a, n, tx⟩) = W := ⟨_, rfl⟩
  rw [hW1] at HLO HM HE HT j0 j1 j2 j3 m0 m1 m2 m3 m4 m5 m6 m7 s2
  unfold ibox at hW1
  rw [hW1]
  clear hW1
  have hb := HI.out.call rfl
  dsimp only at hb
  obtain ⟨q, rfl⟩ : ∃ q : Nat, a = q := ⟨a.toNat, by omega⟩
  have hk : q < fns.length := by omega
  obtain ⟨gF, cF2, hcv, hgF, pv2, iv2, n0, n1, n2, n3, n4, hpv, _⟩ := HM.out.fr.at hk
  rw [hcv] at m0
  have hki : (q : Int) < (fns.length : Int) := by omega
  have hr9 := (HF.out (fns.getD q fn0) (by rw [List.getD_eq_getElem?_getD, List.getElem?_eq_getElem hk]; exact List.getElem_mem hk)).result
  have HK : Hid (putK fns ⟨9, (q : Int), n, tx⟩ sl tk = (fns.getD q fn0).result) := hid rfl
  have HK0 : Hid ((fns.getD q fn0).result = 0 → putR fns ⟨9, (q : Int), n, tx⟩ sl tk = ([], true)) := hid (fun h => (if_neg (show ¬ putsT 9 = 0 by decide)).trans (if_pos ⟨rfl, h⟩))
  obtain ⟨y, hy⟩ : ∃ y, (fns.getD q fn0).result = y := ⟨_, rfl⟩
  have HYQ := hid hy
  rw [hy] at n2 hr9 HK
  have HY : Hid (0 ≤ y ∧ y ≤ 10) := hid hr9
  clear hb hy hr9 hcv n0 n1 n3 n4 hpv
  by_cases hy0 : y = 0
  · subst hy0
    go_wp2_with fail
    go_quiet (fail)
    go_wp2_with fail
    go_ret2
    refine ⟨?_, below_drewN HLO.out _⟩
    rw [HK0.out HYQ.out]
    rfl
  · have hyf : (y == 0) = false := by simpa using hy0
    have HN9 := hid hy0
    clear hy0
    go_wp2_with fail
    go_quiet (fail)
    go_wp2_with (go_at_call 132; refine (kindText_any _ HY.out _).mono ?_; rintro e w5 ⟨rfl, hb5⟩; have HB5 := hid ((below_drewN HLO.out _).trans (hb5.mono (below_drewN HLO.out _).size)); clear hb5)
    go_ret2
    have hz := put_end (fns := fns) (i := ⟨9, (q : Int), n, tx⟩) (sl := sl) (tk := tk) HB5.out (show ¬ putsT 9 = 0 by decide) (fun h2 => HN9.out (HYQ.out.symm.trans h2.2)) HK.out
    simpa [bne] using hz
theorem put_any {fns : List Fn} {f : Fn} {b : Nat} {cv pv iv xv wv : Value} {w : World} (hM : MS fns f b cv pv iv xv wv w) (hE : EnvI w) {i : In} (hi : InsR fns f i) {sl tk : List Int} {tv : Value} (hs : Ok10 sl) (ht : IntRow w tv tk) (hr : ∀ x ∈ tk, 1 ≤ x ∧ x ≤ 10) (hl : tk.length = takesN fns i) (hsl : sl.length = f.S) (hF : ∀ g ∈ fns, FnR fns g) :
    Calls Tryz.prog 131 #[.pointer (some ⟨b, 0, none⟩), inV i, .string (kt sl), tv] w (PutEnd fns i sl tk w) := by
  obtain ⟨op, a, n, tx⟩ := i
  have hop := hi.op
  dsimp only at hop
  obtain rfl | rfl | rfl | rfl | rfl | rfl | rfl | rfl | rfl | rfl | rfl | rfl | rfl | rfl | rfl | rfl : op = 1 ∨ op = 2 ∨ op = 3 ∨ op = 4 ∨ op = 5 ∨ op = 6 ∨ op = 7 ∨ op = 8 ∨ op = 9 ∨ op = 10 ∨ op = 11 ∨ op = 12 ∨ op = 13 ∨ op = 14 ∨ op = 15 ∨ op = 16 := by omega
  · exact put_1 hM hE hi hs ht hr hl hsl hF
  · exact put_2 hM hE hi hs ht hr hl hsl hF
  · exact put_3 hM hE hi hs ht hr hl hsl hF
  · exact put_4 hM hE hi hs ht hr hl hsl hF
  · exact put_5 hM hE hi hs ht hr hl hsl hF
  · exact put_6 hM hE hi hs ht hr hl hsl hF
  · exact put_7 hM hE hi hs ht hr hl hsl hF
  · exact put_8 hM hE hi hs ht hr hl hsl hF
  · exact put_9 hM hE hi hs ht hr hl hsl hF
  · exact put_10 hM hE hi hs ht hr hl hsl hF
  · exact put_11 hM hE hi hs ht hr hl hsl hF
  · exact put_12 hM hE hi hs ht hr hl hsl hF
  · exact put_13 hM hE hi hs ht hr hl hsl hF
  · exact put_14 hM hE hi hs ht hr hl hsl hF
  · exact put_15 hM hE hi hs ht hr hl hsl hF
  · exact put_16 hM hE hi hs ht hr hl hsl hF
end Go.Proofs.YtfndbnbnimhnaaaGreatDoor.C
/-! The rounds of the model. -/
namespace Go.Proofs.YtfndbnbnimhnaaaGreatDoor.C
open Go.RowKit
set_option maxRecDepth 20000
theorem shape_info : (Tryz.prog.info? 125).map (fun i => (i.zero, i.size, i.bytes)) = some (some (.agg #[.int .i64 0, .slice none 0 0, .slice none 0 0]), 3, 56) := by kernel_rfl
theorem two (w : World) (a b : Obj) : ((w.alloc a).alloc b).heap[w.heap.size]? = some a ∧ ((w.alloc a).alloc b).heap[w.heap.size + 1]? = some b ∧ Below w.heap.size w ((w.alloc a).alloc b) ∧ ((w.alloc a).alloc b).heap.size = w.heap.size + 1 + 1 := by
  have s1 : (w.alloc a).heap.size = w.heap.size + 1 := by simp
  have g0 := heap_alloc_new w a
  have g1 := heap_alloc_new (w.alloc a) b
  have k1 : Below (w.alloc a).heap.size (w.alloc a) ((w.alloc a).alloc b) := (Below.refl _ _).alloc (Nat.le_refl _) _
  rw [s1] at g1
  exact ⟨hp_next g0 k1, g1, ((Below.refl _ _).alloc (Nat.le_refl _) _).alloc (by simp) _, by simp⟩
set_option maxHeartbeats 8000000 in
theorem shapes_any {fns : List Fn} {q : Nat} {w : World} {cv : Value} (h1 : FnsRow w cv fns) (hq : q < fns.length) (hF : ∀ g ∈ fns, FnR fns g) :
    Calls Tryz.prog 64 #[.agg #[cv], .int .i64 q] w (ShpEnd fns (fns.getD q fn0) w) := by
  have hf : FnR fns (fns.getD q fn0) := hF _ (by rw [List.getD_eq_getElem?_getD, List.getElem?_eq_getElem hq]; exact List.getElem_mem hq)
  have H1 := hid h1
  have HF := hid hF
  obtain ⟨gF, cF, rfl, hgF, pv, iv, v0, v1, v2, v3, v4, hpv, hiv⟩ := h1.at hq
  obtain ⟨f, hfe⟩ : ∃ f, fns.getD q fn0 = f := ⟨_, rfl⟩
  rw [hfe] at hf v0 v2 v3 hpv hiv ⊢
  have HR := hid hf
  have HP := hid hpv
  have HI := hid hiv
  have hIL : f.ins.length ≤ 50000 := hf.some_.2
  have hI1 : 1 ≤ f.ins.length := hf.some_.1
  have hSL : (f.params.length : Int) ≤ f.slots := hf.slots.1
  have hS2 : f.slots ≤ 200 := hf.slots.2
  obtain ⟨S, hS⟩ : ∃ S : Nat, f.slots = S := ⟨f.slots.toNat, by omega⟩
  have HS : Hid (f.S = S) := hid (by unfold Fn.S; omega)
  rw [hS] at hSL hS2
  have HSL := hid hS
  obtain ⟨aP, cP, rfl⟩ := hpv.sl
  obtain ⟨gI, cI, rfl, hgI, _⟩ := hiv.at hI1
  obtain ⟨i3, hi3, hy0, hy1, hy2⟩ := info_parts shape_info
  have HH3 := hid (And.intro hi3 (And.intro hy0 (And.intro hy1 hy2)))
  have hqi : (q : Int) < (fns.length : Int) := by omega
  clear hi3 hy0 hy1 hF hf hfe hpv hiv h1 hS
  go_enter Tryz.func64, Tryz.ntmps64
  go_upto_region 2 with fail
  obtain ⟨t0, t1, hlo, hz⟩ := two w (.cells #[.slice (some ⟨gF, 0, none⟩) fns.length cF] 29) (fbox f (.slice aP f.params.length cP) (.slice (some ⟨gI, 0, none⟩) f.ins.length cI))
  obtain ⟨W2, hW2⟩ : ∃ W, ((w.alloc (.cells #[.slice (some ⟨gF, 0, none⟩) fns.length cF] 29)).alloc (fbox f (.slice aP f.params.length cP) (.slice (some ⟨gI, 0, none⟩) f.ins.length cI))) = W := ⟨_, rfl⟩
  rw [hW2] at t0 t1 hlo hz
  unfold fbox at hW2
  rw [hW2]
  clear hW2
  obtain ⟨k0, k1, k2, k3, k4⟩ := fx t1
  rw [HSL.out] at k3
  go_upto_region 3 with (at_make; refine wpList_make_full _ rfl _ _ 122 rfl (w.heap.size + 1 + 1) 125 i3 (.agg #[.int .i64 0, .slice none 0 0, .slice none 0 0]) 3 Tryz.underlying122 HH3.out.1 HH3.out.2.1 HH3.out.2.2.1 _ _ _ _ f.ins.length rfl rfl rfl rfl (by rw [hy2]; omega) (by unfold maxLen; omega) (by omega) ?_; intro W3 o3 g3)
  have b3 := (Below.refl W2.heap.size W2).grown g3 (Nat.le_refl _) (fun q e => by cases e)
  have HROW3 := hid (ShRow.made (by rw [hz] at o3; exact o3))
  have HLO3 := hid (hlo.trans (b3.mono hlo.size))
  have E0 := hid (hp_next t0 b3)
  have E1 := hid (hp_next t1 b3)
  have hz3 := HROW3.out.lt
  have k1 := (b3.cell (p := ⟨w.heap.size + 1, 1, none⟩) (lt_hp t1)).trans k1
  have k3 := (b3.cell (p := ⟨w.heap.size + 1, 3, none⟩) (lt_hp t1)).trans k3
  clear o3 g3 b3 t0 t1 hlo hz k0 k2 k4 v0 v1 v2 v3 v4
  have hall : Below W3.heap.size W3 (W3.alloc (.cells #[] 3)) := (Below.refl _ _).alloc (Nat.le_refl _) _
  have HALL := hid hall
  have k1 := (hall.cell (p := ⟨w.heap.size + 1, 1, none⟩) (show w.heap.size + 1 < W3.heap.size by omega)).trans k1
  clear hall
  go_wp2_with (at_builtin; refine wpList_append_row rfl (.tmp 24) (.tmp 26) rfl W3.heap.size _ 0 [] rfl (lit_own W3) _ f.params rfl (HP.out.next (HLO3.out.trans (HALL.out.mono HLO3.out.size))).part (by omega) (by simp) ?_; intro v5 W5 o5 g5; have HLO5 := hid (grown_lo HALL.out (lit_own W3) (Nat.le_refl _) g5); have HO5 := hid o5; obtain ⟨ad5, cp5, hv5⟩ := own_form o5; rw [Nat.zero_add] at hv5; subst hv5; clear o5 g5)
  rw [Nat.zero_add, List.nil_append] at HO5
  have HFI := hid (FI.start HLO3.out E0.out E1.out HROW3.out HLO5.out HO5.out)
  obtain ⟨b7, hb7⟩ : ∃ b, W5.heap.size = b := ⟨_, rfl⟩
  obtain ⟨W6, hW6⟩ : ∃ W, W5.alloc (sbox 1 (.slice ad5 f.params.length cp5) (.slice none 0 0)) = W := ⟨_, rfl⟩
  rw [hW6, hb7] at HFI
  unfold sbox at hW6
  rw [hW6, hb7]
  clear hW6 hb7 HO5 HLO5 HROW3 HLO3 E0 E1 hz3 k1 k3 HALL
  obtain ⟨i0, hi, hz0, hz1, hz2⟩ := int_parts
  have HHI := hid (And.intro hi (And.intro hz0 (And.intro hz1 hz2)))
  clear hi hz0 hz1 hz2
  go_loopg [] (S - f.params.length) (fun k wr => ∃ (m : Nat) (ov : Value), f.params.length ≤ m ∧ m + k = S ∧ FI f w (.slice (some ⟨gF, 0, none⟩) fns.length cF) (.slice aP f.params.length cP) (.slice (some ⟨gI, 0, none⟩) f.ins.length cI) b7 ov m wr)
  case atStart => exact ⟨f.params.length, _, Nat.le_refl _, by omega, HFI.out⟩
  case round =>
    obtain ⟨m, ov, hm1, hm2, hfi⟩ := hrel
    have HFI2 := hid hfi
    obtain ⟨adO, cO, rfl⟩ := own_form hfi.own
    obtain ⟨k0, k1, k2, k3, k4⟩ := fx hfi.e1
    rw [HSL.out] at k3
    obtain ⟨r0, r1, r2, q0, q1, q2⟩ := six_s hfi.e7
    have hz7 := lt_hp hfi.e7
    have hrl := hfi.row.lt
    clear hfi
    by_cases hlt : m < S
    · have hlti : (m : Int) < (S : Int) := by omega
      go_wp2_with (at_builtin; refine wpList_append_own_at _ rfl (.tmp 36) (.tmp 37) 54 rfl (w.heap.size + 1 + 1 + 1) 3 i0 (.int .i64 0) 1 8 Tryz.underlying54 HHI.out.1 HHI.out.2.1 HHI.out.2.2.1 HHI.out.2.2.2 rfl (by decide) (.slice adO m cO) m _ rfl (HFI2.out.own.alloc _) ⟨wr.heap.size, 0, none⟩ 1 1 [.int .i64 0] rfl rfl (cell_one_new wr _ _) (by simp [Value.oneCell']) (by unfold maxLen; omega) (by omega) (by simp; omega) ?_; intro v8 W8 o8 g8 nn8 bb8; have HM := hid (FI.more (HFI2.out.next ((Below.refl wr.heap.size wr).alloc (Nat.le_refl _) _)) hm1 g8 o8); have e78 := (g8.block b7 (by simp; omega) (own_neS (HFI2.out.next ((Below.refl wr.heap.size wr).alloc (Nat.le_refl _) (.cells #[.int .i64 0] 3))).own (by decide) (hp_next HFI2.out.e7 ((Below.refl wr.heap.size wr).alloc (Nat.le_refl _) (.cells #[.int .i64 0] 3))))).trans (hp_next HFI2.out.e7 ((Below.refl wr.heap.size wr).alloc (Nat.le_refl _) _)); obtain ⟨p0, p1, p2, l0, l1, l2⟩ := six_s e78; obtain ⟨ad8, c8, rfl⟩ := own_form o8; clear e78 o8 g8 nn8 bb8)
      go_roundg (gk - 1)
      case measure => omega
      case rel => exact ⟨m + 1, _, by omega, by omega, HM.out⟩
    · have hge : ¬ ((m : Int) < (S : Int)) := by omega
      have HSW := hid (HFI2.out.fin (by rw [HS.out]; omega) hI1 hm1)
      obtain ⟨a1, c1, a2, c2, u0, u1, u2, _, _, f0, f1, f2⟩ := HFI2.out.row.at (i := 0) hI1
      simp only [Nat.zero_mul, Nat.zero_add] at u0 u1 u2 f0 f1 f2
      have hIi : (0 : Int) < (f.ins.length : Int) := by omega
      go_wp2_with fail
      obtain ⟨W7, hW7⟩ : ∃ W, (((wr.setCell ⟨w.heap.size + 1 + 1, 0, none⟩ (.int .i64 1)).setCell ⟨w.heap.size + 1 + 1, 1, none⟩ (.slice adO m cO)).setCell ⟨w.heap.size + 1 + 1, 2, none⟩ (.slice none 0 0)) = W := ⟨_, rfl⟩
      rw [hW7] at HSW ⊢
      clear hW7 HFI2 k0 k1 k2 k3 k4 r0 r1 r2 q0 q1 q2 hz7 hrl u0 u1 u2 f0 f1 f2 HFI
      obtain ⟨A1, hA1⟩ : ∃ A, upd (fun _ => bot) 0 (first f) = A := ⟨_, rfl⟩
      have HL1 : Hid (Low fns f A1 ∧ le (first f) (A1 0)) := hid (by rw [← hA1]; exact ⟨le_first_low HR.out, by rw [upd_at]; exact le_refl (first_ok HR.out)⟩)
      rw [hA1] at HSW
      clear hA1
      go_loopg [8] (tot f.S A1 f.ins.length + 1) (fun k ag wr => ∃ (A : Nat → Sh) (again : Bool), ag = .bool again ∧ SW f w (.slice (some ⟨gF, 0, none⟩) fns.length cF) (.slice aP f.params.length cP) (.slice (some ⟨gI, 0, none⟩) f.ins.length cI) A wr ∧ Low fns f A ∧ le (first f) (A 0) ∧ (again = false → Closed fns f A) ∧ tot f.S A f.ins.length + (if again = true then 1 else 0) ≤ k)
      case atStart => exact ⟨A1, true, rfl, HSW.out, HL1.out.1, HL1.out.2, (fun h => by cases h), by simp⟩
      case round =>
        clear HSW HL1 hlt hge
        obtain ⟨A, again, rfl, hsw, hlow, hfst, hcl, hk⟩ := hrel
        have HSW := hid hsw
        have HLW := hid (And.intro hlow hfst)
        have HCL := hid hcl
        have HK := hid hk
        clear hsw hlow hfst hcl hk
        cases again with
        | false =>
          go_wp2
          go_ret
          exact ⟨_, A, rfl, by omega, HSW.out.row, HCL.out (by first | trivial | rfl), HLW.out.1, HSW.out.lo⟩
        | true =>
          go_wp2_with fail
          go_loopw [8, 9] (fun ag i wr => ∃ (j : Nat) (A2 : Nat → Sh) (ag2 : Bool), j ≤ f.ins.length ∧ ag = .bool ag2 ∧ i = .int .i64 j ∧ SW f w (.slice (some ⟨gF, 0, none⟩) fns.length cF) (.slice aP f.params.length cP) (.slice (some ⟨gI, 0, none⟩) f.ins.length cI) A2 wr ∧ RInv fns f A A2 j ag2) (fun _ i _ => f.ins.length - (intOf i).toNat)
          case atStart => exact ⟨0, A, false, Nat.zero_le _, rfl, rfl, HSW.out, RInv.start HLW.out.1 HLW.out.2⟩
          case round =>
            obtain ⟨j, A2, ag2, hj, rfl, rfl, hsw2, hri⟩ := hrel
            have HSW2 := hid hsw2
            have HRI := hid hri
            clear hsw2 hri
            by_cases hlt : j < f.ins.length
            · have hlti : (j : Int) < (f.ins.length : Int) := by omega
              obtain ⟨a1, c1, a2, c2, u0, u1, u2, rw1, rw2, _, _, _⟩ := HSW2.out.row.at hlt
              have HROW := hid (And.intro rw1 rw2)
              clear rw1 rw2
              by_cases hst : (A2 j).st = 0
              · rw [hst] at u0
                have HST := hid hst
                clear hst
                go_wp2_with fail
                go_roundw
                case rel => exact ⟨j + 1, A2, ag2, by omega, rfl, by go_num, HSW2.out, HRI.out.skip HST.out⟩
                case measure => simp [intOf]; omega
              · have HST := hid hst
                have hstb : (((A2 j).st : Int) == 0) = false := by simpa using hst
                clear hst
                have HBEH : Hid (∀ V, Below wr.heap.size wr V → Calls Tryz.prog 65 #[.agg #[.slice (some ⟨gF, 0, none⟩) fns.length cF], .agg #[.string f.name, .slice aP f.params.length cP, .int .i64 f.result, .int .i64 f.slots, .slice (some ⟨gI, 0, none⟩) f.ins.length cI], .int .i64 j, .agg #[.int .i64 ((A2 j).st : Nat), .slice a1 (A2 j).sl.length c1, .slice a2 (A2 j).sk.length c2]] V (BehEnd fns f j (A2 j) V)) := hid fun V hV => beh_any (H1.out.next (HSW2.out.lo.trans (hV.mono HSW2.out.lo.size))) ⟨_, _, rfl, HP.out.next (HSW2.out.lo.trans (hV.mono HSW2.out.lo.size)), HI.out.next (HSW2.out.lo.trans (hV.mono HSW2.out.lo.size))⟩ ⟨_, _, rfl, HROW.out.1.next hV, HROW.out.2.next hV⟩ HF.out HR.out hlt (HRI.out.low.ok j hlt) HST.out
                have k0 := cx HSW2.out.e0
                obtain ⟨v0, v1, v2, v3, v4⟩ := fx HSW2.out.e1
                have hrl := HSW2.out.row.lt
                have HS14 : Hid (∀ V, Below wr.heap.size wr V → S14 f w (.slice (some ⟨gF, 0, none⟩) fns.length cF) (.slice aP f.params.length cP) (.slice (some ⟨gI, 0, none⟩) f.ins.length cI) j (A2 j) a1 c1 a2 c2 V) := hid fun V hV => S14.of HSW2.out hlt hV u0 u1 u2
                go_upto_region 14 with fail
                go_cut [10] (fun v wx => ∃ (b : Nat) (ax : Option Addr) (cx : Nat) (ay : Option Addr) (cy : Nat), v = .pointer (some ⟨b, 0, none⟩) ∧ BS (behind fns f j (A2 j)) b (.slice ax (behind fns f j (A2 j)).sl.length cx) (.slice ay (behind fns f j (A2 j)).sk.length cy) wx ∧ w.heap.size + 1 + 1 < b ∧ SW f w (.slice (some ⟨gF, 0, none⟩) fns.length cF) (.slice aP f.params.length cP) (.slice (some ⟨gI, 0, none⟩) f.ins.length cI) A2 wx)
                case first =>
                  go_region_held3 (fun V => V.cell? ⟨w.heap.size, 0, none⟩ = some (.slice (some ⟨gF, 0, none⟩) fns.length cF) ∧ V.cell? ⟨w.heap.size + 1, 0, none⟩ = some (.string f.name) ∧ V.cell? ⟨w.heap.size + 1, 1, none⟩ = some (.slice aP f.params.length cP) ∧ V.cell? ⟨w.heap.size + 1, 2, none⟩ = some (.int .i64 f.result) ∧ V.cell? ⟨w.heap.size + 1, 3, none⟩ = some (.int .i64 f.slots) ∧ V.cell? ⟨w.heap.size + 1, 4, none⟩ = some (.slice (some ⟨gI, 0, none⟩) f.ins.length cI) ∧ V.cell? ⟨w.heap.size + 1 + 1, j * 3, none⟩ = some (.int .i64 ((A2 j).st : Nat)) ∧ V.cell? ⟨w.heap.size + 1 + 1, j * 3 + 1, none⟩ = some (.slice a1 (A2 j).sl.length c1) ∧ V.cell? ⟨w.heap.size + 1 + 1, j * 3 + 2, none⟩ = some (.slice a2 (A2 j).sk.length c2)) (first | (exact HS14.out _ (Below.refl _ _).drew) | (exact HS14.out _ ((Below.refl _ _).alloc (Nat.le_refl _) _)) | (exact HS14.out _ HB9.out) | (exact HS14.out _ (HB9.out.alloc HB9.out.size _)) | (exact HS14.out _ (set_lo (set_lo (set_lo HB9.out _ _ (Nat.le_refl _) _) _ _ (Nat.le_refl _) _) _ _ (Nat.le_refl _) _)) | go_keep) (first
                    | (go_at_call 65; refine (HBEH.out _ ((Below.refl _ _).alloc (Nat.le_refl _) _).drew).mono ?_; rintro e w9 ⟨bv, rfl, hsv, hb9⟩; obtain ⟨x, y, rfl, hx, hy⟩ := hsv; obtain ⟨ax, cx, rfl⟩ := hx.sl; obtain ⟨ay, cy, rfl⟩ := hy.sl; have e9 : w9.heap[wr.heap.size]? = some (sbox 0 (.slice none 0 0) (.slice none 0 0)) := hp_next (heap_alloc_new wr _) (show Below (wr.alloc (sbox 0 (.slice none 0 0) (.slice none 0 0))).heap.size (wr.alloc (sbox 0 (.slice none 0 0) (.slice none 0 0))) w9 from (Below.refl _ _).drew.trans hb9); have HE9 := hid e9; obtain ⟨z0, z1, z2, y0, y1, y2⟩ := six_s e9; have HB9 := hid (((Below.refl wr.heap.size wr).alloc (Nat.le_refl _) (sbox 0 (.slice none 0 0) (.slice none 0 0))).drew.trans (hb9.mono (by simp))); have HX := hid hx; have HY := hid hy; clear e9 hx hy hb9)
                    | (go_at_call 65; refine (HBEH.out _ (Below.refl _ _).drew).mono ?_; rintro e w9 ⟨bv, rfl, hsv, hb9⟩; obtain ⟨x, y, rfl, hx, hy⟩ := hsv; obtain ⟨ax, cx, rfl⟩ := hx.sl; obtain ⟨ay, cy, rfl⟩ := hy.sl; have HX := hid hx; have HY := hid hy; have HB9 := hid ((Below.refl wr.heap.size wr).drew.trans hb9); clear hx hy hb9))
                  all_goals go_wp2_with fail
                  all_goals go_meet
                  all_goals first
                    | (exact ⟨_, ax, cx, ay, cy, rfl, box_early HE9.out HX.out HY.out, hrl, (HSW2.out.next HB9.out).set3 HE9.out hrl _ _ _⟩)
                    | (exact ⟨_, ax, cx, ay, cy, rfl, box_late HX.out HY.out, Nat.lt_of_lt_of_le hrl HB9.out.size, (HSW2.out.next HB9.out).next ((Below.refl _ _).alloc (Nat.le_refl _) _)⟩)
                case rest =>
                  obtain ⟨b10, ax, cx, ay, cy, rfl, hbs, hgt, hsw3⟩ := hcut
                  obtain ⟨W10, hW10⟩ : ∃ W, wc = W := ⟨_, rfl⟩
                  rw [hW10] at hbs hsw3 ⊢
                  have HKI := hid (HRI.out.go HR.out HF.out hlt HST.out)
                  obtain ⟨s, hs⟩ : ∃ s, behind fns f j (A2 j) = s := ⟨_, rfl⟩
                  rw [hs] at hbs HKI
                  rw [hs] at *
                  have HBS := hid hbs
                  have HSW3 := hid hsw3
                  clear hW10 hbs hsw3 hs HBEH HS14 HROW u0 u1 u2 k0 v0 v1 v2 v3 v4
                  obtain ⟨v0, v1, v2, v3, v4⟩ := fx HSW3.out.e1
                  obtain ⟨gI2, cI2, e9, _, hcI⟩ := (HI.out.next HSW3.out.lo).at hlt
                  injection e9 with e9 _ ec
                  injection e9 with e9
                  injection e9 with e9
                  subst e9 ec
                  obtain ⟨d0, d1, d2, d3⟩ := hcI j hlt
                  have HIR : Hid (InsR fns f (f.ins.getD j in0)) := hid (HR.out.ins _ (by rw [List.getD_eq_getElem?_getD, List.getElem?_eq_getElem hlt]; exact List.getElem_mem hlt))
                  obtain ⟨i, hi⟩ : ∃ i, f.ins.getD j in0 = i := ⟨_, rfl⟩
                  rw [hi] at d0 d1 d2 d3 HIR
                  have HIE := hid hi
                  clear hcI hi
                  go_wp2_with (go_at_call 89; refine (goes_any i j _ (by omega) HIR.out.op (fun h => (HIR.out.place h).1)).mono ?_; rintro e w11 ⟨gv, rfl, hgr, hb11⟩; obtain ⟨gad, gc, hgv⟩ := hgr.sl; rw [nums_length] at hgv; subst hgv; have HKS : Hid (KS f w (.slice (some ⟨gF, 0, none⟩) fns.length cF) (.slice aP f.params.length cP) (.slice (some ⟨gI, 0, none⟩) f.ins.length cI) A2 s b10 (.slice ax s.sl.length cx) (.slice ay s.sk.length cy) (.slice gad (goes i j).length gc) (nums (goes i j)) w11) := hid ⟨HSW3.out.next hb11, HBS.out.next hb11, hgr, hgt⟩; clear hb11 hgr)
                  have hgl : (goes i j).length ≤ 2 := goes_few i j
                  go_loopw [8, 12] (fun ag k wr => ∃ (z : Nat) (A3 : Nat → Sh) (ag3 : Bool), z ≤ (goes i j).length ∧ ag = .bool ag3 ∧ k = .int .i64 z ∧ KS f w (.slice (some ⟨gF, 0, none⟩) fns.length cF) (.slice aP f.params.length cP) (.slice (some ⟨gI, 0, none⟩) f.ins.length cI) A3 s b10 (.slice ax s.sl.length cx) (.slice ay s.sk.length cy) (.slice gad (goes i j).length gc) (nums (goes i j)) wr ∧ KInv fns f A A3 j z s ag3) (fun _ k _ => (goes i j).length - (intOf k).toNat)
                  case atStart => exact ⟨0, A2, ag2, Nat.zero_le _, rfl, rfl, HKS.out, HKI.out⟩
                  case round =>
                    clear HKS HKI HBS HSW3 v0 v1 v2 v3 v4 d0 d1 d2 d3 HSW2 HRI
                    obtain ⟨z, A3, ag3, hz, rfl, rfl, hks, hki⟩ := hrel
                    have HKS := hid hks
                    have HKI := hid hki
                    clear hks hki
                    by_cases hzt : z < (goes i j).length
                    · have hzi : (z : Int) < ((goes i j).length : Int) := by omega
                      obtain ⟨g, hgz⟩ : ∃ g, (goes i j)[z]? = some g := ⟨_, List.getElem?_eq_getElem hzt⟩
                      have HGZ : Hid ((goes (f.ins.getD j in0) j)[z]? = some g) := hid (by rw [HIE.out]; exact hgz)
                      obtain ⟨gg, gc2, e9, _, _, hggl, hgc⟩ := HKS.out.gr.at (i := z) (by rw [nums_length]; exact hzt)
                      injection e9 with e9 en ec
                      clear en
                      subst e9 ec
                      have n0 := hgc z (by rw [nums_length]; exact hzt)
                      rw [nums_get hgz] at n0
                      have HGC := hid hgc
                      have hrl4 := HKS.out.sw.row.lt
                      clear hgc hgz
                      by_cases hgn : g < f.ins.length
                      · have hgni : (g : Int) < (f.ins.length : Int) := by omega
                        obtain ⟨a3, c3, a4, c4, u0, u1, u2, rw1, rw2, _, _, _⟩ := HKS.out.sw.row.at hgn
                        obtain ⟨x0, x1, x2, _, _, _⟩ := six_s HKS.out.bs.e
                        have hbl := lt_hp HKS.out.bs.e
                        have HCALL : Hid (∀ V, Below wr.heap.size wr V → Calls Tryz.prog 90 #[.agg #[.int .i64 ((A3 g).st : Nat), .slice a3 (A3 g).sl.length c3, .slice a4 (A3 g).sk.length c4], .agg #[.int .i64 (s.st : Nat), .slice ax s.sl.length cx, .slice ay s.sk.length cy]] V (JoinEnd (A3 g) s V)) := hid fun V hV => join_any (HKI.out.base.low.ok g hgn) HKI.out.src.ok HKI.out.src.st (by rw [HS.out]; omega) ⟨_, _, rfl, rw1.next hV, rw2.next hV⟩ ⟨_, _, rfl, HKS.out.bs.r1.next hV, HKS.out.bs.r2.next hV⟩
                        have HS20 : Hid (∀ V, Below wr.heap.size wr V → V.cell? ⟨gg, z, none⟩ = some (.int .i64 (g : Int)) ∧ V.cell? ⟨w.heap.size + 1 + 1, g * 3, none⟩ = some (.int .i64 ((A3 g).st : Nat)) ∧ V.cell? ⟨w.heap.size + 1 + 1, g * 3 + 1, none⟩ = some (.slice a3 (A3 g).sl.length c3) ∧ V.cell? ⟨w.heap.size + 1 + 1, g * 3 + 2, none⟩ = some (.slice a4 (A3 g).sk.length c4) ∧ V.cell? ⟨b10, 0, none⟩ = some (.int .i64 (s.st : Nat)) ∧ V.cell? ⟨b10, 1, none⟩ = some (.slice ax s.sl.length cx) ∧ V.cell? ⟨b10, 2, none⟩ = some (.slice ay s.sk.length cy)) := hid fun V hV => ⟨(hV.cell (p := ⟨gg, z, none⟩) hggl).trans n0, (hV.cell (p := ⟨w.heap.size + 1 + 1, g * 3, none⟩) hrl4).trans u0, (hV.cell (p := ⟨w.heap.size + 1 + 1, g * 3 + 1, none⟩) hrl4).trans u1, (hV.cell (p := ⟨w.heap.size + 1 + 1, g * 3 + 2, none⟩) hrl4).trans u2, (hV.cell (p := ⟨b10, 0, none⟩) hbl).trans x0, (hV.cell (p := ⟨b10, 1, none⟩) hbl).trans x1, (hV.cell (p := ⟨b10, 2, none⟩) hbl).trans x2⟩
                        clear rw1 rw2
                        go_upto_region 20 with fail
                        go_cut [13, 14] (fun v c wx => ∃ (b : Nat) (ch : Bool) (px : Option Addr) (qx : Nat) (py : Option Addr) (qy : Nat), v = .pointer (some ⟨b, 0, none⟩) ∧ c = .bool ch ∧ (ch = true ↔ ¬ join (A3 g) s = A3 g) ∧ BS (join (A3 g) s) b (.slice px (join (A3 g) s).sl.length qx) (.slice py (join (A3 g) s).sk.length qy) wx ∧ KS f w (.slice (some ⟨gF, 0, none⟩) fns.length cF) (.slice aP f.params.length cP) (.slice (some ⟨gI, 0, none⟩) f.ins.length cI) A3 s b10 (.slice ax s.sl.length cx) (.slice ay s.sk.length cy) (.slice (some ⟨gg, 0, none⟩) (goes i j).length gc) (nums (goes i j)) wx)
                        case first =>
                          go_region_held3 (fun V => V.cell? ⟨gg, z, none⟩ = some (.int .i64 (g : Int)) ∧ V.cell? ⟨w.heap.size + 1 + 1, g * 3, none⟩ = some (.int .i64 ((A3 g).st : Nat)) ∧ V.cell? ⟨w.heap.size + 1 + 1, g * 3 + 1, none⟩ = some (.slice a3 (A3 g).sl.length c3) ∧ V.cell? ⟨w.heap.size + 1 + 1, g * 3 + 2, none⟩ = some (.slice a4 (A3 g).sk.length c4) ∧ V.cell? ⟨b10, 0, none⟩ = some (.int .i64 (s.st : Nat)) ∧ V.cell? ⟨b10, 1, none⟩ = some (.slice ax s.sl.length cx) ∧ V.cell? ⟨b10, 2, none⟩ = some (.slice ay s.sk.length cy)) (first | (exact HS20.out _ (Below.refl _ _).drew) | (exact HS20.out _ ((Below.refl _ _).alloc (Nat.le_refl _) _)) | (exact HS20.out _ HB9.out) | (exact HS20.out _ (HB9.out.alloc HB9.out.size _)) | (exact HS20.out _ (set_lo (set_lo (set_lo HB9.out _ _ (Nat.le_refl _) _) _ _ (Nat.le_refl _) _) _ _ (Nat.le_refl _) _)) | go_keep) (first
                            | (go_at_call 90; refine (HCALL.out _ ((Below.refl _ _).alloc (Nat.le_refl _) _).drew).mono ?_; rintro e w9 ⟨bv, ch, rfl, hsv, hch, hb9⟩; obtain ⟨x, y, rfl, hx, hy⟩ := hsv; obtain ⟨px, qx, rfl⟩ := hx.sl; obtain ⟨py, qy, rfl⟩ := hy.sl; have e9 : w9.heap[wr.heap.size]? = some (sbox 0 (.slice none 0 0) (.slice none 0 0)) := hp_next (heap_alloc_new wr _) (show Below (wr.alloc (sbox 0 (.slice none 0 0) (.slice none 0 0))).heap.size (wr.alloc (sbox 0 (.slice none 0 0) (.slice none 0 0))) w9 from (Below.refl _ _).drew.trans hb9); have HE9 := hid e9; obtain ⟨z0, z1, z2, y0, y1, y2⟩ := six_s e9; have HB9 := hid (((Below.refl wr.heap.size wr).alloc (Nat.le_refl _) (sbox 0 (.slice none 0 0) (.slice none 0 0))).drew.trans (hb9.mono (by simp))); have HX := hid hx; have HY := hid hy; have HCH := hid hch; clear e9 hx hy hb9 hch)
                            | (go_at_call 90; refine (HCALL.out _ (Below.refl _ _).drew).mono ?_; rintro e w9 ⟨bv, ch, rfl, hsv, hch, hb9⟩; obtain ⟨x, y, rfl, hx, hy⟩ := hsv; obtain ⟨px, qx, rfl⟩ := hx.sl; obtain ⟨py, qy, rfl⟩ := hy.sl; have HX := hid hx; have HY := hid hy; have HCH := hid hch; have HB9 := hid ((Below.refl wr.heap.size wr).drew.trans hb9); clear hx hy hb9 hch))
                          all_goals go_wp2_with fail
                          all_goals go_meet
                          all_goals first
                            | (exact ⟨_, ch, px, qx, py, qy, rfl, rfl, HCH.out, box_early HE9.out HX.out HY.out, (HKS.out.next HB9.out).set3 HE9.out hrl4 (Nat.ne_of_lt hbl) _ _ _⟩)
                            | (exact ⟨_, ch, px, qx, py, qy, rfl, rfl, HCH.out, box_late HX.out HY.out, (HKS.out.next HB9.out).next ((Below.refl _ _).alloc (Nat.le_refl _) _)⟩)
                        case rest =>
                          obtain ⟨b13, ch, px, qx, py, qy, rfl, rfl, hch, hbj, hks4⟩ := hcut
                          obtain ⟨W20, hW20⟩ : ∃ W, wc = W := ⟨_, rfl⟩
                          rw [hW20] at hbj hks4 ⊢
                          have HCH := hid hch
                          have HBJ := hid hbj
                          have HKS4 := hid hks4
                          clear hW20 hch hbj hks4 HCALL HS20 u0 u1 u2 x0 x1 x2 n0
                          have HKN := hid (HKI.out.both HGZ.out hgn HCH.out)
                          obtain ⟨gg2, gc3, e9, _, _, hggl2, hgc⟩ := HKS4.out.gr.at (i := z) (by rw [nums_length]; exact hzt)
                          injection e9 with e9 en ec
                          clear en
                          injection e9 with e9
                          injection e9 with e9
                          subst e9 ec
                          have n0 := hgc z (by rw [nums_length]; exact hzt)
                          obtain ⟨g9, hgz⟩ : ∃ g, (goes i j)[z]? = some g := ⟨_, List.getElem?_eq_getElem hzt⟩
                          obtain rfl : g9 = g := by
                            have := HGZ.out
                            rw [HIE.out, hgz] at this
                            injection this
                          rw [nums_get hgz] at n0
                          clear hgc hgz HGC
                          obtain ⟨a3, c3, a4, c4, u0, u1, u2, _, _, f0, f1, f2⟩ := HKS4.out.sw.row.at hgn
                          have HPUT := hid (HKS4.out.put hgn HBJ.out.r1 HBJ.out.r2)
                          obtain ⟨J, hJ⟩ : ∃ J, join (A3 g9) s = J := ⟨_, rfl⟩
                          rw [hJ] at HBJ HPUT HKN
                          obtain ⟨x0, x1, x2, _, _, _⟩ := six_s HBJ.out.e
                          clear hJ
                          go_wp2_with fail
                          go_region
                          cases ag3 with
                          | false =>
                            go_wp2_with fail
                            go_roundw
                            case rel => exact ⟨z + 1, upd A3 g9 J, ch, by omega, rfl, by go_num, HPUT.out.next (Below.refl _ _).drew, by simpa using HKN.out⟩
                            case measure => simp [intOf]; omega
                          | true =>
                            go_wp2_with fail
                            go_roundw
                            case rel => exact ⟨z + 1, upd A3 g9 J, true, by omega, rfl, by go_num, HPUT.out.next (Below.refl _ _).drew, by simpa using HKN.out⟩
                            case measure => simp [intOf]; omega
                      · have hgni : ¬ (g : Int) < (f.ins.length : Int) := by omega
                        go_wp2_with fail
                        go_roundw
                        case rel => exact ⟨z + 1, A3, ag3, by omega, rfl, by go_num, HKS.out, HKI.out.out HGZ.out hgn⟩
                        case measure => simp [intOf]; omega
                    · obtain rfl : z = (goes i j).length := by omega
                      have hge : ¬ (((goes i j).length : Int) < ((goes i j).length : Int)) := by omega
                      go_wp2_with fail
                      go_roundw
                      case rel => exact ⟨j + 1, A3, ag3, by omega, rfl, by go_num, HKS.out.sw, HKI.out.fin (by rw [HIE.out]; exact Nat.le_refl _)⟩
                      case measure => simp [intOf]; omega
            · obtain rfl : j = f.ins.length := by omega
              have hge : ¬ ((f.ins.length : Int) < (f.ins.length : Int)) := by omega
              go_wp2_with fail
              go_roundg (tot f.S A2 f.ins.length + (if ag2 = true then 1 else 0))
              case measure =>
                have h9 := HK.out
                simp at h9
                cases ag2 with
                | false =>
                  have := tot_same (S := f.S) f.ins.length (HRI.out.same rfl).1
                  simp; omega
                | true =>
                  have := HRI.out.less rfl
                  simp; omega
              case rel => exact ⟨A2, ag2, rfl, HSW2.out, HRI.out.low, HRI.out.fst, (fun h => by subst h; exact HRI.out.closed), Nat.le_refl _⟩
end Go.Proofs.YtfndbnbnimhnaaaGreatDoor.C
