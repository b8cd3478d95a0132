import Derived.Lib.LazyBuf
import Derived.Lib.Strings
import Derived.Lib.BufferRead
import Derived.Laws.AppendOwnNone
import Derived.Test.YtcjgcipacfcjnaaGreatDoorJ13
import Derived.Test.YtcjgcipacfcjnaaGreatDoorJ03
import Derived.Test.YtcjgcipacfcjnaaGreatDoorJ10
import Derived.Test.YtcjgcipacfcjnaaGreatDoorJ05
import Derived.Test.YtcjgcipacfcjnaaGreatDoorJ12
import Derived.Test.YtcjgcipacfcjnaaGreatDoorJ08
import Derived.Test.YtcjgcipacfcjnaaGreatDoorJ11
import Derived.Test.YtcjgcipacfcjnaaGreatDoorJ09
import Derived.Test.YtcjgcipacfcjnaaGreatDoorJ06
import Derived.Test.YtcjgcipacfcjnaaGreatDoorJ07
namespace Go.Proofs.YtcjgcipacfcjnaaGreatDoor.R
open Go.RowKit
set_option maxRecDepth 20000
set_option maxHeartbeats 4000000 in
theorem eqIn_same (x : C.In) (w : World) :
  Calls Tryz.prog 103 #[.agg #[.int .i64 x.op, .int .i64 x.a, .int .i64 x.n, .string x.text], .agg #[.int .i64 x.op, .int .i64 x.a, .int .i64 x.n, .string x.text]] w fun e w' => e = .returned (.bool true) ∧ Below w.heap.size w w' := by
 have e0 : (x.text.toList != x.text.toList) = false := by simp
 have i0 : (x.op != x.op) = false := by simp
 have i1 : (x.a != x.a) = false := by simp
 have i2 : (x.n != x.n) = false := by simp
 have HB0 := hid (B2.start w (.cells #[.int .i64 x.op, .int .i64 x.a, .int .i64 x.n, .string x.text] 84) (.cells #[.int .i64 x.op, .int .i64 x.a, .int .i64 x.n, .string x.text] 84))
 go_enter Tryz.func103, Tryz.ntmps103
 go_wp2
 go_ret
 exact ⟨rfl, HB0.out.lo⟩
end Go.Proofs.YtcjgcipacfcjnaaGreatDoor.R
namespace Go.Proofs.YtcjgcipacfcjnaaGreatDoor.C
open Go.RowKit
set_option maxRecDepth 20000
def NotB (W : World) (k : Nat) : Prop := ∀ cs fr, W.heap[k]? ≠ some (.cells cs 5 fr)
structure Ub (B : Nat) (w w' : World) : Prop where
 os : w'.os = w.os
 tape : w'.tape = w.tape
 output : w'.output = w.output
 size : w.heap.size ≤ w'.heap.size
 block : ∀ k, k < w.heap.size → (k < B ∨ NotB w k) → w'.heap[k]? = w.heap[k]?
theorem Ub.refl (B : Nat) (w : World) : Ub B w w := ⟨rfl, rfl, rfl, Nat.le_refl _, fun _ _ _ => rfl⟩
theorem Ub.trans {B : Nat} {u v w : World} (h : Ub B u v) (k : Ub B v w) : Ub B u w :=
 ⟨k.os.trans h.os, k.tape.trans h.tape, k.output.trans h.output, Nat.le_trans h.size k.size, fun i hi hn => by
  have e := h.block i hi hn
  exact (k.block i (Nat.lt_of_lt_of_le hi h.size) (hn.imp_right fun hn cs fr => by rw [e]; exact hn cs fr)).trans e⟩
theorem Ub.of_below {B : Nat} {w w' : World} (h : Below w.heap.size w w') : Ub B w w' := ⟨h.os, h.tape, h.output, h.size, fun k hk _ => h.block k hk⟩
theorem Ub.below {B : Nat} {w w' : World} (h : Ub B w w') (hB : B ≤ w.heap.size) : Below B w w' := ⟨h.os, h.tape, h.output, h.size, fun k hk => h.block k (by omega) (.inl hk)⟩
def OwnB (B : Nat) (W : World) (v : Value) (bs : List UInt8) : Prop := W.ownsRow B 5 1 v bs.length (Lib.byteCells bs)
theorem Ub.grown {B : Nat} {w w1 w2 : World} {v : Value} {n : Nat} {xs : List Value} (h : Ub B w w1) (hown : w1.ownsRow B 5 1 v n xs) (hg : w1.grownBy w2 v.ownBlock) : Ub B w w2 :=
 h.trans ⟨hg.os, hg.tape, hg.output, hg.size, fun k hk hn => hg.block k hk fun e => by
  rcases hown.2 with ⟨rfl, _⟩ | ⟨g, cap, cur, rfl, h1, h2, _⟩
  ·simp [Value.ownBlock] at e
  ·simp only [Value.ownBlock, Option.some.injEq] at e
   subst e
   rcases hn with hn | hn
   ·omega
   ·exact hn _ _ h2⟩
theorem own_formB {W : World} {B : Nat} {v : Value} {bs : List UInt8} (h : OwnB B W v bs) : ∃ ad c, v = .slice ad bs.length c := by
 obtain ⟨_, ⟨rfl, e⟩ | ⟨g, cap, cur, rfl, _⟩⟩ := h
 ·exact ⟨none, 0, by rw [e]⟩
 ·exact ⟨_, cap, rfl⟩
theorem own_formM {W : World} {B : Nat} {v : Value} {bs : List UInt8} (h : OwnB B W v bs) : ∃ ad m c, v = .slice ad m c := by
 obtain ⟨ad, c, e⟩ := own_formB h
 exact ⟨ad, _, c, e⟩
theorem u8_nat {n : Nat} (h : n < 256) : ((n.toUInt8).toNat : Int) = n := by
 simp [Nat.mod_eq_of_lt h]
theorem own_byte {W : World} {B : Nat} {v : Value} {bs : List UInt8} {c : UInt8} (h : W.ownsRow B 5 1 v (bs.length + 1) (Lib.byteCells bs ++ [.int .u8 c.toNat])) : OwnB B W v (bs ++ [c]) := by
 unfold OwnB
 rw [Lib.byteCells_append, List.length_append]
 exact h
theorem lit_byte (W : World) (x : Value) : ∀ j u, ([x] : List Value)[j]? = some u → (W.alloc (.cells #[x] 5)).cell? ((⟨W.heap.size, 0, none⟩ : Addr).add j) = some u := fun j u hj => by
 match j, hj with
 | 0, hj => simp at hj; subst hj; simp [Addr.add]
set_option maxHeartbeats 4000000 in
theorem l16Number_any {B : Nat} {v : Value} {bs : List UInt8} (n : Nat) (w : World) (hn : n < 18446744073709551616) (h : OwnB B w v bs) (hB : B ≤ w.heap.size) (hl : bs.length ≤ 1000000000) :
  Calls Tryz.prog 33 #[v, .int .u64 n] w fun e w' => ∃ v', e = .returned v' ∧ OwnB B w' v' (bs ++ nb n) ∧ Ub B w w' := by
 obtain ⟨i0, hi, hz0, hz1, hz2⟩ := info_parts (P := Tryz.prog) (e := 5) (z := .int .u8 0) (size := 1) (bytes := 1) (by kernel_rfl)
 have HHI := hid (And.intro hi (And.intro hz0 (And.intro hz1 hz2)))
 have HW := hid h
 have HL : Hid ((nb n).length ≤ 10) := hid (nb_10 hn)
 clear hi hz0 hz1 hz2 h
 go_enter Tryz.func33, Tryz.ntmps33
 go_wp2
 go_loopw [0, 1] (fun u m wr => ∃ (k : Nat) (cs : List UInt8), m = .int .u64 k ∧ k < 18446744073709551616 ∧ OwnB B wr u cs ∧ cs ++ nb k = bs ++ nb n ∧ Ub B w wr) (fun _ m _ => (intOf m).toNat)
 case atStart => exact ⟨n, bs, rfl, hn, HW.out, rfl, Ub.refl _ _⟩
 case round =>
  obtain ⟨k, cs, rfl, hk, hown, he, hub⟩ := hrel
  have HO := hid hown
  have HE := hid he
  have HU := hid hub
  have HCL : Hid (cs.length ≤ 1000000010) := hid (by
   have h1 := congrArg List.length he
   have h2 := HL.out
   simp only [List.length_append] at h1
   omega)
  have hcl := HCL.out
  have HBW : Hid (B ≤ wr.heap.size) := hid (Nat.le_trans hB hub.size)
  obtain ⟨ad, cp, rfl⟩ := own_formB hown
  clear hown he hub HW
  have HOA : Hid (∀ x, (wr.alloc (.cells #[x] 5)).ownsRow B 5 1 (.slice ad cs.length cp) cs.length (Lib.byteCells cs)) := hid fun x => World.ownsRow.alloc (show wr.ownsRow B 5 1 (.slice ad cs.length cp) cs.length (Lib.byteCells cs) from HO.out) _
  have HUA : Hid (∀ x, Ub B w (wr.alloc (.cells #[x] 5))) := hid fun x => HU.out.trans (Ub.of_below ((Below.refl _ _).alloc (Nat.le_refl _) _))
  have HBA : Hid (∀ x, B ≤ (wr.alloc (.cells #[x] 5)).heap.size) := hid fun x => by have := HBW.out; simp; omega
  by_cases h7 : 127 < k
  ·have h7i : (127 : Int) < (k : Int) := by omega
   have HC : Hid ((((k % 128 + 128).toUInt8).toNat : Int) = (k : Int) % 128 + 128) := hid (by rw [u8_nat (by omega)]; omega)
   have HNX : Hid (cs ++ [(k % 128 + 128).toUInt8] ++ nb (k / 128) = bs ++ nb n) := hid (by rw [← HE.out, nb_more h7]; simp)
   go_wp2_with (at_builtin; refine wpList_append_own _ rfl (.tmp 7) (.tmp 12) 39 rfl B 5 i0 (.int .u8 0) 1 1 Tryz.underlying39 HHI.out.1 HHI.out.2.1 HHI.out.2.2.1 HHI.out.2.2.2 rfl (by decide) (.slice ad cs.length cp) cs.length (Lib.byteCells cs) rfl (HOA.out _) ⟨wr.heap.size, 0, none⟩ 1 1 [.int .u8 ((k : Int) % 128 + 128)] rfl rfl (lit_byte _ _) (fun u hu => by simp at hu; subst hu; rfl) (by unfold maxLen; omega) (by omega) (HBA.out _) ?_; intro v9 w9 o9 g9 _; have HU9 := hid ((HUA.out _).grown (HOA.out _) g9); have HO9 : Hid (OwnB B w9 v9 (cs ++ [(k % 128 + 128).toUInt8])) := hid (own_byte (by rw [HC.out]; exact o9)); obtain ⟨a9, m9, c9, rfl⟩ := own_formM HO9.out; clear o9 g9)
   go_roundw
   case rel => exact ⟨k / 128, _, by go_num, by omega, HO9.out, HNX.out, HU9.out⟩
   case measure => simp [intOf]; omega
  ·have h7i : ¬ (127 : Int) < (k : Int) := by omega
   have HC : Hid (((k.toUInt8).toNat : Int) = (k : Int)) := hid (u8_nat (by omega))
   have HNX : Hid (cs ++ [k.toUInt8] = bs ++ nb n) := hid (by rw [← HE.out, nb_last h7])
   go_wp2_with (at_builtin; refine wpList_append_own _ rfl (.tmp 16) (.tmp 19) 39 rfl B 5 i0 (.int .u8 0) 1 1 Tryz.underlying39 HHI.out.1 HHI.out.2.1 HHI.out.2.2.1 HHI.out.2.2.2 rfl (by decide) (.slice ad cs.length cp) cs.length (Lib.byteCells cs) rfl (HOA.out _) ⟨wr.heap.size, 0, none⟩ 1 1 [.int .u8 (k : Int)] rfl rfl (lit_byte _ _) (fun u hu => by simp at hu; subst hu; rfl) (by unfold maxLen; omega) (by omega) (HBA.out _) ?_; intro v9 w9 o9 g9 _; have HU9 := hid ((HUA.out _).grown (HOA.out _) g9); have HO9 : Hid (OwnB B w9 v9 (bs ++ nb n)) := hid (by rw [← HNX.out]; exact own_byte (by rw [HC.out]; exact o9)); obtain ⟨a9, m9, c9, rfl⟩ := own_formM HO9.out; clear o9 g9)
   go_ret
   exact ⟨_, rfl, HO9.out, HU9.out⟩
theorem l16Number_int {B : Nat} {v : Value} {bs : List UInt8} (n : Nat) (a : Int) (ha : a = n) (w : World) (hn : n < 18446744073709551616) (h : OwnB B w v bs) (hB : B ≤ w.heap.size) (hl : bs.length ≤ 1000000000) :
  Calls Tryz.prog 33 #[v, .int .u64 a] w fun e w' => ∃ v', e = .returned v' ∧ OwnB B w' v' (bs ++ nb n) ∧ Ub B w w' := by
 subst ha
 exact l16Number_any n w hn h hB hl
theorem own_str {W : World} {B : Nat} {v : Value} {bs : List UInt8} {s : ByteArray} (h : W.ownsRow B 5 1 v (bs.length + s.size) (Lib.byteCells bs ++ Lib.strCells s)) : OwnB B W v (bs ++ s.data.toList) := by
 unfold OwnB
 rw [Lib.byteCells_append, ← Lib.strCells_eq, List.length_append, len_sizeF]
 exact h
set_option maxHeartbeats 4000000 in
theorem l16Text_any {B : Nat} {v : Value} {bs : List UInt8} (s : ByteArray) (w : World) (hs : s.size ≤ 1048576) (h : OwnB B w v bs) (hB : B ≤ w.heap.size) (hl : bs.length ≤ 900000000) :
  Calls Tryz.prog 34 #[v, .string s] w fun e w' => ∃ v', e = .returned v' ∧ OwnB B w' v' (bs ++ tb s) ∧ Ub B w w' := by
 obtain ⟨i0, hi, hz0, hz1, hz2⟩ := info_parts (P := Tryz.prog) (e := 5) (z := .int .u8 0) (size := 1) (bytes := 1) (by kernel_rfl)
 have HHI := hid (And.intro hi (And.intro hz0 (And.intro hz1 hz2)))
 have HN := hid (l16Number_int s.size (s.size : Int) rfl w (by omega) h hB (by omega))
 have HL : Hid ((bs ++ nb s.size).length ≤ 900000010) := hid (by rw [List.length_append]; have := nb_10 (n := s.size) (by omega); omega)
 have hlb := HL.out
 obtain ⟨ad, cp, rfl⟩ := own_formB h
 clear hi hz0 hz1 hz2 h
 go_enter Tryz.func34, Tryz.ntmps34
 go_wp2_with fail
 refine HN.out.mono ?_
 rintro e w1 ⟨v1, rfl, ho1, hu1⟩
 have HO1 := hid ho1
 have HU1 := hid hu1
 have HBW : Hid (B ≤ w1.heap.size) := hid (Nat.le_trans hB hu1.size)
 obtain ⟨a1, c1, rfl⟩ := own_formB ho1
 obtain ⟨cs, hcs⟩ : ∃ cs, bs ++ nb s.size = cs := ⟨_, rfl⟩
 have HCE : Hid (cs ++ s.data.toList = bs ++ tb s) := hid (by rw [← hcs]; unfold tb; simp)
 rw [hcs] at HO1 hlb ⊢
 clear ho1 hu1 hcs HL HN
 go_wp2_with (at_builtin; refine Lib.wpList_append_own_string _ rfl _ _ 39 9 rfl B 5 i0 Tryz.underlying39 Tryz.underlying9 HHI.out.1 HHI.out.2.1 HHI.out.2.2.1 HHI.out.2.2.2 (.slice a1 cs.length c1) cs.length (Lib.byteCells cs) rfl HO1.out s rfl (by unfold maxLen; omega) (by omega) HBW.out ?_; intro v9 w9 o9 g9 _; have HU9 := hid (HU1.out.grown HO1.out g9); have HO9 : Hid (OwnB B w9 v9 (bs ++ tb s)) := hid (by rw [← HCE.out]; exact own_str o9); obtain ⟨a9, m9, c9, rfl⟩ := own_formM HO9.out; clear o9 g9)
 go_ret
 exact ⟨_, rfl, HO9.out, HU9.out⟩
theorem gives_any {fns : List Fn} {f : Fn} {i : In} {sl sk : List Int} {w : World} {cv pv iv av bv : Value} (h1 : FnsRow w cv fns) (h2 : IntRow w pv f.params) (h3 : InsRow w iv f.ins) (h4 : IntRow w av sl) (h5 : IntRow w bv sk) (hn : sk.length ≤ 1000) (hF : ∀ g ∈ fns, FnR fns g) (hi : InsR fns f i) (hsl : (sl.length : Int) = f.slots) (hr : ∀ x ∈ sk, 1 ≤ x ∧ x ≤ 10) :
  Calls Tryz.prog 91 #[.agg #[cv], .agg #[.string f.name, pv, .int .i64 f.result, .int .i64 f.slots, iv], inV i, .agg #[.int .i64 1, av, bv]] w (GvEnd fns f i sl sk w) := by
 obtain ⟨op, a, n, tx⟩ := i
 have hop := hi.op
 dsimp only at hop
 unfold inV
 dsimp only
 obtain rfl | rfl | rfl | rfl | rfl | rfl | rfl | rfl | rfl | rfl | rfl | rfl | rfl | rfl | rfl | rfl : op = 1 ∨ op = 2 ∨ op = 3 ∨ op = 4 ∨ op = 5 ∨ op = 6 ∨ op = 7 ∨ op = 8 ∨ op = 9 ∨ op = 10 ∨ op = 11 ∨ op = 12 ∨ op = 13 ∨ op = 14 ∨ op = 15 ∨ op = 16 := by omega
 ·exact gives_1 fns f a n tx sl sk w cv pv iv av bv h1 h2 h3 h4 h5 hn
 ·have h9 := hi.slot (.inl rfl)
  dsimp only at h9
  obtain ⟨m, rfl⟩ : ∃ m : Nat, a = m := ⟨a.toNat, by omega⟩
  exact gives_2 fns f m n tx sl sk w cv pv iv av bv h1 h2 h3 h4 h5 hn (by omega) (by omega)
 ·exact gives_3 fns f a n tx sl sk w cv pv iv av bv h1 h2 h3 h4 h5 hn
 ·exact gives_4 fns f a n tx sl sk w cv pv iv av bv h1 h2 h3 h4 h5 hn
 ·exact gives_5 fns f a n tx sl sk w cv pv iv av bv h1 h2 h3 h4 h5 hn
 ·have h9 := hi.bin rfl
  exact gives_6 fns f a h9.1 h9.2 n tx sl sk w cv pv iv av bv h1 h2 h3 h4 h5 hn
 ·exact gives_7 fns f a n tx sl sk w cv pv iv av bv h1 h2 h3 h4 h5 hn
 ·have h9 := hi.built rfl
  exact gives_8 fns f a h9.1 h9.2 n tx sl sk w cv pv iv av bv h1 h2 h3 h4 h5 hn hr
 ·have h9 := hi.call rfl
  dsimp only at h9
  obtain ⟨m, rfl⟩ : ∃ m : Nat, a = m := ⟨a.toNat, by omega⟩
  have hm : m < fns.length := by omega
  have hg : fns.getD m fn0 ∈ fns := by rw [List.getD_eq_getElem?_getD, List.getElem?_eq_getElem hm]; exact List.getElem_mem hm
  exact gives_9 fns f m n tx sl sk w cv pv iv av bv h1 h2 h3 h4 h5 hn hm (by omega) (hF _ hg).few
 ·exact gives_10 fns f a n tx sl sk w cv pv iv av bv h1 h2 h3 h4 h5 hn
 ·exact gives_11 fns f a n tx sl sk w cv pv iv av bv h1 h2 h3 h4 h5 hn
 ·have h9 := hi.ret rfl
  dsimp only at h9
  rcases h9 with ⟨rfl, _⟩ | ⟨rfl, _⟩
  ·exact gives_12o fns f n tx sl sk w cv pv iv av bv h1 h2 h3 h4 h5 hn
  ·exact gives_12z fns f n tx sl sk w cv pv iv av bv h1 h2 h3 h4 h5 hn
 ·exact gives_13 fns f a n tx sl sk w cv pv iv av bv h1 h2 h3 h4 h5 hn
 ·exact gives_14 fns f a n tx sl sk w cv pv iv av bv h1 h2 h3 h4 h5 hn
 ·exact gives_15 fns f a n tx sl sk w cv pv iv av bv h1 h2 h3 h4 h5 hn
 ·exact gives_16 fns f a n tx sl sk w cv pv iv av bv h1 h2 h3 h4 h5 hn
theorem z200 : Tryz.zeroCells239 = Array.replicate 200 (Value.int .u8 0) := by kernel_rfl
theorem size_u8 (w : World) : (Go.sizeOf 5).run Tryz.prog w = .ok 1 w := by kernel_rfl
def sk8 (a b : List Int) (i j : Nat) : Value := .int .u8 (if j < a.length then (if j < i then (slJoin a b).getD j 0 else a.getD j 0) else 0)
theorem room_start {a : List Int} (ha : Ok10 a) (_h200 : a.length ≤ 200) {W : World} {g : Nat} {t : TypeId} (h : W.rowIs g t 200 (fun _ => .int .u8 0)) (b : List Int) : (W.setCells g 0 ((kt a).data.toList.map fun x => Value.int .u8 (x.toNat : Int))).rowIs g t 200 (sk8 a b 0) := by
 refine (rowIs_setCells _ 0 W _ h).congr fun j hj => ?_
 unfold sk8
 rw [kt_data]
 simp only [Nat.zero_le, true_and, Nat.zero_add, List.length_map, Nat.sub_zero, Nat.not_lt_zero, if_false]
 by_cases hj2 : j < a.length
 ·rw [if_pos hj2, if_pos hj2]
  rw [List.getElem?_map, List.getElem?_map, List.getElem?_eq_getElem hj2, List.getD_eq_getElem?_getD, List.getElem?_eq_getElem hj2]
  simp [kb_nat (ha _ (List.getElem_mem hj2))]
 ·rw [if_neg hj2, if_neg hj2]
theorem room_same {a b : List Int} {j : Nat} {W : World} {g : Nat} {t : TypeId} (h : W.rowIs g t 200 (sk8 a b j)) (he : (slJoin a b).getD j 0 = a.getD j 0) {n : Nat} : (W.drewN n).rowIs g t 200 (sk8 a b (j + 1)) := by
 refine World.rowIs.of_block (h.congr fun q hq => ?_) rfl
 unfold sk8
 split
 ·by_cases e : q = j
  ·subst e; rw [if_neg (Nat.lt_irrefl q), if_pos (by omega), he]
  ·by_cases hl : q < j
   ·rw [if_pos hl, if_pos (by omega)]
   ·rw [if_neg hl, if_neg (by omega)]
 ·rfl
theorem room_put {a b : List Int} {j : Nat} {W : World} {g : Nat} {t : TypeId} (h : W.rowIs g t 200 (sk8 a b j)) (hj : j < a.length) (he : (slJoin a b).getD j 0 = 0) {n : Nat} : ((W.drewN n).setCell ⟨g, j, none⟩ (.int .u8 0)).rowIs g t 200 (sk8 a b (j + 1)) := by
 have h' : (W.drewN n).rowIs g t 200 (sk8 a b j) := h.of_block rfl
 refine (h'.set j (.int .u8 0)).congr fun q hq => ?_
 unfold sk8
 by_cases e : q = j
 ·subst e; rw [if_pos rfl, if_pos hj, if_pos (by omega), he]
 ·rw [if_neg e]
  split
  ·by_cases hl : q < j
   ·rw [if_pos hl, if_pos (by omega)]
   ·rw [if_neg hl, if_neg (by omega)]
  ·rfl
theorem slJoin_ok {a b : List Int} (ha : Ok10 a) (hl : a.length = b.length) : Ok10 (slJoin a b) := by
 intro x hx
 obtain ⟨i, hi, rfl⟩ := List.getElem_of_mem hx
 have hi2 : i < a.length := by rw [← slJoin_length a b hl]; exact hi
 have e := slJoin_get a b hl i hi2
 rw [List.getD_eq_getElem?_getD, List.getElem?_eq_getElem hi, Option.getD_some] at e
 rw [e]
 split
 ·rw [List.getD_eq_getElem?_getD, List.getElem?_eq_getElem hi2]
  exact ha _ (List.getElem_mem hi2)
 ·omega
theorem str_eq2 {a b : ByteArray} : (a.toList == b.toList) = true ↔ a = b := by
 rw [Lib.toList_data, Lib.toList_data, beq_iff_eq]
 exact ⟨ba_ext, fun h => by rw [h]⟩
set_option maxHeartbeats 2000000 in
theorem sameKinds_any {a b : List Int} (ha : Ok10 a) (hb : Ok10 b) (hl : a.length = b.length) (h200 : a.length ≤ 200) (w : World) :
  Calls Tryz.prog 143 #[.string (kt a), .string (kt b)] w fun e w' => e = .returned (.string (kt (slJoin a b))) ∧ Below w.heap.size w w' := by
 have HA := hid ha
 have HB := hid hb
 have HL := hid hl
 have hsa := kt_size a
 have hsb : (kt b).size = a.length := by rw [kt_size]; omega
 have HSA := hid hsa
 have HSB := hid hsb
 clear ha hb hl
 go_enter Tryz.func143, Tryz.ntmps143
 go_upto_region 2 with fail
 have hrow : (w.alloc (.cells Tryz.zeroCells239 239)).rowIs w.heap.size 239 200 (fun _ => .int .u8 0) := ⟨_, heap_alloc_new _ _, by rw [z200]; simp, fun i hi => by rw [z200]; simp [hi]⟩
 have HLO := hid ((Below.refl w.heap.size w).alloc (Nat.le_refl _) (.cells Tryz.zeroCells239 239))
 obtain ⟨W1, hW1⟩ : ∃ W, w.alloc (.cells Tryz.zeroCells239 239) = W := ⟨_, rfl⟩
 rw [hW1] at hrow HLO ⊢
 clear hW1
 have HROW := hid hrow
 clear hrow
 have hcp : (Builtin.copy_ #[39, 9] 3 #[.slice (some ⟨w.heap.size, 0, none⟩) 200 200, .string (kt a)]).run Tryz.prog W1 = .ok (.int .i64 (a.length : Nat)) (W1.setCells w.heap.size 0 ((kt a).data.toList.map fun x => Value.int .u8 (x.toNat : Int))) := by
  have := run_copy_string (P := Tryz.prog) W1 39 9 3 5 w.heap.size 0 200 200 (kt a) Tryz.underlying39 size_u8 (by omega) (fun j hj => by rw [Nat.zero_add, HROW.out.cell (by omega)]; rfl) (fun j hj => HROW.out.frozen _)
  rw [HSA.out] at this
  exact this
 have HR2 := hid (room_start HA.out h200 HROW.out b)
 have HLO2 := hid (below_setCells (Nat.le_refl _) ((kt a).data.toList.map fun x => Value.int .u8 (x.toNat : Int)) 0 W1 HLO.out)
 obtain ⟨W2, hW2⟩ : ∃ W, W1.setCells w.heap.size 0 ((kt a).data.toList.map fun x => Value.int .u8 (x.toNat : Int)) = W := ⟨_, rfl⟩
 rw [hW2] at hcp HR2 HLO2
 clear hW2
 have hai : (a.length : Int) ≤ 200 := by omega
 go_wp2_with fail
 clear hcp
 go_loopw [14] (fun i wr => ∃ j : Nat, j ≤ a.length ∧ i = .int .i64 j ∧ Below w.heap.size w wr ∧ wr.rowIs w.heap.size 239 200 (sk8 a b j)) (fun i _ => a.length - (intOf i).toNat)
 case atStart => exact ⟨0, Nat.zero_le _, rfl, HLO2.out, HR2.out⟩
 case round =>
  obtain ⟨j, hj, rfl, hlo, hrow⟩ := hrel
  have HLO3 := hid hlo
  have HR3 := hid hrow
  clear hlo hrow HR2 HLO2
  by_cases hlt : j < a.length
  ·have hlti : (j : Int) < (a.length : Int) := by omega
   have hlt2 : j < (kt b).size := by omega
   have hlt3 : (j : Int) < ((kt b).size : Int) := by omega
   have kA := HR3.out.cell (show j < 200 by omega)
   have kF := HR3.out.frozen j
   have hyv := kt_get HB.out hlt2
   have HT0 := hid (slJoin_get a b HL.out j hlt)
   unfold sk8 at kA
   rw [if_pos hlt, if_neg (Nat.lt_irrefl j)] at kA
   obtain ⟨x, hx⟩ : ∃ x, a.getD j 0 = x := ⟨_, rfl⟩
   obtain ⟨y, hy⟩ : ∃ y, b.getD j 0 = y := ⟨_, rfl⟩
   rw [hx] at kA HT0
   rw [hy] at hyv HT0
   have HX := hid hx
   clear hx hy
   by_cases hxy : x = y
   ·have hxf : (x != y) = false := by simpa using hxy
    have HN := hid (fun n : Nat => room_same (n := n) (b := b) (j := j) HR3.out (by rw [HT0.out, if_pos hxy, HX.out]))
    clear hxy
    go_wp2_with fail
    go_quiet (fail)
    go_wp2
    go_roundw
    case rel => exact ⟨j + 1, by omega, by go_num, below_drewN HLO3.out _, HN.out _⟩
    case measure => simp [intOf]; omega
   ·have hxf : (x != y) = true := by simpa using hxy
    have HN := hid (fun n : Nat => room_put (n := n) (b := b) (j := j) HR3.out hlt (by rw [HT0.out, if_neg hxy]))
    clear hxy
    go_wp2_with fail
    go_quiet (fail)
    go_wp2
    go_roundw
    case rel => exact ⟨j + 1, by omega, by go_num, set_lo (below_drewN HLO3.out _) _ _ (Nat.le_refl _) _, HN.out _⟩
    case measure => simp [intOf]; omega
  ·obtain rfl : j = a.length := by omega
   have hge : ¬ ((a.length : Int) < (a.length : Int)) := by omega
   have hcv : (convert 39 9 (.slice (some ⟨w.heap.size, 0, none⟩) a.length 200)).run Tryz.prog wr = .ok (.string (kt (slJoin a b))) wr := by
    have hll : ((slJoin a b).map kb).length = a.length := by rw [List.length_map, slJoin_length _ _ HL.out]
    have := run_convert_bytes_back (P := Tryz.prog) wr 39 9 5 ⟨w.heap.size, 0, none⟩ 200 ((slJoin a b).map kb) Tryz.underlying39 Tryz.underlying5 Tryz.underlying9 (fun k hk => by
     rw [hll] at hk
     have ea : (⟨w.heap.size, 0, none⟩ : Addr).add k = ⟨w.heap.size, k, none⟩ := by
      by_cases hk0 : k = 0
      ·subst hk0; simp [Addr.add]
      ·simp [Addr.add, hk0]
     rw [ea, HR3.out.cell (show k < 200 by omega)]
     unfold sk8
     rw [if_pos hk, if_pos hk]
     have hk2 : k < (slJoin a b).length := by rw [slJoin_length _ _ HL.out]; exact hk
     rw [List.getD_eq_getElem?_getD, List.getElem?_eq_getElem hk2]
     simp [kb_nat (slJoin_ok HA.out HL.out _ (List.getElem_mem hk2))])
    rw [hll] at this
    exact this
   by_cases he : kt (slJoin a b) = kt b
   ·have hef : ((kt (slJoin a b)).toList == (kt b).toList) = true := str_eq2.2 he
    have HE := hid he
    clear he
    go_wp2_with fail
    go_ret
    exact ⟨by rw [HE.out]; rfl, HLO3.out⟩
   ·have hef : ((kt (slJoin a b)).toList == (kt b).toList) = false := Bool.eq_false_iff.2 fun h => he (str_eq2.1 h)
    clear he
    go_wp2_with fail
    go_ret
    exact ⟨rfl, HLO3.out⟩
def BehEnd (fns : List Fn) (f : Fn) (p : Nat) (s : Sh) (w : World) (e : Ending) (w' : World) : Prop := ∃ v, e = .returned v ∧ ShV w' v (behind fns f p s) ∧ Below w.heap.size w w'
def ibox (i : In) : Obj := .cells #[.int .i64 i.op, .int .i64 i.a, .int .i64 i.n, .string i.text] 84
def fbox (f : Fn) (pv iv : Value) : Obj := .cells #[.string f.name, pv, .int .i64 f.result, .int .i64 f.slots, iv] 57
structure BX (f : Fn) (i : In) (w : World) (cv pv iv x y : Value) (W : World) : Prop where
 lo : Below w.heap.size w W
 e0 : W.heap[w.heap.size]? = some (.cells #[cv] 29)
 e1 : W.heap[w.heap.size + 1]? = some (fbox f pv iv)
 e2 : W.heap[w.heap.size + 1 + 1]? = some (sbox 1 x y)
 e3 : W.heap[w.heap.size + 1 + 1 + 1]? = some (sbox 0 (.slice none 0 0) (.slice none 0 0))
 e4 : W.heap[w.heap.size + 1 + 1 + 1 + 1]? = some (ibox i)
 e5 : W.heap[w.heap.size + 1 + 1 + 1 + 1 + 1]? = some (sbox 2 (.slice none 0 0) (.slice none 0 0))
theorem BX.next {f : Fn} {i : In} {w : World} {cv pv iv x y : Value} {W V : World} (h : BX f i w cv pv iv x y W) (hb : Below W.heap.size W V) : BX f i w cv pv iv x y V :=
 ⟨h.lo.trans (hb.mono h.lo.size), hp_next h.e0 hb, hp_next h.e1 hb, hp_next h.e2 hb, hp_next h.e3 hb, hp_next h.e4 hb, hp_next h.e5 hb⟩
theorem fx {W : World} {g : Nat} {f : Fn} {pv iv : Value} (e : W.heap[g]? = some (fbox f pv iv)) :
  W.cell? ⟨g, 0, none⟩ = some (.string f.name) ∧ W.cell? ⟨g, 1, none⟩ = some pv ∧ W.cell? ⟨g, 2, none⟩ = some (.int .i64 f.result) ∧ W.cell? ⟨g, 3, none⟩ = some (.int .i64 f.slots) ∧ W.cell? ⟨g, 4, none⟩ = some iv := by
 refine ⟨?_, ?_, ?_, ?_, ?_⟩ <;> simp [World.cell?, e, fbox]
theorem ix {W : World} {g : Nat} {i : In} (e : W.heap[g]? = some (ibox i)) :
  W.cell? ⟨g, 0, none⟩ = some (.int .i64 i.op) ∧ W.cell? ⟨g, 1, none⟩ = some (.int .i64 i.a) ∧ W.cell? ⟨g, 2, none⟩ = some (.int .i64 i.n) ∧ W.cell? ⟨g, 3, none⟩ = some (.string i.text) := by
 refine ⟨?_, ?_, ?_, ?_⟩ <;> simp [World.cell?, e, ibox]
theorem cx {W : World} {g : Nat} {cv : Value} (e : W.heap[g]? = some (.cells #[cv] 29)) : W.cell? ⟨g, 0, none⟩ = some cv := by simp [World.cell?, e]
theorem four (w : World) (a b c d : Obj) : ((((w.alloc a).alloc b).alloc c).alloc d).heap[w.heap.size]? = some a ∧ ((((w.alloc a).alloc b).alloc c).alloc d).heap[w.heap.size + 1]? = some b ∧ ((((w.alloc a).alloc b).alloc c).alloc d).heap[w.heap.size + 1 + 1]? = some c ∧ ((((w.alloc a).alloc b).alloc c).alloc d).heap[w.heap.size + 1 + 1 + 1]? = some d ∧ Below w.heap.size w ((((w.alloc a).alloc b).alloc c).alloc d) ∧ ((((w.alloc a).alloc b).alloc c).alloc d).heap.size = w.heap.size + 1 + 1 + 1 + 1 := by
 obtain ⟨t0, t1, t2⟩ := three w a b c
 have hb : Below (((w.alloc a).alloc b).alloc c).heap.size (((w.alloc a).alloc b).alloc c) ((((w.alloc a).alloc b).alloc c).alloc d) := (Below.refl _ _).alloc (Nat.le_refl _) _
 have hs : (((w.alloc a).alloc b).alloc c).heap.size = w.heap.size + 1 + 1 + 1 := by simp
 have t3 := heap_alloc_new (((w.alloc a).alloc b).alloc c) d
 rw [hs] at t3
 exact ⟨hp_next t0 hb, hp_next t1 hb, hp_next t2 hb, t3, (al3 w a b c).trans (hb.mono (al3 w a b c).size), by simp⟩
theorem boxes6 (f : Fn) (i : In) (w : World) (cv pv iv x y : Value) {W4 : World} (h0 : W4.heap[w.heap.size]? = some (.cells #[cv] 29)) (h1 : W4.heap[w.heap.size + 1]? = some (fbox f pv iv)) (h2 : W4.heap[w.heap.size + 1 + 1]? = some (sbox 1 x y)) (h3 : W4.heap[w.heap.size + 1 + 1 + 1]? = some (sbox 0 (.slice none 0 0) (.slice none 0 0))) (lo : Below w.heap.size w W4) (hz : W4.heap.size = w.heap.size + 1 + 1 + 1 + 1) :
  BX f i w cv pv iv x y ((W4.alloc (ibox i)).alloc (sbox 2 (.slice none 0 0) (.slice none 0 0))) := by
 have k1 : Below W4.heap.size W4 (W4.alloc (ibox i)) := (Below.refl _ _).alloc (Nat.le_refl _) _
 have k2 : Below (W4.alloc (ibox i)).heap.size (W4.alloc (ibox i)) ((W4.alloc (ibox i)).alloc (sbox 2 (.slice none 0 0) (.slice none 0 0))) := (Below.refl _ _).alloc (Nat.le_refl _) _
 have g4 := heap_alloc_new W4 (ibox i)
 have g5 := heap_alloc_new (W4.alloc (ibox i)) (sbox 2 (.slice none 0 0) (.slice none 0 0))
 have s5 : (W4.alloc (ibox i)).heap.size = w.heap.size + 1 + 1 + 1 + 1 + 1 := by simp [hz]
 rw [s5] at g5
 rw [hz] at g4
 exact ⟨(lo.trans (k1.mono lo.size)).trans (k2.mono (by rw [s5]; omega)), hp_next (hp_next h0 k1) k2, hp_next (hp_next h1 k1) k2, hp_next (hp_next h2 k1) k2, hp_next (hp_next h3 k1) k2, hp_next g4 k2, g5⟩
theorem beh_top {fns : List Fn} {f : Fn} {p : Nat} {s : Sh} {w W : World} {g : Nat} (lo : Below w.heap.size w W) (hg : w.heap.size ≤ g) (h : behind fns f p s = top) (a b c : Value) : BehEnd fns f p s w (.returned (.agg #[.int .i64 2, .slice none 0 0, .slice none 0 0])) (((W.setCell ⟨g, 0, none⟩ a).setCell ⟨g, 1, none⟩ b).setCell ⟨g, 2, none⟩ c) := by
 refine ⟨_, rfl, ?_, set_lo (set_lo (set_lo lo _ _ hg _) _ _ hg _) _ _ hg _⟩
 rw [h]
 exact ⟨_, _, rfl, IntRow.nil _, IntRow.nil _⟩
def lbox (st : Int) (x y : ByteArray) : Obj := .cells #[.int .i64 st, .string x, .string y] 187
theorem six_l {W : World} {g : Nat} {st : Int} {x y : ByteArray} (e : W.heap[g]? = some (lbox st x y)) :
  W.cell? ⟨g, 0, none⟩ = some (.int .i64 st) ∧ W.cell? ⟨g, 1, none⟩ = some (.string x) ∧ W.cell? ⟨g, 2, none⟩ = some (.string y) ∧ W.frozen? ⟨g, 0, none⟩ = false ∧ W.frozen? ⟨g, 1, none⟩ = false ∧ W.frozen? ⟨g, 2, none⟩ = false := by
 refine ⟨?_, ?_, ?_, ?_, ?_, ?_⟩ <;> simp [World.cell?, World.frozen?, e, lbox]
theorem set1_l {W : World} {g : Nat} {st : Int} {x y : ByteArray} (e : W.heap[g]? = some (lbox st x y)) (v : ByteArray) : (W.setCell ⟨g, 1, none⟩ (.string v)).heap[g]? = some (lbox st v y) := by
 unfold World.setCell
 simp only [Array.getElem?_modify, e]
 simp [lbox]
def JdEnd (a b : Sh) (w : World) (e : Ending) (w' : World) : Prop := e = .returned (lv (join a b)) ∧ Below w.heap.size w w'
set_option maxHeartbeats 1000000 in
theorem jd_0 {a b : Sh} (h : a.st = 0) (w : World) : Calls Tryz.prog 122 #[lv a, lv b] w (JdEnd a b w) := by
 have HJ := hid (join_bot (b := b) h)
 unfold lv
 rw [h]
 clear h
 go_enter Tryz.func122, Tryz.ntmps122
 go_wp2
 refine bodyPost_ret (v := lv b) (by simp [results, Tryz.results122, go_sem, lv]) rfl ⟨by rw [HJ.out], al3 _ _ _ _⟩
set_option maxHeartbeats 1000000 in
theorem jd_2 {S : Nat} {a b : Sh} (_ha : OkSh S a) (h : a.st = 2) (w : World) : Calls Tryz.prog 122 #[lv a, lv b] w (JdEnd a b w) := by
 have HJ : Hid (join a b = top) := hid (by simp [join, h])
 unfold lv
 rw [h]
 clear h
 go_enter Tryz.func122, Tryz.ntmps122
 go_wp2
 refine bodyPost_ret (v := lv top) (by simp [results, Tryz.results122, go_sem, lv, top, kt_nil]) rfl ⟨by rw [HJ.out], al3 _ _ _ _⟩
set_option maxHeartbeats 1000000 in
theorem jd_12 {a b : Sh} (h : a.st = 1) (h2 : b.st = 2) (w : World) : Calls Tryz.prog 122 #[lv a, lv b] w (JdEnd a b w) := by
 have HJ : Hid (join a b = top) := hid (by simp [join, h, h2])
 unfold lv
 rw [h, h2]
 clear h h2
 go_enter Tryz.func122, Tryz.ntmps122
 go_wp2
 refine bodyPost_ret (v := lv top) (by simp [results, Tryz.results122, go_sem, lv, top, kt_nil]) rfl ⟨by rw [HJ.out], al3 _ _ _ _⟩
set_option maxHeartbeats 1000000 in
theorem jd_ne {a b : Sh} (h : a.st = 1) (h2 : b.st = 1) (hk : ¬ kt a.sk = kt b.sk) (w : World) : Calls Tryz.prog 122 #[lv a, lv b] w (JdEnd a b w) := by
 have HJ : Hid (join a b = top) := hid (join_apart h fun e => hk (by rw [e]))
 have hkf : ((kt a.sk).toList == (kt b.sk).toList) = false := Bool.eq_false_iff.2 fun h => hk (str_eq2.1 h)
 have hkn : ((kt a.sk).toList != (kt b.sk).toList) = true := by simp [bne, hkf]
 unfold lv
 rw [h, h2]
 clear h h2 hk
 go_enter Tryz.func122, Tryz.ntmps122
 go_wp2
 refine bodyPost_ret (v := lv top) (by simp [results, Tryz.results122, go_sem, lv, top, kt_nil]) rfl ⟨by rw [HJ.out], al3 _ _ _ _⟩
set_option maxHeartbeats 1000000 in
theorem jd_eq {a b : Sh} (h : a.st = 1) (h2 : b.st = 1) (hk : kt a.sk = kt b.sk) (hks : a.sk = b.sk) (hs : kt a.sl = kt b.sl) (hss : a.sl = b.sl) (w : World) : Calls Tryz.prog 122 #[lv a, lv b] w (JdEnd a b w) := by
 have HJ : Hid (join a b = a) := hid (by
  rw [join_both h h2 hks, ← hss, slJoin_self]
  cases a
  simp at h
  rw [h])
 have HA : Hid (lv a = .agg #[.int .i64 1, .string (kt a.sl), .string (kt a.sk)]) := hid (by unfold lv; rw [h]; rfl)
 unfold lv
 rw [h, h2, ← hk, ← hs]
 clear h h2 hk hks hs hss
 go_enter Tryz.func122, Tryz.ntmps122
 go_wp2
 refine bodyPost_ret (v := .agg #[.int .i64 1, .string (kt a.sl), .string (kt a.sk)]) (by simp [results, Tryz.results122, go_sem]) rfl ⟨by rw [HJ.out, HA.out], al3 _ _ _ _⟩
set_option maxHeartbeats 2000000 in
theorem jd_mix {a b : Sh} (h : a.st = 1) (h2 : b.st = 1) (hk : kt a.sk = kt b.sk) (hks : a.sk = b.sk) (hs : ¬ kt a.sl = kt b.sl) (ha : Ok10 a.sl) (hb : Ok10 b.sl) (hl : a.sl.length = b.sl.length) (h200 : a.sl.length ≤ 200) (w : World) : Calls Tryz.prog 122 #[lv a, lv b] w (JdEnd a b w) := by
 have HJ : Hid (lv (join a b) = .agg #[.int .i64 1, .string (kt (slJoin a.sl b.sl)), .string (kt a.sk)]) := hid (by rw [join_both h h2 hks]; rfl)
 have hkf : ((kt a.sl).toList == (kt b.sl).toList) = false := Bool.eq_false_iff.2 fun h => hs (str_eq2.1 h)
 have hkn : ((kt a.sl).toList != (kt b.sl).toList) = true := by simp [bne, hkf]
 have HC := hid (fun W => sameKinds_any ha hb hl h200 W)
 unfold lv
 rw [h, h2, ← hk]
 clear h h2 hk hks hs ha hb hl
 go_enter Tryz.func122, Tryz.ntmps122
 go_upto_region 1 with fail
 obtain ⟨t0, t1, t2⟩ := three w (lbox 1 (kt a.sl) (kt a.sk)) (lbox 1 (kt b.sl) (kt a.sk)) (lbox 0 ⟨#[]⟩ ⟨#[]⟩)
 have HLO := hid (al3 w (lbox 1 (kt a.sl) (kt a.sk)) (lbox 1 (kt b.sl) (kt a.sk)) (lbox 0 ⟨#[]⟩ ⟨#[]⟩))
 obtain ⟨W1, hW1⟩ : ∃ W, ((w.alloc (lbox 1 (kt a.sl) (kt a.sk))).alloc (lbox 1 (kt b.sl) (kt a.sk))).alloc (lbox 0 ⟨#[]⟩ ⟨#[]⟩) = W := ⟨_, rfl⟩
 rw [hW1] at t0 t1 t2 HLO
 unfold lbox at hW1
 rw [hW1]
 clear hW1
 have T0 := hid t0
 have T1 := hid t1
 have T2 := hid t2
 obtain ⟨u0, u1, u2, _, _, _⟩ := six_l t0
 obtain ⟨x0, x1, x2, _, _, _⟩ := six_l t1
 clear t0 t1 t2
 go_upto_region 7 with (go_at_call 143; refine (HC.out _).mono ?_; rintro e w2 ⟨rfl, hb2⟩; have T20 := hid (hp_next T0.out hb2); have T22 := hid (hp_next T2.out hb2); have HLO2 := hid (HLO.out.trans (hb2.mono HLO.out.size)); obtain ⟨z0, z1, z2, q0, q1, q2⟩ := six_l T20.out; clear hb2)
 have e20 := set1_l T20.out (kt (slJoin a.sl b.sl))
 have e22 : (w2.setCell ⟨w.heap.size, 1, none⟩ (.string (kt (slJoin a.sl b.sl)))).heap[w.heap.size + 1 + 1]? = some (lbox 0 ⟨#[]⟩ ⟨#[]⟩) := by rw [set_other _ _ _ _ _ (by omega)]; exact T22.out
 have HLO3 := hid (set_lo HLO2.out w.heap.size 1 (Nat.le_refl _) (.string (kt (slJoin a.sl b.sl))))
 obtain ⟨W3, hW3⟩ : ∃ W, w2.setCell ⟨w.heap.size, 1, none⟩ (.string (kt (slJoin a.sl b.sl))) = W := ⟨_, rfl⟩
 rw [hW3] at e20 e22 HLO3 ⊢
 clear hW3 u0 u1 u2 x0 x1 x2 z0 z1 z2 q0 q1 q2
 obtain ⟨u0, u1, u2, _, _, _⟩ := six_l e20
 obtain ⟨r0, r1, r2, q0, q1, q2⟩ := six_l e22
 clear e20 e22
 go_wp2
 refine bodyPost_ret (v := .agg #[.int .i64 1, .string (kt (slJoin a.sl b.sl)), .string (kt a.sk)]) (by simp [results, Tryz.results122, go_sem, r0, r1, r2]) rfl ⟨by rw [HJ.out], set_lo (set_lo (set_lo HLO3.out _ _ (by omega) _) _ _ (by omega) _) _ _ (by omega) _⟩
theorem joined_any {S : Nat} {a b : Sh} (ha : OkSh S a) (hb : OkSh S b) (h0 : ¬ b.st = 0) (hS : S ≤ 200) (w : World) : Calls Tryz.prog 122 #[lv a, lv b] w (JdEnd a b w) := by
 rcases ok_st ha with h | h | h
 ·exact jd_0 h w
 ·rcases ok_st hb with k | k | k
  ·exact absurd k h0
  ·have p := ok_known ha h
   have q := ok_known hb k
   by_cases hk : kt a.sk = kt b.sk
   ·have hks := kt_inj (ok_sl ha).2 (ok_sl hb).2 hk
    by_cases hs : kt a.sl = kt b.sl
    ·exact jd_eq h k hk hks hs (kt_inj (ok_sl ha).1 (ok_sl hb).1 hs) w
    ·exact jd_mix h k hk hks hs (ok_sl ha).1 (ok_sl hb).1 (p.1.trans q.1.symm) (by omega) w
   ·exact jd_ne h k hk w
  ·exact jd_12 h k w
 ·exact jd_2 ha h w
theorem run_append_none (w : World) (base : Nat) (ty : TypeId) (i : TypeInfo) (hi : Tryz.prog.info? 3 = some i) (v : Value) (n c : Nat) (xs : List Value) (hown : w.ownsRow base 3 1 v n xs) :
  (Builtin.append_ #[54, 54] ty #[v, .slice none 0 c]).run Tryz.prog w = .ok v w := by
 rcases hown.2 with ⟨rfl, rfl⟩ | ⟨g, cap, cur, rfl, _, _, hnc, _⟩
 ·simp [Builtin.append_, run_underlying Tryz.underlying54, sizeOf, typeInfo, hi, Builtin.lenOf, Builtin.firstCells]
 ·simp [Builtin.append_, run_underlying Tryz.underlying54, sizeOf, typeInfo, hi, Builtin.lenOf, Builtin.firstCells, hnc, storeCells]
theorem wpList_append_row {w : World} {ops : Array Oper} {rest : List Oper} {o : Oper} {a : Act} {Q : Exit → Act → World → Prop} (hgd : o.guard = none) (s x : Operand)
  (ho : o.op = .call { callee := .builtin .append, args := #[s, x], argTypes := #[54, 54] })
  (base : Nat) (v : Value) (n : Nat) (xs : List Value) (hs : a.eval s = v) (hown : w.ownsRow base 3 1 v n xs) (xv : Value) (l : List Int) (hx : a.eval x = xv) (hrow : IntPart w xv l)
  (h63 : n + l.length ≤ 100000) (hbase : base ≤ w.heap.size)
  (h : ∀ v' w', w'.ownsRow base 3 1 v' (n + l.length) (xs ++ l.map fun x => Value.int .i64 x) → w.grownBy w' v.ownBlock → wpList Tryz.prog ops Q rest (a.put o.dst v') w') :
  wpList Tryz.prog ops Q (o :: rest) a w := by
 obtain ⟨i0, hi, hz0, hz1, hz2⟩ := int_parts
 obtain ⟨ad, c, rfl, hl⟩ := hrow
 cases ad with
 | none =>
  have e : l = [] := by
   rcases hl with e | ⟨g, o9, e, _⟩
   ·exact e
   ·cases e
  subst e
  refine wpList_plain hgd fun K hK => ?_
  have hrun := run_append_none w base o.type i0 hi v n c xs hown
  unfold Oper.wp
  simp [execOp, ho, resolve, invoke, builtin, hs, hx, hrun, Result.andThen]
  exact hK _ _ (h v w (by simpa using hown) ⟨rfl, rfl, rfl, Nat.le_refl _, fun _ _ _ => rfl⟩)
 | some ad =>
  refine wpList_append_own_at _ hgd s x 54 ho base 3 i0 (.int .i64 0) 1 8 Tryz.underlying54 hi hz0 hz1 hz2 rfl (by decide) v n xs hs hown ad l.length c (l.map fun x => Value.int .i64 x) hx (by simp) ?_ ?_ (by unfold maxLen; omega) (by omega) hbase (fun v' w' h1 h2 _ _ => h v' w' h1 h2)
  ·intro j u hj
   rcases hl with e | ⟨g, o9, e, _, hc⟩
   ·subst e; simp at hj
   ·injection e with e
    subst e
    have hlt : j < l.length := by
     have := (List.getElem?_eq_some_iff.1 hj).1
     simpa using this
    have hv := hc j hlt
    have : u = .int .i64 (l.getD j 0) := by
     rw [List.getElem?_map, List.getElem?_eq_getElem hlt] at hj
     simp at hj
     rw [← hj, List.getD_eq_getElem?_getD, List.getElem?_eq_getElem hlt]
     rfl
    have ea : (⟨g, o9, none⟩ : Addr).add j = ⟨g, o9 + j, none⟩ := by
     by_cases hj0 : j = 0
     ·subst hj0; simp [Addr.add]
     ·simp [Addr.add, hj0]
    rw [this, ea]
    exact hv
  ·intro u hu
   simp at hu
   obtain ⟨z, _, rfl⟩ := hu
   rfl
theorem part_head {W : World} {ad : Option Addr} {c q : Nat} {l : List Int} (h : IntRow W (.slice ad l.length c) l) (hq : q ≤ l.length) : IntPart W (.slice ad q c) (l.take q) := by
 have hl : (l.take q).length = q := by simp; omega
 obtain ⟨ad', c', e, _, _, h3⟩ := h
 injection e with ea _ ec
 subst ea ec
 refine ⟨_, _, by rw [hl], ?_⟩
 rcases h3 with h3 | ⟨g, cur, e1, e2, e3⟩
 ·exact .inl (by rw [h3]; simp)
 ·refine .inr ⟨g, 0, e1, lt_hp e2, fun i hi => ?_⟩
  rw [hl] at hi
  rw [Nat.zero_add, cell_hp e2 i, e3 i (by omega)]
  simp [List.getD_eq_getElem?_getD, List.getElem?_take_of_lt hi]
theorem grown_lo {w A V : World} {B n : Nat} {v : Value} {xs : List Value} (lo : Below w.heap.size w A) (ho : A.ownsRow B 3 1 v n xs) (hB : w.heap.size ≤ B) (hg : A.grownBy V v.ownBlock) : Below w.heap.size w V :=
 ⟨hg.os.trans lo.os, hg.tape.trans lo.tape, hg.output.trans lo.output, Nat.le_trans lo.size hg.size, fun i hi => (hg.block i (Nat.lt_of_lt_of_le hi lo.size) (own_ne ho (by omega))).trans (lo.block i hi)⟩
theorem set2_box {W : World} {g : Nat} {st : Int} {x y : Value} (e : W.heap[g]? = some (sbox st x y)) (v : Value) : (W.setCell ⟨g, 2, none⟩ v).heap[g]? = some (sbox st x v) := by
 unfold World.setCell
 simp only [Array.getElem?_modify, e]
 simp [sbox]
theorem own_setS {W : World} {B g j n : Nat} {v u : Value} {xs : List Value} (h : W.ownsRow B 3 1 v n xs) {st : Int} {x y : Value} (e : W.heap[g]? = some (sbox st x y)) : (W.setCell ⟨g, j, none⟩ u).ownsRow B 3 1 v n xs := by
 obtain ⟨h1, h2 | ⟨k, cap, cur, ev, hb, hc, r⟩⟩ := h
 ·exact ⟨h1, .inl h2⟩
 ·exact ⟨h1, .inr ⟨k, cap, cur, ev, hb, by rw [set_other _ _ _ _ _ (fun ek => by subst ek; rw [e] at hc; simp [sbox] at hc)]; exact hc, r⟩⟩
theorem lit_own (W : World) : (W.alloc (.cells #[] 3)).ownsRow W.heap.size 3 1 (.slice (some ⟨W.heap.size, 0, none⟩) 0 0) 0 [] := World.ownsRow_lit W #[] 0 (Nat.le_refl _) (by unfold maxLen; omega) rfl
end Go.Proofs.YtcjgcipacfcjnaaGreatDoor.C
