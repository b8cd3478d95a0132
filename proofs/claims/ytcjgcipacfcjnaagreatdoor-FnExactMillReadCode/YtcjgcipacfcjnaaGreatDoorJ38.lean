import Derived.LaidEql
import Derived.Stop.Asserts
import Derived.Test.YtcjgcipacfcjnaaGreatDoorJ36
import Derived.Test.YtcjgcipacfcjnaaGreatDoorJ34
import Derived.Test.YtcjgcipacfcjnaaGreatDoorJ37
import Derived.Test.YtcjgcipacfcjnaaGreatDoorJ26
namespace Go.Proofs.YtcjgcipacfcjnaaGreatDoor.C.D
open Go.RowKit Go.Extern.Stop Go.Stop Go.Extern
set_option maxRecDepth 20000
theorem rValueP (t : Addr) (w : World) : (ReflectliteValue.unpack (.iface 72 (.pointer (some t)))).run Tryz.prog w
  = .ok (.agg #[.pointer (some ⟨7, 72, none⟩), .pointer (some ⟨w.heap.size, 0, none⟩), .int .u64 150]) (w.alloc (.cells #[.pointer (some t)] 72)) := by kernel_rfl
theorem rTypeP (a : Addr) (w : World) : (ReflectliteValue.methodAny (ReflectliteValue.valueError "reflectlite.Value.Type" 0) (fun t _ _ _ => ReflectliteType.toType t) #[.agg #[.pointer (some ⟨7, 72, none⟩), .pointer (some a), .int .u64 150]]).run Tryz.prog w
  = .ok (.iface 151 (.agg #[.pointer (some ⟨7, 72, none⟩)])) w := by kernel_rfl
theorem rKindP (w : World) : ((ReflectliteType.abiMethod fun t => (fun a : Nat => Value.int IntKind.u8 (a : Int)) <$> Rtype.kind t) #[.pointer (some ⟨7, 72, none⟩)]).run Tryz.prog w = .ok (.int .u8 22) w := by kernel_rfl
theorem rKindF (w : World) : ((ReflectliteType.abiMethod fun t => (fun a : Nat => Value.int IntKind.u8 (a : Int)) <$> Rtype.kind t) #[.pointer (some ⟨7, 70, none⟩)]).run Tryz.prog w = .ok (.int .u8 25) w := by kernel_rfl
theorem rlm (z : Sem Value) (f : TypeId → Addr → Nat → Nat → Sem Value) (v : Value) :
  ReflectliteValue.method z f #[v] = (do match ← ReflectliteValue.parts v with | none => z | some (t, a, fl) => f t a fl (fl % 32)) := rfl
theorem rPartsP (a : Addr) (w : World) : (ReflectliteValue.parts (.agg #[.pointer (some ⟨7, 72, none⟩), .pointer (some a), .int .u64 150])).run Tryz.prog w = .ok (some (72, a, 150)) w := by kernel_rfl
theorem rIsNil (a p : Addr) (W : World) (ha : W.cell? a = some (.pointer (some p))) :
  (ReflectliteValue.method (ReflectliteValue.valueError "reflectlite.Value.IsNil" 0) ReflectliteValue.isNil #[.agg #[.pointer (some ⟨7, 72, none⟩), .pointer (some a), .int .u64 150]]).run Tryz.prog W = .ok (.bool false) W := by
 rw [rlm]
 simp only [Sem.run_bind, rPartsP, Result.andThen]
 simp [ReflectliteValue.isNil, loadVar, isAgg, underlying, Tryz.underlying72, ha, Result.andThen]
theorem rElemP (w : World) : (ReflectliteType.method ReflectliteType.elem #[.agg #[.pointer (some ⟨7, 72, none⟩)]]).run Tryz.prog w = .ok (.iface 151 (.agg #[.pointer (some ⟨7, 70, none⟩)])) w := by kernel_rfl
theorem rTypeOf (v : Value) (w : World) : (ReflectliteType.typeOf #[.iface 70 v]).run Tryz.prog w = .ok (.iface 151 (.agg #[.pointer (some ⟨7, 70, none⟩)])) w := by kernel_rfl
theorem rAssign (w : World) : (ReflectliteType.relation "AssignableTo" ReflectliteType.assignableTo #[.agg #[.pointer (some ⟨7, 70, none⟩)], .iface 151 (.agg #[.pointer (some ⟨7, 70, none⟩)])]).run Tryz.prog w = .ok (.bool true) w := by kernel_rfl
theorem rImpl (w : World) : (ReflectliteType.relation "Implements" ReflectliteType.implements_ #[.agg #[.pointer (some ⟨7, 70, none⟩)], .iface 151 (.agg #[.pointer (some ⟨7, 43, none⟩)])]).run Tryz.prog w = .ok (.bool true) w := by kernel_rfl
theorem rValueF (a9 : Int) (t9 : TypeId) (u9 : Value) (w : World) : (ReflectliteValue.unpack (.iface 70 (.agg #[.int .i64 a9, .iface t9 u9]))).run Tryz.prog w
  = .ok (.agg #[.pointer (some ⟨7, 70, none⟩), .pointer (some ⟨w.heap.size, 0, none⟩), .int .u64 153]) (w.alloc (.cells #[.int .i64 a9, .iface t9 u9] 70)) := by kernel_rfl
theorem rElemOf (w : World) : (Rtype.elem? 72).run Tryz.prog w = .ok (some 70) w := by kernel_rfl
theorem rMkF (p : Addr) (w : World) : (ReflectliteValue.mk 70 p ReflectliteValue.flagAddr).run Tryz.prog w = .ok (.agg #[.pointer (some ⟨7, 70, none⟩), .pointer (some p), .int .u64 409]) w := by kernel_rfl
theorem rElemV (a p : Addr) (W : World) (ha : W.cell? a = some (.pointer (some p))) :
  (ReflectliteValue.method (ReflectliteValue.valueError "reflectlite.Value.Elem" 0) ReflectliteValue.elem #[.agg #[.pointer (some ⟨7, 72, none⟩), .pointer (some a), .int .u64 150]]).run Tryz.prog W
   = .ok (.agg #[.pointer (some ⟨7, 70, none⟩), .pointer (some p), .int .u64 409]) W := by
 rw [rlm]
 simp only [Sem.run_bind, rPartsP, Result.andThen]
 simp [ReflectliteValue.elem, loadVar, isAgg, underlying, Tryz.underlying72, ha, Result.andThen, rElemOf, rMkF]
theorem rDirect (w : World) : (Rtype.directlyAssignable 70 70).run Tryz.prog w = .ok true w := by kernel_rfl
theorem rPartsFa (a : Addr) (w : World) : (ReflectliteValue.parts (.agg #[.pointer (some ⟨7, 70, none⟩), .pointer (some a), .int .u64 409])).run Tryz.prog w = .ok (some (70, a, 409)) w := by kernel_rfl
theorem rPartsF (a : Addr) (w : World) : (ReflectliteValue.parts (.agg #[.pointer (some ⟨7, 70, none⟩), .pointer (some a), .int .u64 153])).run Tryz.prog w = .ok (some (70, a, 153)) w := by kernel_rfl
end Go.Proofs.YtcjgcipacfcjnaaGreatDoor.C.D
namespace Go.Proofs.YtcjgcipacfcjnaaGreatDoor.C.D
open Go.RowKit
set_option maxRecDepth 20000
structure BX (w : World) (r : Nat) (o a n : Int) (t : ByteArray) (W : World) : Prop where
 gr : w.grownBy W (some r)
 e : W.heap[w.heap.size]? = some (rbox o a n t)
 dl : r < w.heap.size
theorem BX.grow {w W V : World} {r : Nat} {o a n : Int} {t : ByteArray} (h : BX w r o a n t W) (hg : W.grownBy V (some r)) : BX w r o a n t V :=
 ⟨grown_trans h.gr hg, grown_hp hg h.e (by have := h.dl; omega), h.dl⟩
theorem BX.set0 {w W : World} {r : Nat} {o a n : Int} {t : ByteArray} (h : BX w r o a n t W) (x : Int) : BX w r x a n t (W.setCell ⟨w.heap.size, 0, none⟩ (.int .i64 x)) :=
 ⟨grown_hi h.gr (Nat.le_refl _) _ _, (by have := h.e; unfold World.setCell; simp only [Array.getElem?_modify, this]; simp [rbox]), h.dl⟩
theorem BX.set1 {w W : World} {r : Nat} {o a n : Int} {t : ByteArray} (h : BX w r o a n t W) (x : Int) : BX w r o x n t (W.setCell ⟨w.heap.size, 1, none⟩ (.int .i64 x)) :=
 ⟨grown_hi h.gr (Nat.le_refl _) _ _, (by have := h.e; unfold World.setCell; simp only [Array.getElem?_modify, this]; simp [rbox]), h.dl⟩
theorem BX.set2 {w W : World} {r : Nat} {o a n : Int} {t : ByteArray} (h : BX w r o a n t W) (x : Int) : BX w r o a x t (W.setCell ⟨w.heap.size, 2, none⟩ (.int .i64 x)) :=
 ⟨grown_hi h.gr (Nat.le_refl _) _ _, (by have := h.e; unfold World.setCell; simp only [Array.getElem?_modify, this]; simp [rbox]), h.dl⟩
theorem BX.set3 {w W : World} {r : Nat} {o a n : Int} {t : ByteArray} (h : BX w r o a n t W) (x : ByteArray) : BX w r o a n x (W.setCell ⟨w.heap.size, 3, none⟩ (.string x)) :=
 ⟨grown_hi h.gr (Nat.le_refl _) _ _, (by have := h.e; unfold World.setCell; simp only [Array.getElem?_modify, this]; simp [rbox]), h.dl⟩
def IInEnd (s : ByteArray) (r p : Nat) (w : World) (e : Ending) (w' : World) : Prop := ∃ q, RS w' r s q ∧ p ≤ q ∧ q ≤ s.size ∧ w.grownBy w' (some r) ∧ ((∃ x : In, e = .returned (.tuple #[inV x, .nilIface]) ∧ InW x ∧ q = p + (insF x).length ∧ Fr (insF x) ((bts s).drop p)) ∨ ∃ (x : In) (a : Int) (t : TypeId) (u : Value), e = .returned (.tuple #[inV x, .iface 70 (.agg #[.int .i64 a, .iface t u])]) ∧ ∀ y, InW y → ¬ Fr (insF y) ((bts s).drop p))
theorem iins_world {s : ByteArray} {r q : Nat} {w W : World} {o a n : Int} {t : ByteArray} (h : BX w r o a n t W) (hd : RS W r s q) (v0 v1 v2 v3 : Value) : RS ((((W.setCell ⟨w.heap.size, 0, none⟩ v0).setCell ⟨w.heap.size, 1, none⟩ v1).setCell ⟨w.heap.size, 2, none⟩ v2).setCell ⟨w.heap.size, 3, none⟩ v3) r s q ∧ w.grownBy ((((W.setCell ⟨w.heap.size, 0, none⟩ v0).setCell ⟨w.heap.size, 1, none⟩ v1).setCell ⟨w.heap.size, 2, none⟩ v2).setCell ⟨w.heap.size, 3, none⟩ v3) (some r) := by
 have hl := h.dl
 exact ⟨(((hd.setO (by omega) _ _).setO (by omega) _ _).setO (by omega) _ _).setO (by omega) _ _, grown_hi (grown_hi (grown_hi (grown_hi h.gr (Nat.le_refl _) _ _) (Nat.le_refl _) _ _) (Nat.le_refl _) _ _) (Nat.le_refl _) _ _⟩
theorem iins_bad {s : ByteArray} {r p q : Nat} {w W : World} {o a n : Int} {t : ByteArray} (h : BX w r o a n t W) (hd : RS W r s q) (h1 : p ≤ q) (h2 : q ≤ s.size) (hm : ∀ y, InW y → ¬ Fr (insF y) ((bts s).drop p)) (a9 : Int) (t9 : TypeId) (u9 v0 v1 v2 v3 : Value) :
  IInEnd s r p w (.returned (.tuple #[.agg #[.int .i64 o, .int .i64 a, .int .i64 n, .string t], .iface 70 (.agg #[.int .i64 a9, .iface t9 u9])])) ((((W.setCell ⟨w.heap.size, 0, none⟩ v0).setCell ⟨w.heap.size, 1, none⟩ v1).setCell ⟨w.heap.size, 2, none⟩ v2).setCell ⟨w.heap.size, 3, none⟩ v3) :=
 ⟨q, (iins_world h hd v0 v1 v2 v3).1, h1, h2, (iins_world h hd v0 v1 v2 v3).2, .inr ⟨⟨o, a, n, t⟩, a9, t9, u9, rfl, hm⟩⟩
theorem iins_ok {s : ByteArray} {r p q : Nat} {w W : World} {o a n : Int} {t : ByteArray} (h : BX w r o a n t W) (hd : RS W r s q) (h1 : p ≤ q) (h2 : q ≤ s.size) (hm : InW ⟨o, a, n, t⟩ ∧ q = p + (insF ⟨o, a, n, t⟩).length ∧ Fr (insF ⟨o, a, n, t⟩) ((bts s).drop p)) (v0 v1 v2 v3 : Value) :
  IInEnd s r p w (.returned (.tuple #[.agg #[.int .i64 o, .int .i64 a, .int .i64 n, .string t], .nilIface])) ((((W.setCell ⟨w.heap.size, 0, none⟩ v0).setCell ⟨w.heap.size, 1, none⟩ v1).setCell ⟨w.heap.size, 2, none⟩ v2).setCell ⟨w.heap.size, 3, none⟩ v3) :=
 ⟨q, (iins_world h hd v0 v1 v2 v3).1, h1, h2, (iins_world h hd v0 v1 v2 v3).2, .inl ⟨⟨o, a, n, t⟩, rfl, hm⟩⟩
theorem op_only {n1 : Nat} {y : In} {s : ByteArray} {p q1 : Nat} (hf : Fr (nb n1) ((bts s).drop p)) (hq : q1 = p + (nb n1).length) (hy : InW y) (hyf : Fr (insF y) ((bts s).drop p)) : y.op = n1 ∧ Fr (rsA y) ((bts s).drop q1) := by
 rw [insF_rs] at hyf
 have h5 := fr_at hyf
 have h6 : ((uOf y.op : Nat) : Int) = y.op := by have := hy.op; unfold uOf; omega
 have h7 := fr_nb hf h5.1
 rw [← h6, ← h7, hq, h7]
 exact ⟨rfl, h5.2⟩
theorem a_only {n1 n2 : Nat} {y : In} {s : ByteArray} {q1 q2 : Nat} (hh : hasA n1 = true) (ho : y.op = n1) (hr : Fr (rsA y) ((bts s).drop q1)) (hf : Fr (nb n2) ((bts s).drop q1)) (hq : q2 = q1 + (nb n2).length) (hy : InW y) : y.a = n2 ∧ Fr (rsB y) ((bts s).drop q2) := by
 unfold rsA at hr
 rw [ho, hh, if_pos rfl] at hr
 have h5 := fr_at hr
 have h6 : ((uOf y.a : Nat) : Int) = y.a := by have := hy.a; unfold uOf; omega
 have h7 := fr_nb hf h5.1
 rw [← h6, ← h7, hq, h7]
 exact ⟨rfl, h5.2⟩
theorem use_has {o : Nat} (h1 : 1 ≤ o) (h2 : o ≤ 16) : (useT o = 0 ↔ hasA (o : Int) = false) := by
 obtain rfl | rfl | rfl | rfl | rfl | rfl | rfl | rfl | rfl | rfl | rfl | rfl | rfl | rfl | rfl | rfl : o = 1 ∨ o = 2 ∨ o = 3 ∨ o = 4 ∨ o = 5 ∨ o = 6 ∨ o = 7 ∨ o = 8 ∨ o = 9 ∨ o = 10 ∨ o = 11 ∨ o = 12 ∨ o = 13 ∨ o = 14 ∨ o = 15 ∨ o = 16 := by omega
 all_goals decide
theorem uOf_wrap {m : Nat} {z : Int} (hm : m < 18446744073709551616) (hz : IntKind.i64.wrap (m : Int) = z) : uOf z = m ∧ -9223372036854775808 ≤ z ∧ z < 9223372036854775808 := by
 rw [IntKind.wrap_i64] at hz
 subst hz
 unfold uOf
 refine ⟨?_, by omega, by omega⟩
 omega
theorem ok_text {o a : Int} {tx : ByteArray} (ho : o = 1) (ha : a = 2) (ht : tx.size ≤ 200000) : InW ⟨o, a, 0, tx⟩ ∧ insF ⟨o, a, 0, tx⟩ = nb 1 ++ nb 2 ++ tb tx := by
 subst ho ha
 refine ⟨⟨⟨by dsimp only; omega, by dsimp only; omega⟩, ⟨by dsimp only; omega, by dsimp only; omega⟩, fun h => (by cases h), fun _ _ => rfl, fun h => absurd ⟨rfl, rfl⟩ h, fun h => absurd rfl h, ht, ⟨by dsimp only; omega, by dsimp only; omega⟩⟩, ?_⟩
 rw [insF_rs, List.append_assoc]
 rfl
theorem ok_num {o z : Int} {n2 m : Nat} (ho : o = 1) (hn : n2 ≤ 200000) (ha : ¬ n2 = 2) (hz : uOf z = m ∧ -9223372036854775808 ≤ z ∧ z < 9223372036854775808) : InW ⟨o, (n2 : Int), z, ⟨#[]⟩⟩ ∧ insF ⟨o, (n2 : Int), z, ⟨#[]⟩⟩ = nb 1 ++ nb n2 ++ nb m := by
 subst ho
 have h2 : ¬ (n2 : Int) = 2 := by omega
 refine ⟨⟨⟨by dsimp only; omega, by dsimp only; omega⟩, ⟨Int.natCast_nonneg n2, by show (n2 : Int) ≤ ((200000 : Nat) : Int); omega⟩, fun h => (by cases h), fun _ h => absurd h h2, fun _ => rfl, fun h => absurd rfl h, Nat.zero_le _, hz.2⟩, ?_⟩
 have e : rsB ⟨1, (n2 : Int), z, ⟨#[]⟩⟩ = nb m := by
  unfold rsB
  rw [if_pos rfl, if_neg h2, hz.1]
 have e2 : rsA ⟨1, (n2 : Int), z, ⟨#[]⟩⟩ = nb (uOf (n2 : Int)) ++ rsB ⟨1, (n2 : Int), z, ⟨#[]⟩⟩ := rfl
 rw [insF_rs, e2, e, uOf_nat n2 hn, List.append_assoc]
 rfl
theorem ok_a {n1 n2 : Nat} (h1 : 1 ≤ n1 ∧ n1 ≤ 16) (ho : ¬ n1 = 1) (hn : n2 ≤ 200000) (hA : hasA (n1 : Int) = true) : InW ⟨(n1 : Int), (n2 : Int), 0, ⟨#[]⟩⟩ ∧ insF ⟨(n1 : Int), (n2 : Int), 0, ⟨#[]⟩⟩ = nb n1 ++ nb n2 := by
 have h2 : ¬ (n1 : Int) = 1 := by omega
 refine ⟨⟨⟨by show (1 : Int) ≤ (n1 : Int); omega, by show (n1 : Int) ≤ 16; omega⟩, ⟨Int.natCast_nonneg n2, by show (n2 : Int) ≤ ((200000 : Nat) : Int); omega⟩, fun h => (by rw [hA] at h; cases h), fun _ _ => rfl, fun _ => rfl, fun _ => rfl, Nat.zero_le _, ⟨by dsimp only; omega, by dsimp only; omega⟩⟩, ?_⟩
 have e : rsB ⟨(n1 : Int), (n2 : Int), 0, ⟨#[]⟩⟩ = [] := by
  unfold rsB
  rw [if_neg h2]
 have e2 : rsA ⟨(n1 : Int), (n2 : Int), 0, ⟨#[]⟩⟩ = nb n2 := by
  unfold rsA
  rw [hA, if_pos rfl, e, uOf_nat n2 hn, List.append_nil]
 rw [insF_rs, e2, uOf_nat n1 (by omega)]
theorem ok_op {n1 : Nat} (h1 : 1 ≤ n1 ∧ n1 ≤ 16) (hA : hasA (n1 : Int) = false) : InW ⟨(n1 : Int), 0, 0, ⟨#[]⟩⟩ ∧ insF ⟨(n1 : Int), 0, 0, ⟨#[]⟩⟩ = nb n1 := by
 have h2 : ¬ (n1 : Int) = 1 := fun e => by rw [e] at hA; cases hA
 refine ⟨⟨⟨by show (1 : Int) ≤ (n1 : Int); omega, by show (n1 : Int) ≤ 16; omega⟩, ⟨by dsimp only; omega, by dsimp only; omega⟩, fun _ => rfl, fun _ _ => rfl, fun _ => rfl, fun _ => rfl, Nat.zero_le _, ⟨by dsimp only; omega, by dsimp only; omega⟩⟩, ?_⟩
 have e : rsB ⟨(n1 : Int), 0, 0, ⟨#[]⟩⟩ = [] := by
  unfold rsB
  rw [if_neg h2]
 have e2 : rsA ⟨(n1 : Int), 0, 0, ⟨#[]⟩⟩ = [] := by
  unfold rsA
  rw [hA, e]
  rfl
 rw [insF_rs, e2, uOf_nat n1 (by omega), List.append_nil]
theorem join3 {a b c : List UInt8} {s : ByteArray} {p q1 q3 q5 : Nat} (h1 : Fr a ((bts s).drop p)) (e1 : q1 = p + a.length) (h2 : Fr b ((bts s).drop q1)) (e2 : q3 = q1 + b.length) (h3 : Fr c ((bts s).drop q3)) (e3 : q5 = q3 + c.length) : q5 = p + (a ++ b ++ c).length ∧ Fr (a ++ b ++ c) ((bts s).drop p) :=
 ⟨by rw [List.length_append, List.length_append]; omega, fr_join (fr_join h1 e1 h2) (by rw [List.length_append]; omega) h3⟩
theorem join2 {a b : List UInt8} {s : ByteArray} {p q1 q3 : Nat} (h1 : Fr a ((bts s).drop p)) (e1 : q1 = p + a.length) (h2 : Fr b ((bts s).drop q1)) (e2 : q3 = q1 + b.length) : q3 = p + (a ++ b).length ∧ Fr (a ++ b) ((bts s).drop p) :=
 ⟨by rw [List.length_append]; omega, fr_join h1 e1 h2⟩
set_option maxHeartbeats 8000000 in
theorem iIns_any {s : ByteArray} {r p : Nat} {w : World} (h : RS w r s p) (hev : EnvF w) (hf : FarG r) (hp : p ≤ s.size) (hs : s.size ≤ 200000) :
  Calls Tryz.prog 81 #[.pointer (some ⟨r, 0, none⟩)] w (IInEnd s r p w) := by
 have HB0 : Hid (Below w.heap.size w (w.alloc (rbox 0 0 0 ⟨#[]⟩))) := hid ((Below.refl _ _).alloc (Nat.le_refl _) _)
 have HX0 : Hid (BX w r 0 0 0 ⟨#[]⟩ (w.alloc (rbox 0 0 0 ⟨#[]⟩))) := hid ⟨grown_of r HB0.out, heap_alloc_new _ _, lt_hp h⟩
 have HEV := hid (hev.next HB0.out)
 have HF := hid hf
 have HN := hid (iSize_any (h.next HB0.out) HEV.out hf hp hs)
 have HRL := hid (lt_hp h)
 clear h hev hf
 obtain ⟨W0, hW0⟩ : ∃ W, w.alloc (rbox 0 0 0 ⟨#[]⟩) = W := ⟨_, rfl⟩
 rw [hW0] at HX0 HEV HN
 unfold rbox at hW0
 go_enter Tryz.func81, Tryz.ntmps81
 go_wp2_with fail
 clear hW0 HB0
 refine HN.out.mono ?_
 rintro e w1 ⟨q1, hd1, h11, h12, hg1, hc1⟩
 have HD1 := hid hd1
 have HX1 := hid (HX0.out.grow hg1)
 have HE1 := hid (HEV.out.grow hg1 HF.out)
 have HLT : Hid (¬ r = w.heap.size) := hid (by have := HX1.out.dl; omega)
 clear hd1 hg1 HN HX0 HEV
 obtain ⟨c0, c1, c2, c3⟩ := rbox_c HX1.out.e
 obtain ⟨f0, f1, f2, f3⟩ := rbox_f HX1.out.e
 rcases hc1 with ⟨n1, rfl, hn1, hq1, hfr1⟩ | ⟨m1, a9, t9, u9, rfl, hno1⟩
 ·have HQ1 := hid hq1
  have HFR1 := hid hfr1
  clear hq1 hfr1
  go_upto_region 2 with fail
  have HX2 := hid (HX1.out.set0 (n1 : Int))
  have HD2 := hid (HD1.out.setO HLT.out 0 (.int .i64 (n1 : Int)))
  have HE2 := hid (HE1.out.set HF.out (Nat.le_of_lt HRL.out) 0 (.int .i64 (n1 : Int)))
  obtain ⟨W2, hW2⟩ : ∃ W, w1.setCell ⟨w.heap.size, 0, none⟩ (.int .i64 (n1 : Int)) = W := ⟨_, rfl⟩
  rw [hW2] at HX2 HD2 HE2 ⊢
  clear hW2 c0 c1 c2 c3 f0 f1 f2 f3 HX1 HD1 HE1
  obtain ⟨c0, c1, c2, c3⟩ := rbox_c HX2.out.e
  obtain ⟨f0, f1, f2, f3⟩ := rbox_f HX2.out.e
  by_cases hin : 1 ≤ n1 ∧ n1 ≤ 16
  ·have hb : (decide (1 ≤ (n1 : Int)) && decide ((n1 : Int) ≤ 16)) = true := by simp; omega
   have hoi : (n1 : Int) < 17 := by omega
   have hon : n1 < 17 := by omega
   have r0 := HE2.out.use n1 hin.1 hin.2
   have hu := use_has hin.1 hin.2
   go_upto_region 4 with (go_at_call 106; refine (isIns_any _ _).mono ?_; rw [hb]; rintro e w' ⟨rfl, hw⟩; have hw2 := hw.symm; clear hw; subst hw2)
   obtain ⟨y, hy⟩ : ∃ y, useT n1 = y := ⟨_, rfl⟩
   rw [hy] at r0 hu
   clear hy hb
   by_cases hA : hasA (n1 : Int) = true
   ·have hu0 : (y != 0) = true := by
     have : ¬ y = 0 := fun e => by rw [hu.1 e] at hA; cases hA
     simpa using this
    have hu1 : (y == 0) = false := by simpa using hu0
    have HN2 := hid (iSize_any HD2.out HE2.out HF.out h12 hs)
    go_wp2_with fail
    refine HN2.out.mono ?_
    rintro e w3 ⟨q3, hd3, h31, h32, hg3, hc3⟩
    have HD3 := hid hd3
    have HX3 := hid (HX2.out.grow hg3)
    have HE3 := hid (HE2.out.grow hg3 HF.out)
    clear hd3 hg3 HN2 HX2 HD2 HE2 c0 c1 c2 c3 f0 f1 f2 f3 r0 hu hu0 hu1
    obtain ⟨c0, c1, c2, c3⟩ := rbox_c HX3.out.e
    obtain ⟨f0, f1, f2, f3⟩ := rbox_f HX3.out.e
    rcases hc3 with ⟨n2, rfl, hn2, hq3, hfr3⟩ | ⟨m2, a9, t9, u9, rfl, hno3⟩
    ·have HQ3 := hid hq3
     have HFR3 := hid hfr3
     clear hq3 hfr3
     go_upto_region 6 with fail
     have HX4 := hid (HX3.out.set1 (n2 : Int))
     have HD4 := hid (HD3.out.setO HLT.out 1 (.int .i64 (n2 : Int)))
     have HE4 := hid (HE3.out.set HF.out (Nat.le_of_lt HRL.out) 1 (.int .i64 (n2 : Int)))
     obtain ⟨W4, hW4⟩ : ∃ W, w3.setCell ⟨w.heap.size, 1, none⟩ (.int .i64 (n2 : Int)) = W := ⟨_, rfl⟩
     rw [hW4] at HX4 HD4 HE4 ⊢
     clear hW4 c0 c1 c2 c3 f0 f1 f2 f3 HX3 HD3 HE3
     obtain ⟨c0, c1, c2, c3⟩ := rbox_c HX4.out.e
     obtain ⟨f0, f1, f2, f3⟩ := rbox_f HX4.out.e
     by_cases ho : n1 = 1
     ·subst ho
      by_cases ha : n2 = 2
      ·subst ha
       have HTX := hid (iText_any HD4.out HE4.out HF.out h32 hs)
       go_wp2_with fail
       refine HTX.out.mono ?_
       rintro e w5 ⟨q5, hd5, h51, h52, hg5, hc5⟩
       have HD5 := hid hd5
       have HX5 := hid (HX4.out.grow hg5)
       clear hd5 hg5 HTX HX4 HD4 HE4 c0 c1 c2 c3 f0 f1 f2 f3
       obtain ⟨c0, c1, c2, c3⟩ := rbox_c HX5.out.e
       obtain ⟨f0, f1, f2, f3⟩ := rbox_f HX5.out.e
       rcases hc5 with ⟨tx, rfl, htx, hq5, hfr5⟩ | ⟨tx, a9, t9, u9, rfl, hno5⟩
       ·have HOK : Hid (InW ⟨((1 : Nat) : Int), ((2 : Nat) : Int), 0, tx⟩ ∧ q5 = p + (insF ⟨((1 : Nat) : Int), ((2 : Nat) : Int), 0, tx⟩).length ∧ Fr (insF ⟨((1 : Nat) : Int), ((2 : Nat) : Int), 0, tx⟩) ((bts s).drop p)) := hid (by rw [(ok_text (o := ((1 : Nat) : Int)) (a := ((2 : Nat) : Int)) rfl rfl htx).2]; exact ⟨(ok_text (o := ((1 : Nat) : Int)) (a := ((2 : Nat) : Int)) rfl rfl htx).1, join3 HFR1.out HQ1.out HFR3.out HQ3.out hfr5 hq5⟩)
        clear hq5 hfr5
        go_upto_region 10 with fail
        have HX6 := hid (HX5.out.set3 tx)
        have HD6 := hid (HD5.out.setO HLT.out 3 (.string tx))
        obtain ⟨W6, hW6⟩ : ∃ W, w5.setCell ⟨w.heap.size, 3, none⟩ (.string tx) = W := ⟨_, rfl⟩
        rw [hW6] at HX6 HD6 ⊢
        clear hW6 c0 c1 c2 c3 f0 f1 f2 f3 HX5 HD5
        obtain ⟨c0, c1, c2, c3⟩ := rbox_c HX6.out.e
        obtain ⟨f0, f1, f2, f3⟩ := rbox_f HX6.out.e
        go_wp2
        exact bodyPost_ret (v := .tuple #[.agg #[.int .i64 ((1 : Nat) : Int), .int .i64 ((2 : Nat) : Int), .int .i64 0, .string tx], .nilIface]) (by simp [results, Tryz.results81, go_sem, c0, c1, c2, c3]) rfl (iins_ok HX6.out HD6.out (by omega) h52 HOK.out _ _ _ _)
       ·have HNO : Hid (∀ y, InW y → ¬ Fr (insF y) ((bts s).drop p)) := hid fun y hy hyf => by
         obtain ⟨e1, e2⟩ := op_only HFR1.out HQ1.out hy hyf
         obtain ⟨e3, e4⟩ := a_only rfl e1 e2 HFR3.out HQ3.out hy
         unfold rsB at e4
         rw [if_pos (show y.op = 1 from e1), if_pos (show y.a = 2 from e3)] at e4
         exact hno5 y.text hy.t e4
        clear hno5
        go_upto_region 10 with fail
        have HX6 := hid (HX5.out.set3 tx)
        have HD6 := hid (HD5.out.setO HLT.out 3 (.string tx))
        obtain ⟨W6, hW6⟩ : ∃ W, w5.setCell ⟨w.heap.size, 3, none⟩ (.string tx) = W := ⟨_, rfl⟩
        rw [hW6] at HX6 HD6 ⊢
        clear hW6 c0 c1 c2 c3 f0 f1 f2 f3 HX5 HD5
        obtain ⟨c0, c1, c2, c3⟩ := rbox_c HX6.out.e
        obtain ⟨f0, f1, f2, f3⟩ := rbox_f HX6.out.e
        go_wp2
        exact bodyPost_ret (v := .tuple #[.agg #[.int .i64 ((1 : Nat) : Int), .int .i64 ((2 : Nat) : Int), .int .i64 0, .string tx], .iface 70 (.agg #[.int .i64 a9, .iface t9 u9])]) (by simp [results, Tryz.results81, go_sem, c0, c1, c2, c3]) rfl (iins_bad HX6.out HD6.out (by omega) h52 HNO.out _ _ _ _ _ _ _)
      ·have hab : ((n2 : Int) == 2) = false := by simp; omega
       have HTX := hid (iNum_any HD4.out HE4.out HF.out h32 hs)
       go_wp2_with fail
       refine HTX.out.mono ?_
       rintro e w5 ⟨q5, hd5, h51, h52, hg5, hc5⟩
       have HD5 := hid hd5
       have HX5 := hid (HX4.out.grow hg5)
       clear hd5 hg5 HTX HX4 HD4 HE4 c0 c1 c2 c3 f0 f1 f2 f3
       obtain ⟨c0, c1, c2, c3⟩ := rbox_c HX5.out.e
       obtain ⟨f0, f1, f2, f3⟩ := rbox_f HX5.out.e
       rcases hc5 with ⟨m5, rfl, hm5, hq5, hfr5⟩ | ⟨v5, rfl, ⟨a9, t9, u9, rfl⟩, hno5⟩
       ·obtain ⟨z, hz⟩ : ∃ z : Int, IntKind.i64.wrap (m5 : Int) = z := ⟨_, rfl⟩
        have HZ : Hid (uOf z = m5 ∧ -9223372036854775808 ≤ z ∧ z < 9223372036854775808) := hid (uOf_wrap hm5 hz)
        have HOK : Hid (InW ⟨((1 : Nat) : Int), (n2 : Int), z, ⟨#[]⟩⟩ ∧ q5 = p + (insF ⟨((1 : Nat) : Int), (n2 : Int), z, ⟨#[]⟩⟩).length ∧ Fr (insF ⟨((1 : Nat) : Int), (n2 : Int), z, ⟨#[]⟩⟩) ((bts s).drop p)) := hid (by rw [(ok_num (o := ((1 : Nat) : Int)) rfl hn2 ha HZ.out).2]; exact ⟨(ok_num (o := ((1 : Nat) : Int)) rfl hn2 ha HZ.out).1, join3 HFR1.out HQ1.out HFR3.out HQ3.out hfr5 hq5⟩)
        clear hq5 hfr5
        go_upto_region 13 with fail
        have HX6 := hid (HX5.out.set2 z)
        have HD6 := hid (HD5.out.setO HLT.out 2 (.int .i64 z))
        obtain ⟨W6, hW6⟩ : ∃ W, w5.setCell ⟨w.heap.size, 2, none⟩ (.int .i64 z) = W := ⟨_, rfl⟩
        rw [hW6] at HX6 HD6 ⊢
        clear hW6 c0 c1 c2 c3 f0 f1 f2 f3 HX5 HD5 hz
        obtain ⟨c0, c1, c2, c3⟩ := rbox_c HX6.out.e
        obtain ⟨f0, f1, f2, f3⟩ := rbox_f HX6.out.e
        go_wp2
        exact bodyPost_ret (v := .tuple #[.agg #[.int .i64 ((1 : Nat) : Int), .int .i64 (n2 : Int), .int .i64 z, .string ⟨#[]⟩], .nilIface]) (by simp [results, Tryz.results81, go_sem, c0, c1, c2, c3]) rfl (iins_ok HX6.out HD6.out (by omega) h52 HOK.out _ _ _ _)
       ·have HNO : Hid (∀ y, InW y → ¬ Fr (insF y) ((bts s).drop p)) := hid fun y hy hyf => by
         obtain ⟨e1, e2⟩ := op_only HFR1.out HQ1.out hy hyf
         obtain ⟨e3, e4⟩ := a_only rfl e1 e2 HFR3.out HQ3.out hy
         unfold rsB at e4
         rw [if_pos (show y.op = 1 from e1), if_neg (by rw [e3]; omega)] at e4
         exact hno5 (uOf y.n) (u64_lt _) e4
        clear hno5
        go_upto_region 13 with fail
        have HX6 := hid (HX5.out.set2 0)
        have HD6 := hid (HD5.out.setO HLT.out 2 (.int .i64 0))
        obtain ⟨W6, hW6⟩ : ∃ W, w5.setCell ⟨w.heap.size, 2, none⟩ (.int .i64 0) = W := ⟨_, rfl⟩
        rw [hW6] at HX6 HD6 ⊢
        clear hW6 c0 c1 c2 c3 f0 f1 f2 f3 HX5 HD5
        obtain ⟨c0, c1, c2, c3⟩ := rbox_c HX6.out.e
        obtain ⟨f0, f1, f2, f3⟩ := rbox_f HX6.out.e
        go_wp2
        exact bodyPost_ret (v := .tuple #[.agg #[.int .i64 ((1 : Nat) : Int), .int .i64 (n2 : Int), .int .i64 0, .string ⟨#[]⟩], .iface 70 (.agg #[.int .i64 a9, .iface t9 u9])]) (by simp [results, Tryz.results81, go_sem, c0, c1, c2, c3]) rfl (iins_bad HX6.out HD6.out (by omega) h52 HNO.out _ _ _ _ _ _ _)
     ·have hob : ((n1 : Int) != 1) = true := by simp; omega
      have hob1 : ((n1 : Int) == 1) = false := by simp; omega
      have HOK : Hid (InW ⟨(n1 : Int), (n2 : Int), 0, ⟨#[]⟩⟩ ∧ q3 = p + (insF ⟨(n1 : Int), (n2 : Int), 0, ⟨#[]⟩⟩).length ∧ Fr (insF ⟨(n1 : Int), (n2 : Int), 0, ⟨#[]⟩⟩) ((bts s).drop p)) := hid (by rw [(ok_a hin ho hn2 hA).2]; exact ⟨(ok_a hin ho hn2 hA).1, join2 HFR1.out HQ1.out HFR3.out HQ3.out⟩)
      go_wp2
      exact bodyPost_ret (v := .tuple #[.agg #[.int .i64 (n1 : Int), .int .i64 (n2 : Int), .int .i64 0, .string ⟨#[]⟩], .nilIface]) (by simp [results, Tryz.results81, go_sem, c0, c1, c2, c3]) rfl (iins_ok HX4.out HD4.out (by omega) h32 HOK.out _ _ _ _)
    ·have HNO : Hid (∀ y, InW y → ¬ Fr (insF y) ((bts s).drop p)) := hid fun y hy hyf => by
      obtain ⟨e1, e2⟩ := op_only HFR1.out HQ1.out hy hyf
      unfold rsA at e2
      rw [e1, hA, if_pos rfl] at e2
      exact hno3 (uOf y.a) (by have := hy.a; unfold uOf; omega) (fr_at e2).1
     clear hno3
     go_upto_region 6 with fail
     have HX4 := hid (HX3.out.set1 m2)
     have HD4 := hid (HD3.out.setO HLT.out 1 (.int .i64 m2))
     obtain ⟨W4, hW4⟩ : ∃ W, w3.setCell ⟨w.heap.size, 1, none⟩ (.int .i64 m2) = W := ⟨_, rfl⟩
     rw [hW4] at HX4 HD4 ⊢
     clear hW4 c0 c1 c2 c3 f0 f1 f2 f3 HX3 HD3 HE3
     obtain ⟨c0, c1, c2, c3⟩ := rbox_c HX4.out.e
     obtain ⟨f0, f1, f2, f3⟩ := rbox_f HX4.out.e
     go_wp2
     exact bodyPost_ret (v := .tuple #[.agg #[.int .i64 (n1 : Int), .int .i64 m2, .int .i64 0, .string ⟨#[]⟩], .iface 70 (.agg #[.int .i64 a9, .iface t9 u9])]) (by simp [results, Tryz.results81, go_sem, c0, c1, c2, c3]) rfl (iins_bad HX4.out HD4.out (by omega) h32 HNO.out _ _ _ _ _ _ _)
   ·have hA2 : hasA (n1 : Int) = false := by simpa using hA
    have hu0 : y = 0 := hu.2 hA2
    subst hu0
    have hne : ¬ n1 = 1 := fun e => by subst e; cases hA2
    have hob : ((n1 : Int) != 1) = true := by simp; omega
    have hob1 : ((n1 : Int) == 1) = false := by simp; omega
    have HOK : Hid (InW ⟨(n1 : Int), 0, 0, ⟨#[]⟩⟩ ∧ q1 = p + (insF ⟨(n1 : Int), 0, 0, ⟨#[]⟩⟩).length ∧ Fr (insF ⟨(n1 : Int), 0, 0, ⟨#[]⟩⟩) ((bts s).drop p)) := hid (by rw [(ok_op hin hA2).2]; exact ⟨(ok_op hin hA2).1, HQ1.out, HFR1.out⟩)
    clear hu
    go_wp2
    exact bodyPost_ret (v := .tuple #[.agg #[.int .i64 (n1 : Int), .int .i64 0, .int .i64 0, .string ⟨#[]⟩], .nilIface]) (by simp [results, Tryz.results81, go_sem, c0, c1, c2, c3]) rfl (iins_ok HX2.out HD2.out h11 h12 HOK.out _ _ _ _)
  ·have hb : (decide (1 ≤ (n1 : Int)) && decide ((n1 : Int) ≤ 16)) = false := by simp; omega
   have HNO : Hid (∀ y, InW y → ¬ Fr (insF y) ((bts s).drop p)) := hid fun y hy hyf => by
    obtain ⟨e1, e2⟩ := op_only HFR1.out HQ1.out hy hyf
    have := hy.op
    omega
   obtain ⟨t9, u9, ce⟩ := HE2.out.number
   have HFL := hid (flaw_any HD2.out t9 u9)
   go_upto_region 3 with (go_at_call 106; refine (isIns_any _ _).mono ?_; rw [hb]; rintro e w' ⟨rfl, hw⟩; have hw2 := hw.symm; clear hw; subst hw2)
   go_wp2_with fail
   refine HFL.out.mono ?_
   rintro e w3 ⟨rfl, hw⟩
   have hw2 := hw.symm
   clear hw
   subst hw2
   go_wp2
   exact bodyPost_ret (v := .tuple #[.agg #[.int .i64 (n1 : Int), .int .i64 0, .int .i64 0, .string ⟨#[]⟩], .iface 70 (.agg #[.int .i64 (q1 : Int), .iface t9 u9])]) (by simp [results, Tryz.results81, go_sem, c0, c1, c2, c3]) rfl (iins_bad HX2.out HD2.out h11 h12 HNO.out _ _ _ _ _ _ _)
 ·have HNO : Hid (∀ y, InW y → ¬ Fr (insF y) ((bts s).drop p)) := hid fun y hy hyf => by
   rw [insF_rs] at hyf
   exact hno1 (uOf y.op) (by have := hy.op; unfold uOf; omega) (fr_at hyf).1
  clear hno1
  go_upto_region 2 with fail
  have HX2 := hid (HX1.out.set0 m1)
  have HD2 := hid (HD1.out.setO HLT.out 0 (.int .i64 m1))
  obtain ⟨W2, hW2⟩ : ∃ W, w1.setCell ⟨w.heap.size, 0, none⟩ (.int .i64 m1) = W := ⟨_, rfl⟩
  rw [hW2] at HX2 HD2 ⊢
  clear hW2 c0 c1 c2 c3 f0 f1 f2 f3 HX1 HD1 HE1
  obtain ⟨c0, c1, c2, c3⟩ := rbox_c HX2.out.e
  obtain ⟨f0, f1, f2, f3⟩ := rbox_f HX2.out.e
  go_wp2
  exact bodyPost_ret (v := .tuple #[.agg #[.int .i64 m1, .int .i64 0, .int .i64 0, .string ⟨#[]⟩], .iface 70 (.agg #[.int .i64 a9, .iface t9 u9])]) (by simp [results, Tryz.results81, go_sem, c0, c1, c2, c3]) rfl (iins_bad HX2.out HD2.out h11 h12 HNO.out _ _ _ _ _ _ _)
end Go.Proofs.YtcjgcipacfcjnaaGreatDoor.C.D
