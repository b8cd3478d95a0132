import Derived.Test.YtcjgcipacfcjnaaGreatDoorJ27
import Derived.Test.YtcjgcipacfcjnaaGreatDoorJ13
namespace Go.Proofs.YtcjgcipacfcjnaaGreatDoor.C
open Go.RowKit
set_option maxRecDepth 20000
theorem FnsRow.part {W : World} {ad : Option Addr} {c : Nat} {fns : List Fn} (h : FnsRow W (.slice ad fns.length c) fns) {k : Nat} (hk : k ≤ fns.length) : FnsRow W (.slice ad k c) (fns.take k) := by
 obtain ⟨ad', c', e, h1, h2, h3⟩ := h
 injection e with ea _ ec
 subst ea ec
 have hl : (fns.take k).length = k := by simp; omega
 refine ⟨ad, c, by rw [hl], by omega, h2, ?_⟩
 rcases h3 with h3 | ⟨g, e1, e2, e3⟩
 ·left; rw [h3]; simp
 ·refine .inr ⟨g, e1, e2, fun i hi => ?_⟩
  have hi2 : i < k := by omega
  have eg : (fns.take k).getD i fn0 = fns.getD i fn0 := by
   rw [List.getD_eq_getElem?_getD, List.getD_eq_getElem?_getD, List.getElem?_take_of_lt hi2]
  rw [eg]
  exact e3 i (by omega)
set_option maxHeartbeats 1000000 in
theorem isMain_any {f : Fn} {aP : Option Addr} {cP : Nat} {iv : Value} (w : World) :
  Calls Tryz.prog 99 #[.agg #[.string f.name, .slice aP f.params.length cP, .int .i64 f.result, .int .i64 f.slots, iv]] w fun e w' => Q.Says e (isMain f) ∧ Below w.heap.size w w' := by
 have HLO : Hid (∀ o, Below w.heap.size w (w.alloc o)) := hid fun o => (Below.refl _ _).alloc (Nat.le_refl _) _
 by_cases hnm : f.name = ⟨#[109, 97, 105, 110]⟩
 ·have hnf : (f.name.toList == (⟨#[109, 97, 105, 110]⟩ : ByteArray).toList) = true := str_eq.2 hnm
  have HNM := hid hnm
  rw [hnm]
  clear hnm hnf
  by_cases hp0 : f.params.length = 0
  ·have HP0 := hid hp0
   rw [hp0]
   clear hp0
   by_cases hr : f.result = 2
   ·rw [hr]
    have HR := hid hr
    clear hr
    go_enter Tryz.func99, Tryz.ntmps99
    go_wp2_with fail
    go_ret
    exact ⟨Q.says_t ⟨HNM.out, HP0.out, HR.out⟩, HLO.out _⟩
   ·have HR := hid hr
    have hrf : (f.result == 2) = false := by simpa using hr
    clear hr
    go_enter Tryz.func99, Tryz.ntmps99
    go_wp2_with fail
    go_ret
    exact ⟨Q.says_f fun h => HR.out h.2.2, HLO.out _⟩
  ·have HP0 := hid hp0
   have hpf : ((f.params.length : Int) == 0) = false := by simp; intro h; rw [h] at hp0; exact hp0 rfl
   clear hp0
   go_enter Tryz.func99, Tryz.ntmps99
   go_wp2_with fail
   go_ret
   exact ⟨Q.says_f fun h => HP0.out h.2.1, HLO.out _⟩
 ·have HNM := hid hnm
  have hnf : ¬ f.name.toList = [109, 97, 105, 110] := fun h => hnm (str_eq.1 (by rw [beq_iff_eq, h, Lib.toList_data]))
  clear hnm
  go_enter Tryz.func99, Tryz.ntmps99
  go_wp2_with fail
  go_ret
  exact ⟨Q.says_f fun h => HNM.out h.1, HLO.out _⟩
def IxEnd (n : Nat) (P : Nat → Prop) (w : World) (e : Ending) (w' : World) : Prop := ∃ r : Int, e = .returned (.int .i64 r) ∧ (0 ≤ r ↔ ∃ j, j < n ∧ P j) ∧ Below w.heap.size w w'
set_option maxHeartbeats 2000000 in
theorem idxMain_any {fns : List Fn} {w : World} {cv : Value} (h1 : FnsRow w cv fns) (hl : fns.length ≤ 60) :
  Calls Tryz.prog 121 #[cv, .func (.func 99) #[] #[]] w (IxEnd fns.length (fun j => isMain (fns.getD j fn0)) w) := by
 have H1 := hid h1
 obtain ⟨aF, cF, rfl⟩ := h1.sl
 clear h1
 go_enter Tryz.func121, Tryz.ntmps121
 go_wp2_with fail
 go_loopw [8] (fun i wr => ∃ j : Nat, j ≤ fns.length ∧ i = .int .i64 j ∧ Below w.heap.size w wr ∧ ∀ p, p < j → ¬ isMain (fns.getD p fn0)) (fun i _ => fns.length - (intOf i).toNat)
 case atStart => exact ⟨0, Nat.zero_le _, rfl, Below.refl _ _, fun p hp => absurd hp (Nat.not_lt_zero _)⟩
 case round =>
  obtain ⟨j, hj, rfl, hlo, hall⟩ := hrel
  have HLO := hid hlo
  have HALL := hid hall
  clear hlo hall
  by_cases hlt : j < fns.length
  ·have hlti : (j : Int) < (fns.length : Int) := by omega
   obtain ⟨gF2, cF2, e9, _, pv, iv, n0, n1, n2, n3, n4, hpv, _⟩ := (H1.out.next HLO.out).at hlt
   injection e9 with ea en ec
   clear en
   subst ea ec
   obtain ⟨aP, cP, rfl⟩ := hpv.sl
   obtain ⟨f, hf⟩ : ∃ f, fns.getD j fn0 = f := ⟨_, rfl⟩
   rw [hf] at n0 n1 n2 n3
   have HFE := hid hf
   clear hf hpv
   have HIM := hid (isMain_any (f := f) (aP := aP) (cP := cP) (iv := iv) wr)
   have HNO : Hid (¬ isMain f → ∀ p, p < j + 1 → ¬ isMain (fns.getD p fn0)) := hid fun h p hp => by
    by_cases e : p = j
    ·subst e; rw [HFE.out]; exact h
    ·exact HALL.out p (by omega)
   by_cases hm : isMain f
   ·have HT : Hid (Calls Tryz.prog 99 #[.agg #[.string f.name, .slice aP f.params.length cP, .int .i64 f.result, .int .i64 f.slots, iv]] wr fun e w' => e = .returned (.bool true) ∧ Below wr.heap.size wr w') := hid (HIM.out.mono fun e w' h => ⟨by obtain ⟨⟨x, e1, hx⟩, _⟩ := h; rw [e1, hx.2 hm], h.2⟩)
    have HX := hid hm
    clear hm
    go_wp2_with (go_at_call 99; refine HT.out.mono ?_; rintro e w2 ⟨rfl, hb2⟩; have HB := hid (HLO.out.trans (hb2.mono HLO.out.size)); clear hb2)
    go_ret
    exact ⟨j, rfl, ⟨fun _ => ⟨j, hlt, by show isMain (fns.getD j fn0); rw [HFE.out]; exact HX.out⟩, fun _ => by omega⟩, HB.out⟩
   ·have HT : Hid (Calls Tryz.prog 99 #[.agg #[.string f.name, .slice aP f.params.length cP, .int .i64 f.result, .int .i64 f.slots, iv]] wr fun e w' => e = .returned (.bool false) ∧ Below wr.heap.size wr w') := hid (HIM.out.mono fun e w' h => ⟨by obtain ⟨⟨x, e1, hx⟩, _⟩ := h; rw [e1]; cases x with | false => rfl | true => exact absurd (hx.1 rfl) hm, h.2⟩)
    have HX := hid hm
    clear hm
    go_wp2_with (go_at_call 99; refine HT.out.mono ?_; rintro e w2 ⟨rfl, hb2⟩; have HB := hid (HLO.out.trans (hb2.mono HLO.out.size)); clear hb2)
    go_roundw
    case rel => exact ⟨j + 1, by omega, by go_num, HB.out, HNO.out HX.out⟩
    case measure => simp [intOf]; omega
  ·obtain rfl : j = fns.length := by omega
   have hge : ¬ ((fns.length : Int) < (fns.length : Int)) := by omega
   go_wp2_with fail
   go_ret
   exact ⟨-1, rfl, ⟨fun h => absurd h (by omega), fun ⟨j, h1, h2⟩ => absurd h2 (HALL.out j h1)⟩, HLO.out⟩
set_option maxHeartbeats 2000000 in
theorem hasMain_any {fns : List Fn} {w : World} {cv : Value} (h1 : FnsRow w cv fns) (hl : fns.length ≤ 60) :
  Calls Tryz.prog 98 #[cv, .func (.func 99) #[] #[]] w fun e w' => Q.Says e (∃ j, j < fns.length ∧ isMain (fns.getD j fn0)) ∧ Below w.heap.size w w' := by
 have H := hid (idxMain_any h1 hl)
 obtain ⟨aF, cF, rfl⟩ := h1.sl
 clear h1
 go_enter Tryz.func98, Tryz.ntmps98
 go_wp2_with (go_at_call 121; refine H.out.mono ?_; rintro e w' ⟨r, rfl, hr, hb⟩; have HR := hid hr; clear hr)
 go_ret
 exact ⟨⟨_, rfl, by rw [← HR.out]; simp⟩, hb⟩
set_option maxHeartbeats 2000000 in
theorem idxName_any {fns : List Fn} {w : World} {cv : Value} {tb : Nat} {s : ByteArray} (h1 : FnsRow w cv fns) (hl : fns.length ≤ 60) (ht : w.cell? ⟨tb, 0, none⟩ = some (.string s)) :
  Calls Tryz.prog 121 #[cv, .func (.func 117) #[] #[.pointer (some ⟨tb, 0, none⟩)]] w (IxEnd fns.length (fun j => (fns.getD j fn0).name = s) w) := by
 have lt := World.block_lt_of_cell? w _ ht
 have HT := hid ht
 have H1 := hid h1
 obtain ⟨aF, cF, rfl⟩ := h1.sl
 clear h1 ht
 go_enter Tryz.func121, Tryz.ntmps121
 go_wp2_with fail
 go_loopw [8] (fun i wr => ∃ j : Nat, j ≤ fns.length ∧ i = .int .i64 j ∧ Below w.heap.size w wr ∧ ∀ p, p < j → ¬ (fns.getD p fn0).name = s) (fun i _ => fns.length - (intOf i).toNat)
 case atStart => exact ⟨0, Nat.zero_le _, rfl, Below.refl _ _, fun p hp => absurd hp (Nat.not_lt_zero _)⟩
 case round =>
  obtain ⟨j, hj, rfl, hlo, hall⟩ := hrel
  have HLO := hid hlo
  have HALL := hid hall
  clear hlo hall
  by_cases hlt : j < fns.length
  ·have hlti : (j : Int) < (fns.length : Int) := by omega
   obtain ⟨gF2, cF2, e9, _, pv, iv, n0, n1, n2, n3, n4, hpv, hiv⟩ := (H1.out.next HLO.out).at hlt
   injection e9 with ea en ec
   clear en
   subst ea ec
   obtain ⟨aP, cP, rfl⟩ := hpv.sl
   obtain ⟨aI, cI, rfl⟩ := hiv.sl
   obtain ⟨f, hf⟩ : ∃ f, fns.getD j fn0 = f := ⟨_, rfl⟩
   rw [hf] at n0 n1 n2 n3 n4
   have HFE := hid hf
   clear hf hpv hiv
   have HN := hid (HLO.out.alloc HLO.out.size (.cells #[.string f.name, .slice aP f.params.length cP, .int .i64 f.result, .int .i64 f.slots, .slice aI f.ins.length cI] 57))
   have ht' := (HN.out.cell (p := ⟨tb, 0, none⟩) lt).trans HT.out
   by_cases c1 : f.name = s
   ·have HC := hid c1
    have hq : (f.name.toList == s.toList) = true := str_eq.2 c1
    clear c1
    go_wp2
    go_ret
    exact ⟨j, rfl, ⟨fun _ => ⟨j, hlt, by show (fns.getD j fn0).name = s; rw [HFE.out]; exact HC.out⟩, fun _ => by omega⟩, HN.out⟩
   ·have HNO : Hid (∀ p, p < j + 1 → ¬ (fns.getD p fn0).name = s) := hid fun p hp => by
     by_cases e : p = j
     ·subst e; rw [HFE.out]; exact c1
     ·exact HALL.out p (by omega)
    have hq : (f.name.toList == s.toList) = false := by
     cases h : (f.name.toList == s.toList) with
     | false => rfl
     | true => exact absurd (str_eq.1 h) c1
    clear c1
    go_wp2
    go_roundw
    case rel => exact ⟨j + 1, by omega, by go_num, HN.out, HNO.out⟩
    case measure => simp [intOf]; omega
  ·obtain rfl : j = fns.length := by omega
   have hge : ¬ ((fns.length : Int) < (fns.length : Int)) := by omega
   go_wp2_with fail
   go_ret
   exact ⟨-1, rfl, ⟨fun h => absurd h (by omega), fun ⟨j, h1, h2⟩ => absurd h2 (HALL.out j h1)⟩, HLO.out⟩
set_option maxHeartbeats 2000000 in
theorem hasName_any {fns : List Fn} {w : World} {cv : Value} {s : ByteArray} (h1 : FnsRow w cv fns) (hl : fns.length ≤ 60) :
  Calls Tryz.prog 95 #[cv, .string s] w fun e w' => Q.Says e (∃ j, j < fns.length ∧ (fns.getD j fn0).name = s) ∧ Below w.heap.size w w' := by
 have HLO : Hid (Below w.heap.size w (w.alloc (.cells #[.string s] 9))) := hid ((Below.refl _ _).alloc (Nat.le_refl _) _)
 have H := hid (idxName_any (h1.next HLO.out) hl (tb := w.heap.size) (s := s) (cell_hp (heap_alloc_new _ _) 0))
 have HC : Hid (Calls Tryz.prog 98 #[cv, .func (.func 117) #[] #[.pointer (some ⟨w.heap.size, 0, none⟩)]] (w.alloc (.cells #[.string s] 9)) fun e w' => Q.Says e (∃ j, j < fns.length ∧ (fns.getD j fn0).name = s) ∧ Below (w.alloc (.cells #[.string s] 9)).heap.size (w.alloc (.cells #[.string s] 9)) w') := hid (by
  obtain ⟨aF, cF, rfl⟩ := h1.sl
  clear h1
  go_enter Tryz.func98, Tryz.ntmps98
  go_wp2_with (go_at_call 121; refine H.out.mono ?_; rintro e w' ⟨r, rfl, hr, hb⟩; have HR := hid hr; clear hr)
  go_ret
  exact ⟨⟨_, rfl, by rw [← HR.out]; simp⟩, hb⟩)
 obtain ⟨aF, cF, rfl⟩ := h1.sl
 clear h1
 go_enter Tryz.func95, Tryz.ntmps95
 go_wp2_with (go_at_call 98; refine HC.out.mono ?_; rintro e w' ⟨⟨x, rfl, hx⟩, hb⟩; have HX := hid hx; clear hx)
 go_ret
 exact ⟨⟨_, rfl, HX.out⟩, HLO.out.trans (hb.mono HLO.out.size)⟩
end Go.Proofs.YtcjgcipacfcjnaaGreatDoor.C
namespace Go.Proofs.YtcjgcipacfcjnaaGreatDoor.C.D
open Go.RowKit
set_option maxRecDepth 20000
theorem u8_val (n : Nat) (h : n < 256) : n.toUInt8.toNat = n := by simp [Nat.mod_eq_of_lt h]
theorem u8_eq {a b : Nat} (ha : a < 256) (hb : b < 256) (h : a.toUInt8 = b.toUInt8) : a = b := by
 have := congrArg UInt8.toNat h
 rw [u8_val a ha, u8_val b hb] at this
 exact this
theorem nb_pre : ∀ (n m : Nat) (r r' : List UInt8), nb n ++ r = nb m ++ r' → n = m ∧ r = r' := by
 intro n
 induction n using Nat.strongRecOn with
 | _ n ih =>
  intro m r r' h
  by_cases h1 : 127 < n
  ·by_cases h2 : 127 < m
   ·rw [nb_more h1, nb_more h2, List.cons_append, List.cons_append, List.cons.injEq] at h
    have e1 := u8_eq (by omega) (by omega) h.1
    have e2 := ih (n / 128) (by omega) (m / 128) r r' h.2
    exact ⟨by omega, e2.2⟩
   ·rw [nb_more h1, nb_last h2, List.cons_append, List.cons_append, List.cons.injEq] at h
    have e1 := u8_eq (by omega) (by omega) h.1
    omega
  ·by_cases h2 : 127 < m
   ·rw [nb_last h1, nb_more h2, List.cons_append, List.cons_append, List.cons.injEq] at h
    have e1 := u8_eq (by omega) (by omega) h.1
    omega
   ·rw [nb_last h1, nb_last h2, List.cons_append, List.cons_append, List.cons.injEq] at h
    have e1 := u8_eq (by omega) (by omega) h.1
    exact ⟨e1, h.2⟩
theorem bytes_eq {s t : ByteArray} (h : s.data.toList = t.data.toList) : s = t := by
 cases s; cases t; congr; exact Array.toList_inj.1 h
theorem tb_pre {s t : ByteArray} {r r' : List UInt8} (h : tb s ++ r = tb t ++ r') : s = t ∧ r = r' := by
 unfold tb at h
 rw [List.append_assoc, List.append_assoc] at h
 obtain ⟨e1, e2⟩ := nb_pre _ _ _ _ h
 have e3 := List.append_inj e2 (by rw [len_sizeF, len_sizeF]; exact e1)
 exact ⟨bytes_eq e3.1, e3.2⟩
theorem uOf_inj {a b : Int} (ha : -9223372036854775808 ≤ a ∧ a < 9223372036854775808) (hb : -9223372036854775808 ≤ b ∧ b < 9223372036854775808) (h : uOf a = uOf b) : a = b := by
 unfold uOf at h
 omega
structure InV (A T : Nat) (x : In) : Prop where
 op : 1 ≤ x.op ∧ x.op ≤ 16
 a : 0 ≤ x.a ∧ x.a ≤ A
 no : hasA x.op = false → x.a = 0
 push : x.op = 1 → x.a = 2 → x.n = 0
 num : ¬ (x.op = 1 ∧ x.a = 2) → x.text = ⟨#[]⟩
 n : ¬ x.op = 1 → x.n = 0
 t : x.text.size ≤ T
 n64 : -9223372036854775808 ≤ x.n ∧ x.n < 9223372036854775808
structure FnVa (A T P K S I : Nat) (f : Fn) : Prop where
 name : f.name.size ≤ T
 few : f.params.length ≤ P
 params : ∀ x ∈ f.params, 0 ≤ x ∧ x ≤ K
 result : 0 ≤ f.result ∧ f.result ≤ K
 slots : 0 ≤ f.slots ∧ f.slots ≤ S
 many : f.ins.length ≤ I
 ins : ∀ x ∈ f.ins, InV A T x
def InW : In → Prop := InV 200000 200000
def FnW : Fn → Prop := FnVa 200000 200000 200000 200000 200000 200000
def InS : In → Prop := InV 50000 3000
def FnS : Fn → Prop := FnVa 50000 3000 8 10 200 50000
theorem InV.mono {A T A' T' : Nat} {x : In} (h : InV A T x) (hA : A ≤ A') (hT : T ≤ T') : InV A' T' x :=
 ⟨h.op, ⟨h.a.1, by have := h.a.2; omega⟩, h.no, h.push, h.num, h.n, Nat.le_trans h.t hT, h.n64⟩
theorem InS.w {x : In} (h : InS x) : InW x := InV.mono h (by decide) (by decide)
theorem FnS.w {f : Fn} (h : FnS f) : FnW f :=
 ⟨Nat.le_trans h.name (by decide), Nat.le_trans h.few (by decide), fun x hx => ⟨(h.params x hx).1, by have := (h.params x hx).2; omega⟩, ⟨h.result.1, by have := h.result.2; omega⟩, ⟨h.slots.1, by have := h.slots.2; omega⟩, Nat.le_trans h.many (by decide), fun x hx => InS.w (h.ins x hx)⟩
theorem ins_pre {x y : In} {r r' : List UInt8} (hx : InW x) (hy : InW y) (h : insF x ++ r = insF y ++ r') : x = y ∧ r = r' := by
 obtain ⟨xo, xa, xn, xt⟩ := x
 obtain ⟨yo, ya, yn, yt⟩ := y
 obtain ⟨o1, a1, b1, p1, q1, n1, t1, z1⟩ := hx
 obtain ⟨o2, a2, b2, p2, q2, n2, t2, z2⟩ := hy
 dsimp only at o1 a1 b1 p1 q1 n1 t1 z1 o2 a2 b2 p2 q2 n2 t2 z2
 simp only [insF, List.append_assoc] at h
 obtain ⟨e1, h⟩ := nb_pre _ _ _ _ h
 obtain rfl := uOf_inj (by omega) (by omega) e1
 clear e1
 have ea : xa = ya ∧ (if xo = 1 then (if xa = 2 then tb xt else nb (uOf xn)) else []) ++ r = (if xo = 1 then (if ya = 2 then tb yt else nb (uOf yn)) else []) ++ r' := by
  cases hh : hasA xo with
  | false =>
   rw [hh] at h
   simp only [Bool.false_eq_true, if_false, List.nil_append] at h
   exact ⟨(b1 hh).trans (b2 hh).symm, h⟩
  | true =>
   rw [hh] at h
   simp only [if_true] at h
   obtain ⟨e1, h⟩ := nb_pre _ _ _ _ h
   exact ⟨uOf_inj (by omega) (by omega) e1, h⟩
 clear h
 obtain ⟨rfl, h⟩ := ea
 by_cases h1 : xo = 1
 ·rw [if_pos h1, if_pos h1] at h
  by_cases h2 : xa = 2
  ·rw [if_pos h2, if_pos h2] at h
   obtain ⟨rfl, h9⟩ := tb_pre h
   obtain rfl := (p1 h1 h2).trans (p2 h1 h2).symm
   exact ⟨rfl, h9⟩
  ·rw [if_neg h2, if_neg h2] at h
   obtain ⟨e1, h9⟩ := nb_pre _ _ _ _ h
   obtain rfl := uOf_inj z1 z2 e1
   obtain rfl := (q1 fun e => h2 e.2).trans (q2 fun e => h2 e.2).symm
   exact ⟨rfl, h9⟩
 ·rw [if_neg h1, if_neg h1] at h
  obtain rfl := (n1 h1).trans (n2 h1).symm
  obtain rfl := (q1 fun e => h1 e.1).trans (q2 fun e => h1 e.1).symm
  exact ⟨rfl, by simpa using h⟩
def Pre {X : Type} (F : X → List UInt8) (P : X → Prop) : Prop := ∀ x y r r', P x → P y → F x ++ r = F y ++ r' → x = y ∧ r = r'
theorem flat_pre {X : Type} {F : X → List UInt8} {P : X → Prop} (hF : Pre F P) : ∀ (l m : List X) (r r' : List UInt8), l.length = m.length → (∀ x ∈ l, P x) → (∀ x ∈ m, P x) → l.flatMap F ++ r = m.flatMap F ++ r' → l = m ∧ r = r'
 | [], [], _, _, _, _, _, h => ⟨rfl, by simpa using h⟩
 | [], _ :: _, _, _, h, _, _, _ => by simp at h
 | _ :: _, [], _, _, h, _, _, _ => by simp at h
 | x :: l, y :: m, r, r', hl, hx, hy, h => by
  rw [List.flatMap_cons, List.flatMap_cons, List.append_assoc, List.append_assoc] at h
  obtain ⟨rfl, h8⟩ := hF _ _ _ _ (hx _ List.mem_cons_self) (hy _ List.mem_cons_self) h
  obtain ⟨rfl, h9⟩ := flat_pre hF l m r r' (by simpa using hl) (fun z hz => hx z (List.mem_cons_of_mem _ hz)) (fun z hz => hy z (List.mem_cons_of_mem _ hz)) h8
  exact ⟨rfl, h9⟩
def Fr (l d : List UInt8) : Prop := ∃ r, d = l ++ r
theorem flat_no {X : Type} {F : X → List UInt8} {P : X → Prop} (hF : Pre F P) {l m : List X} {r d : List UInt8} (hx : ∀ x ∈ l, P x) (hy : ∀ x ∈ m, P x) (hl : l.length < m.length) (hd : d = l.flatMap F ++ r) (hp : Fr (m.flatMap F) d) : ∃ y, P y ∧ Fr (F y) r := by
 obtain ⟨r', hr⟩ := hp
 have e : m = m.take l.length ++ (m.getD l.length (m[l.length]'hl) :: m.drop (l.length + 1)) := by
  rw [List.getD_eq_getElem?_getD, List.getElem?_eq_getElem hl]
  simp
 rw [e, List.flatMap_append, List.flatMap_cons, hd, List.append_assoc] at hr
 obtain ⟨_, h2⟩ := flat_pre hF l (m.take l.length) _ _ (by rw [List.length_take]; omega) hx (fun z hz => hy z (List.mem_of_mem_take hz)) hr
 refine ⟨_, hy _ ?_, (m.drop (l.length + 1)).flatMap F ++ r', by rw [h2, List.append_assoc]⟩
 rw [List.getD_eq_getElem?_getD, List.getElem?_eq_getElem hl]
 exact List.getElem_mem hl
def NumW (x : Int) : Prop := 0 ≤ x ∧ x ≤ 200000
theorem num_pre : Pre (fun k : Int => nb (uOf k)) NumW := fun x y r r' hx hy h => by
 obtain ⟨h1, h2⟩ := hx
 obtain ⟨h3, h4⟩ := hy
 obtain ⟨e1, h⟩ := nb_pre _ _ _ _ h
 exact ⟨uOf_inj (by omega) (by omega) e1, h⟩
theorem insW_pre : Pre insF InW := fun _ _ _ _ hx hy h => ins_pre hx hy h
theorem fn_pre : Pre fnF FnW := fun f g r r' hx hy h => by
 obtain ⟨fn, fp, fr, fs, fi⟩ := f
 obtain ⟨gn, gp, gr, gs, gi⟩ := g
 obtain ⟨a1, a2, a3, a4, a5, a6, a7⟩ := hx
 obtain ⟨b1, b2, b3, b4, b5, b6, b7⟩ := hy
 dsimp only at a1 a2 a3 a4 a5 a6 a7 b1 b2 b3 b4 b5 b6 b7
 simp only [fnF, hdF, List.append_assoc] at h
 obtain ⟨rfl, h1⟩ := tb_pre h
 obtain ⟨e1, h2⟩ := nb_pre _ _ _ _ h1
 obtain ⟨rfl, h3⟩ := flat_pre num_pre _ _ _ _ e1 (fun x hx => a3 x hx) (fun x hx => b3 x hx) h2
 obtain ⟨e2, h4⟩ := nb_pre _ _ _ _ h3
 obtain rfl := uOf_inj (by omega) (by omega) e2
 obtain ⟨e3, h5⟩ := nb_pre _ _ _ _ h4
 obtain rfl := uOf_inj (by omega) (by omega) e3
 obtain ⟨e4, h6⟩ := nb_pre _ _ _ _ h5
 obtain ⟨rfl, h7⟩ := flat_pre insW_pre _ _ _ _ e4 a7 b7 h6
 exact ⟨rfl, h7⟩
theorem form_inj {l m : List Fn} (hl : ∀ f ∈ l, FnW f) (hm : ∀ f ∈ m, FnW f) (h : formF l = formF m) : l = m := by
 unfold formF at h
 have h1 := List.append_cancel_left h
 obtain ⟨e1, h2⟩ := nb_pre _ _ _ _ h1
 exact (flat_pre fn_pre l m [] [] e1 hl hm (by simpa [fnsF] using h2)).1
theorem valid_parts {t n : Int} {s : ByteArray} (h : V.validB t n s = true) : (t = 2 → n = 0 ∧ s.size ≤ 3000) ∧ (¬ t = 2 → s.size = 0) := by
 unfold V.validB at h
 split at h
 ·rename_i h1
  simp at h
  exact ⟨fun e => by omega, fun _ => by simp [h]⟩
 ·split at h
  ·simp at h
   exact ⟨fun _ => by omega, fun e => by omega⟩
  ·simp at h
   exact ⟨fun e => by omega, fun _ => by simp [h]⟩
theorem nil_of {s : ByteArray} (h : s.size = 0) : s = ⟨#[]⟩ := bytes_eq (by
 have : s.data.toList.length = 0 := by rw [len_sizeF]; exact h
 simpa using List.eq_nil_of_length_eq_zero this)
theorem insS_of {fns : List Fn} {f : Fn} {x : In} (h : insB fns f x = true) (hl : fns.length ≤ 60) (hs : f.slots ≤ 200) (hi : f.ins.length ≤ 50000) (hn : -9223372036854775808 ≤ x.n ∧ x.n ≤ 9223372036854775807) : InS x := by
 obtain ⟨op, a, n, t⟩ := x
 simp only [insB, Bool.and_eq_true, inB_iff] at h
 obtain ⟨⟨h1, h2⟩, h3⟩ := h
 dsimp only at hn h1 h2
 have ha : 0 ≤ a ∧ a ≤ 50000 := by
  unfold aB at h2
  split at h2
  ·rw [inB_iff] at h2; omega
  repeat' (split at h2)
  all_goals (rw [inB_iff] at h2; omega)
 refine ⟨h1, ha, fun hh => ?_, fun e1 e2 => ?_, fun e => ?_, fun e => ?_, ?_, ⟨hn.1, by have := hn.2; show n < _; omega⟩⟩
 ·dsimp only at hh ⊢
  simp [hasA, inB] at hh
  unfold aB at h2
  rw [if_neg (by omega), if_neg (by omega), if_neg (by omega), if_neg (by omega), if_neg (by omega), if_neg (by omega), if_neg (by omega), if_neg (by omega), if_neg (by omega), inB_iff] at h2
  omega
 ·dsimp only at e1 e2 ⊢
  rw [if_pos e1] at h3
  exact ((valid_parts h3).1 e2).1
 ·dsimp only at e ⊢
  by_cases e1 : op = 1
  ·rw [if_pos e1] at h3
   exact nil_of ((valid_parts h3).2 fun e2 => e ⟨e1, e2⟩)
  ·rw [if_neg e1] at h3
   simp at h3
   exact h3.2
 ·dsimp only at e ⊢
  rw [if_neg e] at h3
  simp at h3
  exact h3.1
 ·dsimp only
  by_cases e1 : op = 1
  ·rw [if_pos e1] at h3
   by_cases e2 : a = 2
   ·exact ((valid_parts h3).1 e2).2
   ·have := (valid_parts h3).2 e2
    omega
  ·rw [if_neg e1] at h3
   simp at h3
   simp [h3.2]
theorem mem_atD {X : Type} {l : List X} {x d : X} (h : x ∈ l) : ∃ i, i < l.length ∧ l.getD i d = x := by
 obtain ⟨i, hi, e⟩ := List.getElem_of_mem h
 exact ⟨i, hi, by rw [List.getD_eq_getElem?_getD, List.getElem?_eq_getElem hi]; exact e⟩
theorem fnS_of {fns : List Fn} {c k i : Nat} (h : Chk fns c k i) (h0 : c = 0) (hn : ∀ f ∈ fns, ∀ x ∈ f.ins, -9223372036854775808 ≤ x.n ∧ x.n ≤ 9223372036854775807) : fns.length ≤ 60 ∧ ∀ f ∈ fns, FnS f := by
 have hp : Plain fns 0 0 0 := by
  cases h with
  | plain c k i h h1 => exact absurd h0 h1
  | unfit => cases h0
  | ok h _ => exact h
 cases hp with
 | ok hl ho hi j hj hm =>
  refine ⟨hl.2, fun f hf => ?_⟩
  obtain ⟨q, hq, rfl⟩ := mem_atD (d := fn0) hf
  have o := ho q hq
  refine ⟨?_, o.few, fun x hx => ?_, ⟨o.result.1, o.result.2⟩, ⟨by have := o.slots.1; omega, o.slots.2⟩, o.some_.2, fun x hx => ?_⟩
  ·obtain ⟨_, h2, _⟩ := o.name
   omega
  ·obtain ⟨z, hz, rfl⟩ := mem_atD (d := 0) hx
   have := o.params z hz
   exact ⟨by omega, by omega⟩
  ·obtain ⟨z, hz, rfl⟩ := mem_atD (d := in0) hx
   exact insS_of (hi q hq z hz) hl.2 o.slots.2 o.some_.2 (hn _ hf _ hx)
structure NI (d : List UInt8) (m j nn uu : Nat) : Prop where
 n : nn = m % 128 ^ j
 u : j ≤ 9 → uu = 128 ^ j
 fr : Fr (nb (m / 128 ^ j)) (d.drop j)
 len : (nb m).length = j + (nb (m / 128 ^ j)).length
 big : j = 0 ∨ 128 ^ j ≤ m
theorem NI.start {d : List UInt8} {m : Nat} (h : Fr (nb m) d) : NI d m 0 0 1 := by
 refine ⟨by simp [Nat.mod_one], fun _ => rfl, ?_, ?_, .inl rfl⟩
 ·simpa using h
 ·simp
theorem fr_more {n : Nat} (h : 127 < n) {c : UInt8} {r : List UInt8} (hf : Fr (nb n) (c :: r)) : c.toNat = n % 128 + 128 ∧ Fr (nb (n / 128)) r := by
 obtain ⟨t, ht⟩ := hf
 rw [nb_more h, List.cons_append, List.cons.injEq] at ht
 exact ⟨by rw [ht.1]; exact u8_val _ (by omega), t, ht.2⟩
theorem fr_last {n : Nat} (h : ¬ 127 < n) {c : UInt8} {r : List UInt8} (hf : Fr (nb n) (c :: r)) : c.toNat = n := by
 obtain ⟨t, ht⟩ := hf
 rw [nb_last h, List.cons_append, List.cons.injEq] at ht
 rw [ht.1]; exact u8_val _ (by omega)
theorem p128 {j : Nat} (h : j ≤ 9) : 128 ^ j ≤ 9223372036854775808 ∧ 0 < 128 ^ j := by
 have := Nat.pow_le_pow_right (n := 128) (by decide) h
 exact ⟨Nat.le_trans this (by decide), Nat.pow_pos (by decide)⟩
theorem NI.step {d : List UInt8} {m j nn uu : Nat} (h : NI d m j nn uu) (hm : m < 18446744073709551616) {c : UInt8} (hc : d[j]? = some c) (hj : j ≤ 9) :
  nn + c.toNat % 128 * uu < 18446744073709551616 ∧ (c.toNat < 128 → nn + c.toNat % 128 * uu = m ∧ (nb m).length = j + 1) ∧ (¬ c.toNat < 128 → NI d m (j + 1) (nn + c.toNat % 128 * uu) (uu * 128) ∧ j + 1 ≤ 9) := by
 obtain ⟨h1, h2, h3, h4, h5⟩ := h
 have e : d.drop j = c :: d.drop (j + 1) := by
  obtain ⟨hl, he⟩ := List.getElem?_eq_some_iff.1 hc
  rw [List.drop_eq_getElem_cons hl, he]
 rw [e] at h3
 have hu := h2 hj
 have hp := p128 hj
 subst hu
 have hmod : m % 128 ^ (j + 1) = m % 128 ^ j + 128 ^ j * (m / 128 ^ j % 128) := by rw [Nat.pow_succ, Nat.mod_mul]
 have hdiv : m / 128 ^ (j + 1) = m / 128 ^ j / 128 := by rw [Nat.pow_succ, Nat.div_div_eq_div_mul]
 have hle : m % 128 ^ (j + 1) ≤ m := Nat.mod_le _ _
 by_cases h7 : 127 < m / 128 ^ j
 ·obtain ⟨hc1, hf⟩ := fr_more h7 h3
  have hcm : c.toNat % 128 = m / 128 ^ j % 128 := by omega
  have hval : nn + c.toNat % 128 * 128 ^ j = m % 128 ^ (j + 1) := by rw [hcm, h1, hmod, Nat.mul_comm (m / 128 ^ j % 128)]
  have hbig : 128 ^ (j + 1) ≤ m := by
   have := (Nat.le_div_iff_mul_le hp.2).1 (show 128 ≤ m / 128 ^ j by omega)
   rw [Nat.pow_succ, Nat.mul_comm]
   exact this
  refine ⟨by rw [hval]; omega, fun h => by omega, fun _ => ⟨⟨hval, fun _ => by rw [Nat.pow_succ], by rw [hdiv]; exact hf, ?_, .inr hbig⟩, ?_⟩⟩
  ·rw [h4, nb_more h7, List.length_cons, hdiv]
   omega
  ·by_cases e9 : j = 9
   ·subst e9
    have e10 : (128 : Nat) ^ (9 + 1) = 1180591620717411303424 := by decide
    rw [e10] at hbig
    omega
   ·omega
 ·have hc1 := fr_last h7 h3
  have hcm : c.toNat % 128 = m / 128 ^ j % 128 := by omega
  have hval : nn + c.toNat % 128 * 128 ^ j = m % 128 ^ (j + 1) := by rw [hcm, h1, hmod, Nat.mul_comm (m / 128 ^ j % 128)]
  have hlt : m < 128 ^ (j + 1) := by
   have := (Nat.div_lt_iff_lt_mul hp.2).1 (show m / 128 ^ j < 128 by omega)
   rw [Nat.pow_succ, Nat.mul_comm]
   exact this
  refine ⟨by rw [hval]; omega, fun _ => ⟨by rw [hval]; exact Nat.mod_eq_of_lt hlt, by rw [h4, nb_last h7]; rfl⟩, fun h => by omega⟩
def bts (s : ByteArray) : List UInt8 := s.data.toList
theorem bts_len (s : ByteArray) : (bts s).length = s.size := len_sizeF s
theorem bts_at {s : ByteArray} {i : Nat} (h : i < s.size) : (bts s)[i]? = some s[i] := by
 unfold bts
 rw [List.getElem?_eq_getElem (by rw [len_sizeF]; exact h)]
 rfl
theorem bts_drop {s : ByteArray} {p j : Nat} (h : p + j < s.size) : ((bts s).drop p)[j]? = some s[p + j] := by
 rw [List.getElem?_drop]
 exact bts_at h
theorem fr_ne {l : List UInt8} {n : Nat} (h : Fr (nb n) l) : 0 < l.length := by
 obtain ⟨r, rfl⟩ := h
 have := nb_ne n
 cases hn : nb n with
 | nil => exact absurd hn this
 | cons a b => simp
end Go.Proofs.YtcjgcipacfcjnaaGreatDoor.C.D
