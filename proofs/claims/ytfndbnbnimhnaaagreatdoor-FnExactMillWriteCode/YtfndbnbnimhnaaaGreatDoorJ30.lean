import Derived.Lib.AppendStr
import Derived.Deep.LoopGhost
import Derived.Test.YtfndbnbnimhnaaaGreatDoorJ29
import Derived.Test.YtfndbnbnimhnaaaGreatDoorJ20
import Derived.Test.YtfndbnbnimhnaaaGreatDoorJ28
/-! Sizes. -/
namespace Go.Proofs.YtfndbnbnimhnaaaGreatDoor.R
open Go.RowKit
set_option maxRecDepth 20000
set_option maxHeartbeats 2000000 in
theorem szCd_any (x : Cd) {v0 : Value} (l : Int) (w : World) (hl : 0 ≤ l) (hl2 : l ≤ 1048576) (hx : OkCd x) (k0 : SFnA w v0 x.fns) :
    Calls Tryz.prog 5 #[.agg #[v0], .int .i64 l] w (SzEnd l (wCd x) w) := by
  have HX := hid hx
  have hx0 := hx
  have HB0 := hid (B1.start w (.cells #[v0] 24))
  have K0 := hid (k0.next HB0.out.lo)
  obtain ⟨ad0, cp0, rfl⟩ := k0.sl
  clear k0
  clear hx
  go_enter Tryz.func5, Tryz.ntmps5
  go_wp2_with fail
  refine (szSFn_any x.fns _ _ (by omega) (by omega) hx0 (K0.out)).mono ?_
  rintro e w1 ⟨⟨r0, rfl, p0, q0, h0⟩, hb0⟩
  have HP0 := hid h0
  have HN0 := hid hb0
  have HB1 := hid (HB0.out.next hb0)
  clear h0 hb0
  by_cases c0 : r0 < 0
  · go_wp2
    go_ret
    exact ⟨⟨_, rfl, by omega, by omega, fun h => by omega⟩, HB1.out.lo⟩
  · go_wp2
    go_ret
    refine ⟨⟨_, rfl, by omega, by omega, fun h => ?_⟩, HB1.out.lo⟩
    have eHP0 := HP0.out (by omega)
    simp only [wCd]
    omega
end Go.Proofs.YtfndbnbnimhnaaaGreatDoor.R
/-! The form of a code: plain mathematics. -/
namespace Go.Proofs.YtfndbnbnimhnaaaGreatDoor.C
open Go.RowKit
set_option maxRecDepth 20000
/-- The bytes of a number. -/
def nb (n : Nat) : List UInt8 := if 127 < n then (n % 128 + 128).toUInt8 :: nb (n / 128) else [n.toUInt8]
  termination_by n
  decreasing_by omega
theorem nb_more {n : Nat} (h : 127 < n) : nb n = (n % 128 + 128).toUInt8 :: nb (n / 128) := by
  rw [nb, if_pos h]
theorem nb_last {n : Nat} (h : ¬ 127 < n) : nb n = [n.toUInt8] := by
  rw [nb, if_neg h]
theorem nb_len : ∀ (k n : Nat), n < 128 ^ (k + 1) → (nb n).length ≤ k + 1
  | 0, n, h => by rw [nb_last (by simp at h; omega)]; simp
  | k + 1, n, h => by
    by_cases h1 : 127 < n
    · rw [nb_more h1, List.length_cons]
      have := nb_len k (n / 128) (by
        rw [Nat.pow_succ] at h
        exact Nat.div_lt_of_lt_mul (by rw [Nat.mul_comm]; exact h))
      omega
    · rw [nb_last h1]; simp
theorem nb_10 {n : Nat} (h : n < 18446744073709551616) : (nb n).length ≤ 10 := nb_len 9 n (Nat.lt_of_lt_of_le h (by decide))
/-- What a number is as one without a sign. -/
def uOf (x : Int) : Nat := (x % 18446744073709551616).toNat
theorem u64_lt (x : Int) : uOf x < 18446744073709551616 := by unfold uOf; omega
theorem u64_cast (x : Int) : ((uOf x : Nat) : Int) = x % 18446744073709551616 := by unfold uOf; omega
theorem u64_nat (n : Nat) (h : n < 18446744073709551616) : uOf (n : Int) = n := by unfold uOf; omega
def tb (s : ByteArray) : List UInt8 := nb s.size ++ s.data.toList
/-- The bytes of an instruction. -/
def insF (x : In) : List UInt8 := nb (uOf x.op) ++ ((if hasA x.op then nb (uOf x.a) else []) ++ (if x.op = 1 then (if x.a = 2 then tb x.text else nb (uOf x.n)) else []))
def parF (l : List Int) : List UInt8 := l.flatMap fun k => nb (uOf k)
def inssF (l : List In) : List UInt8 := l.flatMap insF
/-- A function's head. -/
def hdF (f : Fn) : List UInt8 := tb f.name ++ (nb f.params.length ++ (parF f.params ++ (nb (uOf f.result) ++ (nb (uOf f.slots) ++ nb f.ins.length))))
def fnF (f : Fn) : List UInt8 := hdF f ++ inssF f.ins
def fnsF (l : List Fn) : List UInt8 := l.flatMap fnF
def begF : List UInt8 := [109, 105, 108, 108, 49]
def formF (fns : List Fn) : List UInt8 := begF ++ (nb fns.length ++ fnsF fns)
theorem len_sizeF (s : ByteArray) : s.data.toList.length = s.size := by simp
theorem tb_len {s : ByteArray} (h : s.size ≤ 1048576) : (tb s).length ≤ 10 + s.size := by
  unfold tb
  rw [List.length_append, len_sizeF]
  have := nb_10 (n := s.size) (by omega)
  omega
theorem parF_len : ∀ l : List Int, (parF l).length ≤ l.length * 10
  | [] => Nat.le_refl _
  | x :: l => by
    have h1 := parF_len l
    have h2 := nb_10 (u64_lt x)
    show ((nb (uOf x)) ++ parF l).length ≤ _
    rw [List.length_append, List.length_cons]
    omega
theorem insF_len {x : In} (h : x.text.size ≤ 1048576) : (insF x).length ≤ 30 + x.text.size := by
  unfold insF
  have h1 := nb_10 (u64_lt x.op)
  have h2 := nb_10 (u64_lt x.a)
  have h3 := nb_10 (u64_lt x.n)
  have h4 := tb_len h
  rw [List.length_append, List.length_append]
  split <;> split <;> (try split) <;> (try simp only [List.length_nil]) <;> omega
theorem take_in {l : List In} {j : Nat} (h : j < l.length) : l.take (j + 1) = l.take j ++ [l.getD j in0] := by
  rw [List.take_succ_eq_append_getElem h, List.getD_eq_getElem?_getD, List.getElem?_eq_getElem h]
  rfl
theorem take_fn {l : List Fn} {j : Nat} (h : j < l.length) : l.take (j + 1) = l.take j ++ [l.getD j fn0] := by
  rw [List.take_succ_eq_append_getElem h, List.getD_eq_getElem?_getD, List.getElem?_eq_getElem h]
  rfl
theorem take_int {l : List Int} {j : Nat} (h : j < l.length) : l.take (j + 1) = l.take j ++ [l.getD j 0] := by
  rw [List.take_succ_eq_append_getElem h, List.getD_eq_getElem?_getD, List.getElem?_eq_getElem h]
  rfl
theorem inssF_next {l : List In} {j : Nat} (h : j < l.length) : inssF (l.take (j + 1)) = inssF (l.take j) ++ insF (l.getD j in0) := by
  unfold inssF
  rw [take_in h, List.flatMap_append]
  simp
theorem parF_next {l : List Int} {j : Nat} (h : j < l.length) : parF (l.take (j + 1)) = parF (l.take j) ++ nb (uOf (l.getD j 0)) := by
  unfold parF
  rw [take_int h, List.flatMap_append]
  simp
theorem fnsF_next {l : List Fn} {j : Nat} (h : j < l.length) : fnsF (l.take (j + 1)) = fnsF (l.take j) ++ fnF (l.getD j fn0) := by
  unfold fnsF
  rw [take_fn h, List.flatMap_append]
  simp
/-- What was written of more that was to be written: all of it, or more than fits. -/
def Wrote (b add b' : List UInt8) : Prop := b'.length ≤ (b ++ add).length ∧ (b' = b ++ add ∨ (200000 < b'.length ∧ 200000 < (b ++ add).length))
theorem Wrote.all (b add : List UInt8) : Wrote b add (b ++ add) := ⟨Nat.le_refl _, .inl rfl⟩
theorem inssF_len {l : List In} (h : ∀ i, i < l.length → (l.getD i in0).text.size ≤ 1048576) : ∀ j, j ≤ l.length → (inssF (l.take j)).length ≤ 31 * R.wSIn l j
  | 0, _ => Nat.zero_le _
  | j + 1, hj => by
    have h1 := inssF_len h j (by omega)
    have h2 := insF_len (h j (by omega))
    rw [inssF_next (by omega), List.length_append]
    simp only [R.wSIn, R.wIn]
    omega
theorem parF_take (l : List Int) (j : Nat) : (parF (l.take j)).length ≤ l.length * 10 := by
  have h1 := parF_len (l.take j)
  rw [List.length_take] at h1
  have : min j l.length ≤ l.length := Nat.min_le_right _ _
  omega
theorem hdF_len {f : Fn} (h : f.name.size ≤ 1048576) (hp : f.params.length ≤ 1048576) (hi : f.ins.length ≤ 1048576) : (hdF f).length ≤ 50 + f.name.size + f.params.length * 10 := by
  unfold hdF
  have h1 := tb_len h
  have h2 := nb_10 (n := f.params.length) (by omega)
  have h3 := parF_len f.params
  have h4 := nb_10 (u64_lt f.result)
  have h5 := nb_10 (u64_lt f.slots)
  have h6 := nb_10 (n := f.ins.length) (by omega)
  simp only [List.length_append]
  omega
theorem wSIn_text {l : List In} (h : R.wSIn l l.length ≤ 1048576) : ∀ i, i < l.length → (l.getD i in0).text.size ≤ 1048576 := fun i hi => by
  have h1 := R.wSIn_at l hi
  simp only [R.wIn] at h1
  omega
theorem fnF_len {f : Fn} (h : R.wFn f ≤ 1048576) : (fnF f).length ≤ 50 + 31 * R.wFn f := by
  have h0 := R.wSIn_ge f.ins f.ins.length
  simp only [R.wFn] at h ⊢
  have h1 := hdF_len (f := f) (by omega) (by omega) (by omega)
  have h2 := inssF_len (wSIn_text (l := f.ins) (by omega)) f.ins.length (Nat.le_refl _)
  rw [List.take_length] at h2
  unfold fnF
  rw [List.length_append]
  omega
theorem fnsF_len {l : List Fn} (h : R.wSFn l l.length ≤ 1048576) : ∀ j, j ≤ l.length → (fnsF (l.take j)).length ≤ 81 * R.wSFn l j
  | 0, _ => Nat.zero_le _
  | j + 1, hj => by
    have h1 := fnsF_len h j (by omega)
    have h3 := R.wSFn_at l (show j < l.length by omega)
    have h2 := fnF_len (f := l.getD j fn0) (by omega)
    rw [fnsF_next (by omega), List.length_append]
    simp only [R.wSFn]
    omega
theorem Wrote.add {b x y b1 b2 : List UInt8} (h : Wrote b x b1) (k : Wrote b1 y b2) : Wrote b (x ++ y) b2 := by
  obtain ⟨h1, h2⟩ := h
  obtain ⟨k1, k2⟩ := k
  simp only [List.length_append] at h1 h2 k1 k2
  refine ⟨by simp only [List.length_append]; omega, ?_⟩
  rcases h2 with rfl | h2
  · rcases k2 with rfl | k2
    · exact .inl (by rw [List.append_assoc])
    · simp only [List.length_append] at k2 ⊢
      exact .inr ⟨by omega, by omega⟩
  · rcases k2 with rfl | k2
    · simp only [List.length_append] at k1 ⊢
      exact .inr ⟨by omega, by omega⟩
    · simp only [List.length_append] at k2 ⊢
      exact .inr ⟨by omega, by omega⟩
end Go.Proofs.YtfndbnbnimhnaaaGreatDoor.C
/-! Where a place goes on, in the program. -/
namespace Go.Proofs.YtfndbnbnimhnaaaGreatDoor.C
open Go.RowKit
set_option maxRecDepth 20000
/-- Where it goes on, in a row that is new. -/
def AftEnd (i : In) (p : Nat) (w : World) (e : Ending) (w' : World) : Prop := ∃ v, e = .returned v ∧ IntRow w' v (nums (goes i p)) ∧ Below w.heap.size w w' ∧ (nums (goes i p) = [] ∨ ∃ g c, v = .slice (some ⟨g, 0, none⟩) (nums (goes i p)).length c ∧ w.heap.size ≤ g)
theorem after_lit {i : In} {p : Nat} {w W : World} (lo : Below w.heap.size w W) (l : List Int) (hl : l.length ≤ 2) (h : nums (goes i p) = l) : AftEnd i p w (.returned (.slice (some ⟨W.heap.size, 0, none⟩) l.length l.length)) (W.alloc (.cells (l.map fun x => Value.int .i64 x).toArray 3)) := by
  refine ⟨_, rfl, ?_, ?_, ?_⟩
  · rw [h]
    exact IntRow.lit _ l (by omega)
  · exact lo.alloc lo.size _
  · rw [h]
    exact .inr ⟨_, _, rfl, lo.size⟩
set_option maxHeartbeats 2000000 in
theorem after_fresh {fns : List Fn} {f : Fn} {b : Nat} {cv pv iv xv wv : Value} {w : World} (hM : MS fns f b cv pv iv xv wv w) {p : Nat} (hp : p < f.ins.length) (hp2 : p ≤ 100000) (hR : InsR fns f (f.ins.getD p in0)) :
    Calls Tryz.prog 126 #[.pointer (some ⟨b, 0, none⟩), .int .i64 p] w (AftEnd (f.ins.getD p in0) p w) := by
  obtain ⟨m0, m1, m2, m3, m4, m5, m6, m7⟩ := mx hM
  obtain ⟨gI, cI, rfl, hgI, hcI⟩ := hM.ir.at hp
  obtain ⟨d0, d1, d2, d3⟩ := hcI p hp
  obtain ⟨i, hi⟩ : ∃ i, f.ins.getD p in0 = i := ⟨_, rfl⟩
  rw [hi] at d0 d1 d2 d3 hR ⊢
  have hop := hR.op
  have ha := hR.place
  have hpi : (p : Int) < (f.ins.length : Int) := by omega
  have hw : IntKind.i64.wrap ((p : Int) + 1) = ((p + 1 : Nat) : Int) := by rw [IntKind.wrap_i64]; omega
  have HLO : Hid (Below w.heap.size w (w.alloc (ibox i))) := hid ((Below.refl _ _).alloc (Nat.le_refl _) _)
  obtain ⟨j0, j1, j2, j3⟩ := ix (ibox_new w i)
  clear hM hcI hR hi
  go_enter Tryz.func126, Tryz.ntmps126
  go_upto_region 2 with fail
  obtain ⟨W1, hW1⟩ : ∃ W, w.alloc (ibox i) = W := ⟨_, rfl⟩
  rw [hW1] at HLO j0 j1 j2 j3
  unfold ibox at hW1
  rw [hW1]
  clear hW1 d0 d1 d2 d3 m0 m1 m2 m3 m4 m5 m6 m7
  by_cases h12 : i.op = 12 ∨ i.op = 13
  · have HG : Hid (nums (goes i p) = []) := hid (by simp [goes, nums, h12])
    rcases h12 with h | h
    all_goals
      rw [h] at j0
      clear h hop ha
      go_wp2_with fail
      go_ret
      exact ⟨_, rfl, by rw [HG.out]; exact IntRow.nil _, HLO.out, .inl HG.out⟩
  · have e12 : (i.op == 12) = false := by simp; omega
    have e13 : (i.op == 13) = false := by simp; omega
    by_cases h10 : i.op = 10
    · obtain ⟨m, hm⟩ : ∃ m : Nat, i.a = m := ⟨i.a.toNat, by have := ha (.inl h10); omega⟩
      have HG : Hid (nums (goes i p) = [(m : Int)]) := hid (by simp [goes, nums, h10, hm])
      rw [h10] at j0
      rw [hm] at j1
      clear h12 h10 hop ha hm
      go_wp2_with fail
      go_ret
      have := after_lit HLO.out [(m : Int)] (by simp) HG.out
      simpa using this
    · have e10 : (i.op == 10) = false := by simpa using h10
      by_cases h11 : i.op = 11
      · obtain ⟨m, hm⟩ : ∃ m : Nat, i.a = m := ⟨i.a.toNat, by have := ha (.inr h11); omega⟩
        have HG : Hid (nums (goes i p) = [(m : Int), ((p + 1 : Nat) : Int)]) := hid (by simp [goes, nums, h11, hm])
        rw [h11] at j0
        rw [hm] at j1
        clear h12 h10 h11 hop ha hm
        go_wp2_with fail
        go_ret
        have := after_lit HLO.out [(m : Int), ((p + 1 : Nat) : Int)] (by simp) HG.out
        simpa using this
      · have e11 : (i.op == 11) = false := by simpa using h11
        have HG : Hid (nums (goes i p) = [((p + 1 : Nat) : Int)]) := hid (by simp [goes, nums, h12, h10, h11])
        clear h12 h10 h11 hop ha
        go_wp2_with fail
        go_ret
        have := after_lit HLO.out [((p + 1 : Nat) : Int)] (by simp) HG.out
        simpa using this
theorem after_any {fns : List Fn} {f : Fn} {b : Nat} {cv pv iv xv wv : Value} {w : World} (hM : MS fns f b cv pv iv xv wv w) {p : Nat} (hp : p < f.ins.length) (hp2 : p ≤ 100000) (hR : InsR fns f (f.ins.getD p in0)) :
    Calls Tryz.prog 126 #[.pointer (some ⟨b, 0, none⟩), .int .i64 p] w (GoesEnd (f.ins.getD p in0) p w) := by
  refine (after_fresh hM hp hp2 hR).mono ?_
  rintro e w' ⟨v, h1, h2, h3, _⟩
  exact ⟨v, h1, h2, h3⟩
end Go.Proofs.YtfndbnbnimhnaaaGreatDoor.C
/-! What an instruction takes, in the program. -/
namespace Go.Proofs.YtfndbnbnimhnaaaGreatDoor.C
open Go.RowKit
set_option maxRecDepth 20000
def tkB (fns : List Fn) (f : Fn) (i : In) (at_ : Nat) (k : Int) : Bool :=
  if i.op = 8 then fitK ((sig i.a).1.getD at_ 0) k else if i.op = 9 then decide ((fns.getD i.a.toNat fn0).params.getD at_ 0 = k) else if i.op = 12 then decide (f.result = k) else decide ((takesT i.op.toNat).getD at_ 0 = -2) || fitK ((takesT i.op.toNat).getD at_ 0) k
set_option maxHeartbeats 2000000 in
theorem takes_any {fns : List Fn} {f : Fn} {b : Nat} {cv pv iv xv wv : Value} {w : World} (hM : MS fns f b cv pv iv xv wv w) (hE : EnvI w) {i : In} (hi : InsR fns f i) {z : Nat} {k : Int} (hz : z < takesN fns i) :
    Calls Tryz.prog 130 #[.pointer (some ⟨b, 0, none⟩), inV i, .int .i64 z, .int .i64 k] w fun e w' => e = .returned (.bool (tkB fns f i z k)) ∧ Below w.heap.size w w' := by
  have HLO : Hid (Below w.heap.size w (w.alloc (ibox i))) := hid ((Below.refl _ _).alloc (Nat.le_refl _) _)
  have HM := hid (hM.next HLO.out)
  have HE := hid (hE.next HLO.out)
  have HI := hid hi
  have HZ := hid hz
  obtain ⟨j0, j1, j2, j3⟩ := ix (ibox_new w i)
  obtain ⟨m0, m1, m2, m3, m4, m5, m6, m7⟩ := mx HM.out
  obtain ⟨op, a, n, tx⟩ := i
  have hop := hi.op
  dsimp only at hop j0 j1 j2 j3
  clear hM hE hi hz
  unfold inV
  dsimp only
  go_enter Tryz.func130, Tryz.ntmps130
  go_upto_region 1 with fail
  obtain ⟨W1, hW1⟩ : ∃ W, w.alloc (ibox ⟨op, a, n, tx⟩) = W := ⟨_, rfl⟩
  rw [hW1] at HLO HM HE j0 j1 j2 j3 m0 m1 m2 m3 m4 m5 m6 m7
  unfold ibox at hW1
  rw [hW1]
  clear hW1
  by_cases h8 : op = 8
  · subst h8
    have hb := HI.out.built rfl
    dsimp only at hb
    obtain ⟨q, rfl⟩ : ∃ q : Nat, a = q := ⟨a.toNat, by omega⟩
    have hz9 : z < (sig q).1.length := by have := HZ.out; simpa [takesN] using this
    have HV : Hid (tkB fns f ⟨8, (q : Int), n, tx⟩ z k = fitK ((sig q).1.getD z 0) k) := hid (by simp [tkB])
    obtain ⟨v, s0, s1, s2⟩ := HE.out.signs q (by omega) (by omega)
    obtain ⟨ka, c, rfl, hc⟩ := s2.at hz9
    have hki : (q : Int) < 13 := by omega
    have hkn : q < 13 := by omega
    have hzi : (z : Int) < ((sig q).1.length : Int) := by omega
    obtain ⟨y, hy⟩ : ∃ y, (sig q).1.getD z 0 = y := ⟨_, rfl⟩
    rw [hy] at hc HV
    obtain ⟨L, hL⟩ : ∃ L, (sig (q : Int)).1.length = L := ⟨_, rfl⟩
    rw [hL] at s0 hz9 hzi
    clear hb s2 hy hL
    go_wp2_with (go_at_call 147; refine (kindFits_any _ _ _).mono ?_; rintro e w' ⟨rfl, hw⟩; have hw2 := hw.symm; clear hw; subst hw2)
    go_ret
    exact ⟨ret_bool (by rw [HV.out]), HLO.out⟩
  · have e8 : (op == 8) = false := by simpa using h8
    by_cases h9 : op = 9
    · subst h9
      have hb := HI.out.call rfl
      dsimp only at hb
      obtain ⟨q, rfl⟩ : ∃ q : Nat, a = q := ⟨a.toNat, by omega⟩
      have hk : q < fns.length := by omega
      have hz9 : z < (fns.getD q fn0).params.length := by have := HZ.out; simpa [takesN] using this
      have HV : Hid (tkB fns f ⟨9, (q : Int), n, tx⟩ z k = decide ((fns.getD q fn0).params.getD z 0 = k)) := hid (by simp [tkB])
      obtain ⟨gF, cF2, hcv, hgF, pv2, iv2, n0, n1, n2, n3, n4, hpv, _⟩ := HM.out.fr.at hk
      obtain ⟨gP, cP, rfl, _, _, _, hcP⟩ := hpv.at hz9
      have kP := hcP z hz9
      rw [hcv] at m0
      have hki : (q : Int) < (fns.length : Int) := by omega
      obtain ⟨y, hy⟩ : ∃ y, (fns.getD q fn0).params.getD z 0 = y := ⟨_, rfl⟩
      rw [hy] at kP HV
      obtain ⟨L, hL⟩ : ∃ L, (fns.getD q fn0).params.length = L := ⟨_, rfl⟩
      rw [hL] at n1 hz9
      have hzi : (z : Int) < (L : Int) := by omega
      clear hb hpv hL hy n0 n2 n3 n4 h8 hcv hcP
      go_wp2_with fail
      go_quiet (fail)
      go_wp2
      go_ret
      exact ⟨ret_bool (by rw [HV.out]; rfl), below_drewN HLO.out _⟩
    · have e9 : (op == 9) = false := by simpa using h9
      by_cases h12 : op = 12
      · subst h12
        have HV : Hid (tkB fns f ⟨12, a, n, tx⟩ z k = decide (f.result = k)) := hid (by simp [tkB])
        clear h8 h9
        go_wp2_with fail
        go_ret
        exact ⟨ret_bool (by rw [HV.out]; rfl), HLO.out⟩
      · have e12 : (op == 12) = false := by simpa using h12
        obtain ⟨o, rfl⟩ : ∃ o : Nat, op = o := ⟨op.toNat, by omega⟩
        have ho1 : 1 ≤ o := by omega
        have ho2 : o ≤ 16 := by omega
        have hz9 : z < (takesT o).length := by have := HZ.out; rw [takesN_T (o := o) rfl (by omega) (by omega) (by omega) ho1 ho2] at this; exact this
        have HV : Hid (tkB fns f ⟨(o : Int), a, n, tx⟩ z k = (decide ((takesT o).getD z 0 = -2) || fitK ((takesT o).getD z 0) k)) := hid (by simp [tkB, h8, h9, h12])
        obtain ⟨v, s0, s1, s2, s3⟩ := HE.out.rows o ho1 ho2
        obtain ⟨ka, c, rfl, hc⟩ := s3.at hz9
        have hoi : (o : Int) < 17 := by omega
        have hon : o < 17 := by omega
        have hzi : (z : Int) < ((takesT o).length : Int) := by omega
        obtain ⟨y, hy⟩ : ∃ y, (takesT o).getD z 0 = y := ⟨_, rfl⟩
        rw [hy] at hc HV
        obtain ⟨L, hL⟩ : ∃ L, (takesT o).length = L := ⟨_, rfl⟩
        rw [hL] at s1 hz9 hzi
        clear h8 h9 h12 s0 s2 s3 hy hL
        by_cases hy2 : y = -2
        · subst hy2
          go_wp2_with fail
          go_ret
          exact ⟨ret_bool (by rw [HV.out]; rfl), HLO.out⟩
        · have hyf : (y == -2) = false := by simpa using hy2
          have HV2 : Hid ((decide (y = -2) || fitK y k) = fitK y k) := hid (by simp [hy2])
          clear hy2
          go_wp2_with (go_at_call 147; refine (kindFits_any _ _ _).mono ?_; rintro e w' ⟨rfl, hw⟩; have hw2 := hw.symm; clear hw; subst hw2)
          go_ret
          exact ⟨ret_bool (by rw [HV.out, HV2.out]), HLO.out⟩
end Go.Proofs.YtfndbnbnimhnaaaGreatDoor.C
/-! The rounds of the model: what holds in its loops. -/
namespace Go.Proofs.YtfndbnbnimhnaaaGreatDoor.C
open Go.RowKit
set_option maxRecDepth 20000
def ShpEnd (fns : List Fn) (f : Fn) (w : World) (e : Ending) (w' : World) : Prop := ∃ g A, e = .returned (.slice (some ⟨g, 0, none⟩) f.ins.length f.ins.length) ∧ w.heap.size ≤ g ∧ ShRow w' g f.ins.length A ∧ Closed fns f A ∧ Low fns f A ∧ Below w.heap.size w w'
theorem IntRow.nil_keep {W V : World} {v : Value} (h : IntRow W v []) : IntRow V v [] := by
  obtain ⟨ad, c, e, h1, h2, _⟩ := h
  exact ⟨ad, c, e, h1, h2, .inl rfl⟩
theorem ShRow.keep0 {W V : World} {g n : Nat} (h : ShRow W g n fun _ => bot) (hg : V.heap[g]? = W.heap[g]?) : ShRow V g n fun _ => bot := by
  obtain ⟨cur, e, hz, h1⟩ := h
  refine ⟨cur, hg.trans e, hz, fun i hi => ?_⟩
  obtain ⟨a, b, e0, e1, e2, r1, r2⟩ := h1 i hi
  exact ⟨a, b, e0, e1, e2, IntRow.nil_keep r1, IntRow.nil_keep r2⟩
theorem own_neS {W : World} {B n g : Nat} {v : Value} {xs : List Value} (h : W.ownsRow B 3 1 v n xs) {cs : Array Value} {t : TypeId} (ht : ¬ t = 3) (e : W.heap[g]? = some (.cells cs t (0, 0))) : some g ≠ v.ownBlock := fun hh => by
  obtain ⟨_, ⟨rfl, _⟩ | ⟨k, cap, cur, rfl, _, hc, _⟩⟩ := h
  · simp [Value.ownBlock] at hh
  · simp [Value.ownBlock] at hh
    subst hh
    rw [e] at hc
    simp at hc
    exact ht hc.2
/-- While the first shape's slots are filled. -/
structure FI (f : Fn) (w : World) (cv pv iv : Value) (b7 : Nat) (ov : Value) (m : Nat) (W : World) : Prop where
  lo : Below w.heap.size w W
  e0 : W.heap[w.heap.size]? = some (.cells #[cv] 29)
  e1 : W.heap[w.heap.size + 1]? = some (fbox f pv iv)
  row : ShRow W (w.heap.size + 1 + 1) f.ins.length fun _ => bot
  e7 : W.heap[b7]? = some (sbox 1 ov (.slice none 0 0))
  gt : w.heap.size + 1 + 1 < b7
  own : W.ownsRow (w.heap.size + 1 + 1 + 1) 3 1 ov m ((f.params ++ List.replicate (m - f.params.length) 0).map fun x => Value.int .i64 x)
theorem FI.next {f : Fn} {w : World} {cv pv iv : Value} {b7 : Nat} {ov : Value} {m : Nat} {W V : World} (h : FI f w cv pv iv b7 ov m W) (hb : Below W.heap.size W V) : FI f w cv pv iv b7 ov m V :=
  ⟨h.lo.trans (hb.mono h.lo.size), hp_next h.e0 hb, hp_next h.e1 hb, h.row.next hb, hp_next h.e7 hb, h.gt, own_next h.own hb⟩
theorem FI.more {f : Fn} {w : World} {cv pv iv : Value} {b7 : Nat} {ov : Value} {m : Nat} {W V : World} (h : FI f w cv pv iv b7 ov m W) (hm : f.params.length ≤ m) {v' : Value} (hg : W.grownBy V ov.ownBlock) (ho : V.ownsRow (w.heap.size + 1 + 1 + 1) 3 1 v' (m + 1) ((f.params ++ List.replicate (m - f.params.length) 0).map (fun x => Value.int .i64 x) ++ [.int .i64 0])) : FI f w cv pv iv b7 v' (m + 1) (V.setCell ⟨b7, 1, none⟩ v') := by
  have hk : ∀ i, i < w.heap.size + 1 + 1 + 1 → i < W.heap.size → V.heap[i]? = W.heap[i]? := fun i hi hz => hg.block i hz (own_ne h.own hi)
  have z7 := lt_hp h.e7
  have hgt := h.gt
  have hsz := h.lo.size
  have e7 : V.heap[b7]? = some (sbox 1 ov (.slice none 0 0)) := (hg.block b7 z7 (own_neS h.own (by decide) h.e7)).trans h.e7
  refine ⟨set_lo ⟨hg.os.trans h.lo.os, hg.tape.trans h.lo.tape, hg.output.trans h.lo.output, Nat.le_trans h.lo.size hg.size, fun i hi => (hk i (by omega) (by omega)).trans (h.lo.block i hi)⟩ _ _ (by omega) _, ?_, ?_, ?_, set1_box e7 _, hgt, ?_⟩
  · rw [set_other _ _ _ _ _ (by omega), hk _ (by omega) (lt_hp h.e0)]; exact h.e0
  · rw [set_other _ _ _ _ _ (by omega), hk _ (by omega) (lt_hp h.e1)]; exact h.e1
  · exact h.row.keep0 (by rw [set_other _ _ _ _ _ (by omega), hk _ (by omega) h.row.lt])
  · apply own_setS _ e7
    have e : m + 1 - f.params.length = m - f.params.length + 1 := by omega
    rw [e, List.replicate_succ', ← List.append_assoc, List.map_append]
    exact ho
theorem own_base {W : World} {B B' n : Nat} {v : Value} {xs : List Value} {e : TypeId} {k : Nat} (h : W.ownsRow B e k v n xs) (hB : B' ≤ B) : W.ownsRow B' e k v n xs := by
  obtain ⟨h1, h2 | ⟨g, cap, cur, a, b, c⟩⟩ := h
  · exact ⟨h1, .inl h2⟩
  · exact ⟨h1, .inr ⟨g, cap, cur, a, by omega, c⟩⟩
theorem FI.start {f : Fn} {w : World} {cv pv iv : Value} {ov : Value} {W3 W5 : World} (lo : Below w.heap.size w W3) (e0 : W3.heap[w.heap.size]? = some (.cells #[cv] 29)) (e1 : W3.heap[w.heap.size + 1]? = some (fbox f pv iv)) (row : ShRow W3 (w.heap.size + 1 + 1) f.ins.length fun _ => bot) (b5 : Below W3.heap.size W3 W5) (ho : W5.ownsRow W3.heap.size 3 1 ov f.params.length (f.params.map fun x => Value.int .i64 x)) : FI f w cv pv iv W5.heap.size ov f.params.length (W5.alloc (sbox 1 ov (.slice none 0 0))) := by
  have b6 : Below W5.heap.size W5 (W5.alloc (sbox 1 ov (.slice none 0 0))) := (Below.refl _ _).alloc (Nat.le_refl _) _
  have b56 : Below W3.heap.size W3 (W5.alloc (sbox 1 ov (.slice none 0 0))) := b5.trans (b6.mono b5.size)
  have := row.lt
  have := b5.size
  refine ⟨lo.trans (b56.mono lo.size), hp_next e0 b56, hp_next e1 b56, row.next b56, heap_alloc_new _ _, by omega, ?_⟩
  rw [Nat.sub_self, List.replicate_zero, List.append_nil]
  exact own_base (own_next ho b6) (by omega)
/-- While the rounds go on. -/
structure SW (f : Fn) (w : World) (cv pv iv : Value) (A : Nat → Sh) (W : World) : Prop where
  lo : Below w.heap.size w W
  e0 : W.heap[w.heap.size]? = some (.cells #[cv] 29)
  e1 : W.heap[w.heap.size + 1]? = some (fbox f pv iv)
  row : ShRow W (w.heap.size + 1 + 1) f.ins.length A
theorem SW.next {f : Fn} {w : World} {cv pv iv : Value} {A : Nat → Sh} {W V : World} (h : SW f w cv pv iv A W) (hb : Below W.heap.size W V) : SW f w cv pv iv A V :=
  ⟨h.lo.trans (hb.mono h.lo.size), hp_next h.e0 hb, hp_next h.e1 hb, h.row.next hb⟩
theorem SW.set {f : Fn} {w : World} {cv pv iv : Value} {A : Nat → Sh} {W : World} (h : SW f w cv pv iv A W) {i : Nat} (hi : i < f.ins.length) {s : Sh} {a b : Value} (ha : IntRow W a s.sl) (hb : IntRow W b s.sk) : SW f w cv pv iv (upd A i s) (((W.setCell ⟨w.heap.size + 1 + 1, i * 3, none⟩ (.int .i64 (s.st : Nat))).setCell ⟨w.heap.size + 1 + 1, i * 3 + 1, none⟩ a).setCell ⟨w.heap.size + 1 + 1, i * 3 + 2, none⟩ b) :=
  ⟨set_lo (set_lo (set_lo h.lo _ _ (by omega) _) _ _ (by omega) _) _ _ (by omega) _, by rw [set3_other (by omega)]; exact h.e0, by rw [set3_other (by omega)]; exact h.e1, h.row.set hi ha hb⟩
/-- The first shape is laid at the first place. -/
theorem FI.fin {f : Fn} {w : World} {cv pv iv : Value} {b7 : Nat} {ov : Value} {m : Nat} {W : World} (h : FI f w cv pv iv b7 ov m W) (hm : m = f.S) (hn : 0 < f.ins.length) (hl : f.params.length ≤ m) : SW f w cv pv iv (upd (fun _ => bot) 0 (first f)) (((W.setCell ⟨w.heap.size + 1 + 1, 0, none⟩ (.int .i64 1)).setCell ⟨w.heap.size + 1 + 1, 1, none⟩ ov).setCell ⟨w.heap.size + 1 + 1, 2, none⟩ (.slice none 0 0)) := by
  have h1 : SW f w cv pv iv (fun _ => bot) W := ⟨h.lo, h.e0, h.e1, h.row⟩
  have := h1.set (i := 0) hn (s := first f) (a := ov) (b := .slice none 0 0) (by
    subst hm
    have ho := h.own
    have e : (f.params ++ List.replicate (f.S - f.params.length) 0 : List Int).length = f.S := by simp; omega
    apply IntRow.own (B := w.heap.size + 1 + 1 + 1)
    show W.ownsRow _ _ _ _ (f.params ++ List.replicate (f.S - f.params.length) 0 : List Int).length _
    rw [e]
    exact ho) (IntRow.nil _)
  have h9 : (((first f).st : Nat) : Int) = 1 := rfl
  rw [h9] at this
  simpa using this
theorem set3_box {W : World} {g : Nat} {st : Int} {x y : Value} (e : W.heap[g]? = some (sbox st x y)) (st' : Int) (q r : Value) : (((W.setCell ⟨g, 0, none⟩ (.int .i64 st')).setCell ⟨g, 1, none⟩ q).setCell ⟨g, 2, none⟩ r).heap[g]? = some (sbox st' q r) := by
  unfold World.setCell
  simp only [Array.getElem?_modify, e]
  simp [sbox]
/-- A shape in a box of its own. -/
structure BS (s : Sh) (b : Nat) (x y : Value) (W : World) : Prop where
  e : W.heap[b]? = some (sbox s.st x y)
  r1 : IntRow W x s.sl
  r2 : IntRow W y s.sk
theorem BS.next {s : Sh} {b : Nat} {x y : Value} {W V : World} (h : BS s b x y W) (hb : Below W.heap.size W V) : BS s b x y V := ⟨hp_next h.e hb, h.r1.next hb, h.r2.next hb⟩
/-- The box is made behind the call. -/
theorem box_late {s : Sh} {x y : Value} {W : World} (h1 : IntRow W x s.sl) (h2 : IntRow W y s.sk) : BS s W.heap.size x y (W.alloc (sbox s.st x y)) :=
  have b : Below W.heap.size W (W.alloc (sbox s.st x y)) := (Below.refl _ _).alloc (Nat.le_refl _) _
  ⟨heap_alloc_new _ _, h1.next b, h2.next b⟩
/-- The box was made ahead of the call. -/
theorem box_early {s : Sh} {x y x0 y0 : Value} {st0 : Int} {W : World} {g : Nat} (e : W.heap[g]? = some (sbox st0 x0 y0)) (h1 : IntRow W x s.sl) (h2 : IntRow W y s.sk) : BS s g x y (((W.setCell ⟨g, 0, none⟩ (.int .i64 (s.st : Nat))).setCell ⟨g, 1, none⟩ x).setCell ⟨g, 2, none⟩ y) :=
  ⟨set3_box e _ _ _, h1.set3 e _ _ _, h2.set3 e _ _ _⟩
theorem SW.set3 {f : Fn} {w : World} {cv pv iv : Value} {A : Nat → Sh} {W : World} (h : SW f w cv pv iv A W) {g : Nat} {st0 : Int} {x0 y0 : Value} (e : W.heap[g]? = some (sbox st0 x0 y0)) (hg : w.heap.size + 1 + 1 < g) (p q r : Value) : SW f w cv pv iv A (((W.setCell ⟨g, 0, none⟩ p).setCell ⟨g, 1, none⟩ q).setCell ⟨g, 2, none⟩ r) :=
  ⟨set_lo (set_lo (set_lo h.lo _ _ (by omega) _) _ _ (by omega) _) _ _ (by omega) _, by rw [set3_other (by omega)]; exact h.e0, by rw [set3_other (by omega)]; exact h.e1, h.row.keep (set3_other (by omega) _ _ _ _ _ _) fun k cur hk => set3_other (fun ek => by subst ek; rw [e] at hk; simp [sbox] at hk) _ _ _ _ _ _⟩
/-- While the ways of a place are gone. -/
structure KS (f : Fn) (w : World) (cv pv iv : Value) (A : Nat → Sh) (s : Sh) (b : Nat) (x y gv : Value) (l : List Int) (W : World) : Prop where
  sw : SW f w cv pv iv A W
  bs : BS s b x y W
  gr : IntRow W gv l
  gt : w.heap.size + 1 + 1 < b
theorem KS.next {f : Fn} {w : World} {cv pv iv : Value} {A : Nat → Sh} {s : Sh} {b : Nat} {x y gv : Value} {l : List Int} {W V : World} (h : KS f w cv pv iv A s b x y gv l W) (hb : Below W.heap.size W V) : KS f w cv pv iv A s b x y gv l V := ⟨h.sw.next hb, h.bs.next hb, h.gr.next hb, h.gt⟩
theorem KS.set3 {f : Fn} {w : World} {cv pv iv : Value} {A : Nat → Sh} {s : Sh} {b : Nat} {x y gv : Value} {l : List Int} {W : World} (h : KS f w cv pv iv A s b x y gv l W) {g : Nat} {st0 : Int} {x0 y0 : Value} (e : W.heap[g]? = some (sbox st0 x0 y0)) (hg : w.heap.size + 1 + 1 < g) (hne : ¬ b = g) (p q r : Value) : KS f w cv pv iv A s b x y gv l (((W.setCell ⟨g, 0, none⟩ p).setCell ⟨g, 1, none⟩ q).setCell ⟨g, 2, none⟩ r) :=
  ⟨h.sw.set3 e hg _ _ _, ⟨by rw [set3_other hne]; exact h.bs.e, h.bs.r1.set3 e _ _ _, h.bs.r2.set3 e _ _ _⟩, h.gr.set3 e _ _ _, h.gt⟩
/-- One place is written. -/
theorem KS.put {f : Fn} {w : World} {cv pv iv : Value} {A : Nat → Sh} {s : Sh} {b : Nat} {x y gv : Value} {l : List Int} {W : World} (h : KS f w cv pv iv A s b x y gv l W) {i : Nat} (hi : i < f.ins.length) {z : Sh} {p q : Value} (hp : IntRow W p z.sl) (hq : IntRow W q z.sk) : KS f w cv pv iv (upd A i z) s b x y gv l (((W.setCell ⟨w.heap.size + 1 + 1, i * 3, none⟩ (.int .i64 (z.st : Nat))).setCell ⟨w.heap.size + 1 + 1, i * 3 + 1, none⟩ p).setCell ⟨w.heap.size + 1 + 1, i * 3 + 2, none⟩ q) := by
  have hk : ∀ (k : Nat) (cu : Array Value), W.heap[k]? = some (.cells cu 3 (0, 0)) → (((W.setCell ⟨w.heap.size + 1 + 1, i * 3, none⟩ (.int .i64 (z.st : Nat))).setCell ⟨w.heap.size + 1 + 1, i * 3 + 1, none⟩ p).setCell ⟨w.heap.size + 1 + 1, i * 3 + 2, none⟩ q).heap[k]? = W.heap[k]? := fun k cu hk => set3_other (fun ek => by
    subst ek
    obtain ⟨cur, e, _⟩ := h.sw.row
    rw [e] at hk
    simp at hk) _ _ _ _ _ _
  have hgt := h.gt
  exact ⟨h.sw.set hi hp hq, ⟨by rw [set3_other (by omega)]; exact h.bs.e, h.bs.r1.keep hk, h.bs.r2.keep hk⟩, h.gr.keep hk, h.gt⟩
/-- What is read when a place's shape is handed on. -/
def S14 (f : Fn) (w : World) (cv pv iv : Value) (j : Nat) (s : Sh) (a1 : Option Addr) (c1 : Nat) (a2 : Option Addr) (c2 : Nat) (V : World) : Prop :=
  V.cell? ⟨w.heap.size, 0, none⟩ = some cv ∧ V.cell? ⟨w.heap.size + 1, 0, none⟩ = some (.string f.name) ∧ V.cell? ⟨w.heap.size + 1, 1, none⟩ = some pv ∧ V.cell? ⟨w.heap.size + 1, 2, none⟩ = some (.int .i64 f.result) ∧ V.cell? ⟨w.heap.size + 1, 3, none⟩ = some (.int .i64 f.slots) ∧ V.cell? ⟨w.heap.size + 1, 4, none⟩ = some iv ∧
  V.cell? ⟨w.heap.size + 1 + 1, j * 3, none⟩ = some (.int .i64 (s.st : Nat)) ∧ V.cell? ⟨w.heap.size + 1 + 1, j * 3 + 1, none⟩ = some (.slice a1 s.sl.length c1) ∧ V.cell? ⟨w.heap.size + 1 + 1, j * 3 + 2, none⟩ = some (.slice a2 s.sk.length c2)
theorem S14.of {f : Fn} {w : World} {cv pv iv : Value} {A : Nat → Sh} {W V : World} (h : SW f w cv pv iv A W) {j : Nat} {s : Sh} {a1 : Option Addr} {c1 : Nat} {a2 : Option Addr} {c2 : Nat} (_hj : j < f.ins.length) (hV : Below W.heap.size W V) (u0 : W.cell? ⟨w.heap.size + 1 + 1, j * 3, none⟩ = some (.int .i64 (s.st : Nat))) (u1 : W.cell? ⟨w.heap.size + 1 + 1, j * 3 + 1, none⟩ = some (.slice a1 s.sl.length c1)) (u2 : W.cell? ⟨w.heap.size + 1 + 1, j * 3 + 2, none⟩ = some (.slice a2 s.sk.length c2)) : S14 f w cv pv iv j s a1 c1 a2 c2 V := by
  obtain ⟨v0, v1, v2, v3, v4⟩ := fx (h.next hV).e1
  have hl := h.row.lt
  exact ⟨cx (h.next hV).e0, v0, v1, v2, v3, v4, (hV.cell (p := ⟨w.heap.size + 1 + 1, j * 3, none⟩) hl).trans u0, (hV.cell (p := ⟨w.heap.size + 1 + 1, j * 3 + 1, none⟩) hl).trans u1, (hV.cell (p := ⟨w.heap.size + 1 + 1, j * 3 + 2, none⟩) hl).trans u2⟩
theorem upd_self (A : Nat → Sh) (g : Nat) : upd A g (A g) = A := by
  funext q
  unfold upd
  split
  · rename_i h; rw [h]
  · rfl
theorem KInv.both {fns : List Fn} {f : Fn} {A0 A : Nat → Sh} {i k : Nat} {s : Sh} {again ch : Bool} (h : KInv fns f A0 A i k s again) {g : Nat} (hg : (goes (f.ins.getD i in0) i)[k]? = some g) (hgn : g < f.ins.length) (hch : ch = true ↔ ¬ join (A g) s = A g) : KInv fns f A0 (upd A g (join (A g) s)) i (k + 1) s (again || ch) := by
  cases ch with
  | false =>
    have e : join (A g) s = A g := Decidable.byContradiction fun h9 => by
      have := hch.2 h9
      cases this
    have := h.same hg hgn e
    rw [Bool.or_false, e, upd_self]
    exact this
  | true =>
    have := h.up hg hgn (hch.1 rfl)
    rw [Bool.or_true]
    exact this
theorem nums_get {l : List Nat} {z g : Nat} (h : l[z]? = some g) : (nums l).getD z 0 = (g : Int) := by
  unfold nums
  rw [List.getD_eq_getElem?_getD, List.getElem?_map, h]
  rfl
theorem nums_length (l : List Nat) : (nums l).length = l.length := by unfold nums; rw [List.length_map]
theorem goes_few (i : In) (j : Nat) : (goes i j).length ≤ 2 := by unfold goes; (repeat' split) <;> simp
end Go.Proofs.YtfndbnbnimhnaaaGreatDoor.C
