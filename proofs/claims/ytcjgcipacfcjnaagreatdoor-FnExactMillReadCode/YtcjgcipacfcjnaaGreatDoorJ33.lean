import Derived.Laws.IdiomStrings
import Derived.Lib.BufferRead
import Derived.Lib.UnsafeStr
import Derived.Test.YtcjgcipacfcjnaaGreatDoorJ21
import Derived.Test.YtcjgcipacfcjnaaGreatDoorJ27
import Derived.Test.YtcjgcipacfcjnaaGreatDoorJ29
import Derived.Test.YtcjgcipacfcjnaaGreatDoorJ03
import Derived.Test.YtcjgcipacfcjnaaGreatDoorJ06
import Derived.Test.YtcjgcipacfcjnaaGreatDoorJ32
namespace Go.Proofs.YtcjgcipacfcjnaaGreatDoor.C
open Go.RowKit
set_option maxRecDepth 20000
theorem conv_rowF (w : World) (base : Nat) (v : Value) (l : List UInt8) (h : OwnB base w v l) :
  (convert 39 9 v).run Tryz.prog w = .ok (.string ⟨l.toArray⟩) w := by
 obtain ⟨_, ⟨rfl, h0⟩ | ⟨g, cap, cur, rfl, _, hg, _, _, _, htk⟩⟩ := h
 ·have e : l = [] := List.eq_nil_of_length_eq_zero h0
  subst e
  exact Lib.run_convert_nil_bytes w _ _ 5 0 Tryz.underlying39 Tryz.underlying5 Tryz.underlying9
 ·exact run_convert_bytes_back w _ _ 5 _ cap l Tryz.underlying39 Tryz.underlying5 Tryz.underlying9 (Lib.bytes_of_row hg (by rw [Nat.mul_one] at htk; exact htk))
def WcAns (fns : List Fn) (s : ByteArray) : Prop := ∃ c k i : Nat, Chk fns c k i ∧ s = if c = 0 ∧ (formF fns).length ≤ 200000 then ⟨(formF fns).toArray⟩ else ⟨#[]⟩
theorem WcAns.uniq {fns : List Fn} {s t : ByteArray} (h : WcAns fns s) (h' : WcAns fns t) : s = t := by
 obtain ⟨c, k, i, hc, rfl⟩ := h
 obtain ⟨c', k', i', hc', rfl⟩ := h'
 rw [(hc.uniq hc').1]
def WcEnd (fns : List Fn) (w : World) (e : Ending) (w' : World) : Prop := ∃ s, e = .returned (.string s) ∧ WcAns fns s ∧ Below w.heap.size w w'
set_option maxHeartbeats 2000000 in
theorem l16Ok_any {fns : List Fn} {w : World} {cv : Value} (h1 : FnsRow w cv fns) (hC : CodeS fns) :
  Calls Tryz.prog 15 #[.agg #[cv]] w fun e w' => ∃ c k i : Nat, e = .returned (.bool (decide (c = 0))) ∧ Chk fns c k i ∧ Below w.heap.size w w' := by
 have HX0 := hid (PX.start w cv)
 have HCO := hid (check_any (h1.next HX0.out.lo) hC)
 obtain ⟨aF, cF, hcv⟩ := h1.sl
 subst hcv
 clear h1 hC
 go_enter Tryz.func15, Tryz.ntmps15
 go_upto_region 1 with fail
 obtain ⟨W1, hW1⟩ : ∃ W, w.alloc (.cells #[.slice aF fns.length cF] 29) = W := ⟨_, rfl⟩
 rw [hW1] at HX0 HCO ⊢
 clear hW1
 have k0 := cx HX0.out.e0
 go_wp2_with fail
 refine HCO.out.mono ?_
 rintro e w2 ⟨c, k, i, rfl, hck, hb2⟩
 have HX := hid (HX0.out.next hb2)
 have HCK := hid hck
 clear hb2 hck k0 HX0 HCO
 by_cases hc : c = 0
 ·subst hc
  go_wp2
  go_ret
  exact ⟨0, k, i, rfl, HCK.out, HX.out.lo⟩
 ·have hcb : ((c : Int) == 0) = false := by simpa using hc
  have HD : Hid (decide (c = 0) = false) := hid (decide_eq_false hc)
  clear hc
  go_wp2
  go_ret
  exact ⟨c, k, i, by rw [HD.out]; rfl, HCK.out, HX.out.lo⟩
set_option maxHeartbeats 2000000 in
theorem specWrite_any {fns : List Fn} {w : World} {cv : Value} (h1 : FnsRow w cv fns) (hC : CodeS fns) (hW : R.wSFn fns fns.length ≤ 1048576) :
  Calls Tryz.prog 6 #[.agg #[cv]] w (WcEnd fns w) := by
 have HX0 := hid (PX.start w cv)
 have H1 := hid (h1.next HX0.out.lo)
 have HCO := hid (l16Ok_any H1.out hC)
 have HWF := hid hW
 obtain ⟨aF, cF, hcv⟩ := h1.sl
 subst hcv
 clear h1 hC hW
 go_enter Tryz.func6, Tryz.ntmps6
 go_upto_region 1 with fail
 obtain ⟨W1, hW1⟩ : ∃ W, w.alloc (.cells #[.slice aF fns.length cF] 29) = W := ⟨_, rfl⟩
 rw [hW1] at HX0 H1 HCO ⊢
 clear hW1
 have k0 := cx HX0.out.e0
 go_wp2_with fail
 refine HCO.out.mono ?_
 rintro e w2 ⟨c, k, i, rfl, hck, hb2⟩
 have HX := hid (HX0.out.next hb2)
 have H2 := hid (H1.out.next hb2)
 have HCK := hid hck
 clear hb2 hck k0 HX0 HCO H1
 by_cases hc : c = 0
 ·subst hc
  have hd : decide ((0 : Nat) = 0) = true := rfl
  rw [hd]
  clear hd
  have k0 := cx HX.out.e0
  go_wp2_with fail
  refine (form_any H2.out HWF.out).mono ?_
  rintro e w3 ⟨v, rfl, ho, hb3⟩
  obtain ⟨F, hF⟩ : ∃ F, formF fns = F := ⟨_, rfl⟩
  have HFF := hid hF
  rw [hF] at ho
  clear hF
  have HX3 := hid (HX.out.next hb3)
  have HO := hid ho
  have HCV := hid (conv_rowF w3 _ _ _ ho)
  obtain ⟨ad, cp, rfl⟩ := own_formB ho
  clear hb3 ho k0 HX H2
  by_cases hl : 200000 < F.length
  ·have hli : (200000 : Int) < (F.length : Int) := by omega
   have HA : Hid (WcAns fns ⟨#[]⟩) := hid ⟨0, k, i, HCK.out, by rw [HFF.out, if_neg (by omega)]⟩
   clear hl
   go_wp2
   go_ret
   exact ⟨_, rfl, HA.out, HX3.out.lo⟩
  ·have hli : ¬ (200000 : Int) < (F.length : Int) := by omega
   have HA : Hid (WcAns fns ⟨F.toArray⟩) := hid ⟨0, k, i, HCK.out, by rw [HFF.out, if_pos (by omega)]⟩
   clear hl
   have hcv := HCV.out
   go_wp2
   go_ret
   exact ⟨_, rfl, HA.out, HX3.out.lo⟩
 ·have HA : Hid (WcAns fns ⟨#[]⟩) := hid ⟨c, k, i, HCK.out, by rw [if_neg (by omega)]⟩
  rw [decide_eq_false hc]
  clear hc
  go_wp2
  go_ret
  exact ⟨_, rfl, HA.out, HX.out.lo⟩
end Go.Proofs.YtcjgcipacfcjnaaGreatDoor.C
namespace Go.Proofs.YtcjgcipacfcjnaaGreatDoor.C.D
open Go.RowKit
set_option maxRecDepth 20000
theorem grown_set {w wr : World} {g : Nat} (h : w.grownBy wr (some g)) (i : Nat) (v : Value) : w.grownBy (wr.setCell ⟨g, i, none⟩ v) (some g) :=
 ⟨h.os, h.tape, h.output, Nat.le_trans h.size (set_lo (Below.refl 0 wr) g i (Nat.zero_le _) v).size, fun k hk hne => (set_other _ _ _ _ _ (fun e => hne (by rw [e]))).trans (h.block k hk hne)⟩
theorem grown_refl (w : World) (g : Nat) : w.grownBy w (some g) := ⟨rfl, rfl, rfl, Nat.le_refl _, fun _ _ _ => rfl⟩
theorem grown_trans {u v w : World} {g : Nat} (h : u.grownBy v (some g)) (k : v.grownBy w (some g)) : u.grownBy w (some g) :=
 ⟨k.os.trans h.os, k.tape.trans h.tape, k.output.trans h.output, Nat.le_trans h.size k.size, fun i hi hne => (k.block i (Nat.lt_of_lt_of_le hi h.size) hne).trans (h.block i hi hne)⟩
theorem grown_below {u v w : World} {g : Nat} (h : u.grownBy v (some g)) (k : Below v.heap.size v w) : u.grownBy w (some g) :=
 ⟨k.os.trans h.os, k.tape.trans h.tape, k.output.trans h.output, Nat.le_trans h.size k.size, fun i hi hne => (k.block i (Nat.lt_of_lt_of_le hi h.size)).trans (h.block i hi hne)⟩
theorem grown_drew {u v : World} {g : Nat} (h : u.grownBy v (some g)) : u.grownBy v.drew (some g) := grown_below h (Below.refl _ _).drew
def DS (W : World) (d : Nat) (s : ByteArray) (p : Nat) (b : Bool) : Prop := W.heap[d]? = some (.cells #[.string s, .int .i64 p, .bool b] 64 (0, 0))
theorem DS.c {W : World} {d p : Nat} {s : ByteArray} {b : Bool} (h : DS W d s p b) : W.cell? ⟨d, 0, none⟩ = some (.string s) ∧ W.cell? ⟨d, 1, none⟩ = some (.int .i64 p) ∧ W.cell? ⟨d, 2, none⟩ = some (.bool b) ∧ W.frozen? ⟨d, 1, none⟩ = false ∧ W.frozen? ⟨d, 2, none⟩ = false :=
 ⟨cell_hp h 0, cell_hp h 1, cell_hp h 2, frozen_hp h 1, frozen_hp h 2⟩
theorem DS.set1 {W : World} {d p : Nat} {s : ByteArray} {b : Bool} (h : DS W d s p b) (q : Nat) (i : Int) (hi : i = q) : DS (W.setCell ⟨d, 1, none⟩ (.int .i64 i)) d s q b := by
 subst hi
 unfold DS World.setCell at *
 simp only [Array.getElem?_modify, h]
 simp
theorem DS.set2 {W : World} {d p : Nat} {s : ByteArray} {b : Bool} (h : DS W d s p b) (c : Bool) : DS (W.setCell ⟨d, 2, none⟩ (.bool c)) d s p c := by
 unfold DS World.setCell at *
 simp only [Array.getElem?_modify, h]
 simp
theorem DS.next {W V : World} {d p : Nat} {s : ByteArray} {b : Bool} (h : DS W d s p b) (hb : Below W.heap.size W V) : DS V d s p b := hp_next h hb
theorem DS.drew {W : World} {d p : Nat} {s : ByteArray} {b : Bool} (h : DS W d s p b) : DS W.drew d s p b := h.next (Below.refl _ _).drew
def NumEnd (s : ByteArray) (d p : Nat) (b : Bool) (w : World) (e : Ending) (w' : World) : Prop := ∃ (n q : Nat) (c : Bool), e = .returned (.int .u64 n) ∧ n < 18446744073709551616 ∧ DS w' d s q c ∧ p ≤ q ∧ q ≤ s.size ∧ (c = false → b = false ∧ p < q) ∧ w.grownBy w' (some d) ∧ ∀ m, b = false → m < 18446744073709551616 → Fr (nb m) ((bts s).drop p) → n = m ∧ q = p + (nb m).length ∧ c = false
set_option maxHeartbeats 4000000 in
theorem sNum_any {s : ByteArray} {d p : Nat} {b : Bool} {w : World} (h : DS w d s p b) (hp : p ≤ s.size) (hs : s.size ≤ 200000) :
  Calls Tryz.prog 45 #[.pointer (some ⟨d, 0, none⟩)] w (NumEnd s d p b w) := by
 have H0 := hid h
 clear h
 go_enter Tryz.func45, Tryz.ntmps45
 go_wp2
 go_loopw [3, 4, 5] (fun n u k wr => ∃ (j nn uu q : Nat), n = .int .u64 nn ∧ u = .int .u64 uu ∧ k = .int .i64 j ∧ j ≤ 10 ∧ nn < 18446744073709551616 ∧ uu < 18446744073709551616 ∧ q = p + j ∧ q ≤ s.size ∧ DS wr d s q b ∧ w.grownBy wr (some d) ∧ (b = true → j = 0) ∧ ∀ m, b = false → m < 18446744073709551616 → Fr (nb m) ((bts s).drop p) → NI ((bts s).drop p) m j nn uu ∧ j ≤ 9) (fun _ _ k _ => 10 - (intOf k).toNat)
 case atStart => exact ⟨0, 0, 1, p, rfl, rfl, rfl, by omega, by omega, by omega, rfl, hp, H0.out, grown_refl _ _, fun _ => rfl, fun m _ _ hf => ⟨NI.start hf, by omega⟩⟩
 case round =>
  obtain ⟨j, nn, uu, q, rfl, rfl, rfl, hj, hn, hu, he, hq, hd, hg, hb, hm⟩ := hrel
  have HD := hid hd
  have HG := hid hg
  have HB := hid hb
  have HM := hid hm
  have HE := hid he
  obtain ⟨c0, c1, c2, f1, f2⟩ := hd.c
  clear hd hg hb hm H0 he
  cases b with
  | true =>
   obtain rfl := HB.out rfl
   go_wp2
   go_ret
   exact ⟨0, q, true, rfl, by omega, HD.out.set2 true, by have := HE.out; omega, hq, fun h => (by cases h), grown_set HG.out 2 _, fun m h => (by cases h)⟩
  | false =>
   by_cases h10 : j < 10
   ·by_cases hlt : q < s.size
    ·have hge : ¬ (q : Int) ≥ (s.size : Int) := by omega
     have HST : Hid (∀ m, m < 18446744073709551616 → Fr (nb m) ((bts s).drop p) → nn + s[q].toNat % 128 * uu < 18446744073709551616 ∧ (s[q].toNat < 128 → nn + s[q].toNat % 128 * uu = m ∧ (nb m).length = j + 1) ∧ (¬ s[q].toNat < 128 → NI ((bts s).drop p) m (j + 1) (nn + s[q].toNat % 128 * uu) (uu * 128) ∧ j + 1 ≤ 9)) := hid fun m h2 h3 => by
      have hmm := HM.out m rfl h2 h3
      have he := HE.out
      exact hmm.1.step h2 (by subst he; exact bts_drop hlt) hmm.2
     obtain ⟨cb, hcb⟩ : ∃ cb, s[q].toNat = cb := ⟨_, rfl⟩
     have hcl : cb < 256 := by rw [← hcb]; exact UInt8.toNat_lt _
     have hw0 : IntKind.u64.wrap ((s[q].toNat : Nat) : Int) = (cb : Nat) := by rw [hcb, IntKind.wrap_u64]; omega
     rw [hcb] at HST
     clear hcb
     have htm : ((cb : Nat) : Int).tmod 128 = (cb : Int) % 128 := Int.tmod_eq_emod_of_nonneg (by omega)
     obtain ⟨y, hy⟩ : ∃ y, cb % 128 * uu % 18446744073709551616 = y := ⟨_, rfl⟩
     have hw1 : IntKind.u64.wrap ((cb : Int) % 128 * (uu : Int)) = (y : Nat) := by
      have e1 : (cb : Int) % 128 * (uu : Int) = ((cb % 128 * uu : Nat) : Int) := by rw [Int.natCast_mul]; rfl
      rw [IntKind.wrap_u64, ← hy, e1]; omega
     obtain ⟨n1, hn1⟩ : ∃ n1, (nn + y) % 18446744073709551616 = n1 := ⟨_, rfl⟩
     have hw2 : IntKind.u64.wrap ((nn : Int) + (y : Nat)) = (n1 : Nat) := by rw [IntKind.wrap_u64, ← hn1]; omega
     obtain ⟨u1, hu1⟩ : ∃ u1, (uu * 128) % 18446744073709551616 = u1 := ⟨_, rfl⟩
     have hw3 : IntKind.u64.wrap ((uu : Int) * 128) = (u1 : Nat) := by rw [IntKind.wrap_u64, ← hu1]; omega
     have HN1 : Hid (n1 < 18446744073709551616 ∧ u1 < 18446744073709551616 ∧ ∀ m, m < 18446744073709551616 → Fr (nb m) ((bts s).drop p) → n1 = nn + cb % 128 * uu ∧ (j + 1 ≤ 9 → uu = 128 ^ j → u1 = uu * 128)) := hid ⟨by omega, by omega, fun m h2 h3 => by
      have h4 := (HST.out m h2 h3).1
      have h5 : y = cb % 128 * uu := by rw [← hy]; exact Nat.mod_eq_of_lt (by omega)
      refine ⟨by rw [← hn1, h5]; exact Nat.mod_eq_of_lt h4, fun h6 h7 => ?_⟩
      rw [← hu1]
      refine Nat.mod_eq_of_lt ?_
      have := (p128 h6).1
      rw [Nat.pow_succ] at this
      rw [h7]
      omega⟩
     clear hy hn1 hu1
     have HDN : Hid (∀ N, DS ((wr.drewN N).setCell ⟨d, 1, none⟩ (.int .i64 ((q : Int) + 1))) d s (q + 1) false ∧ w.grownBy ((wr.drewN N).setCell ⟨d, 1, none⟩ (.int .i64 ((q : Int) + 1))) (some d)) := hid fun N => ⟨(HD.out.next (below_drewN (Below.refl _ _) N)).set1 (q + 1) _ (by omega), grown_set (grown_below HG.out (below_drewN (Below.refl _ _) N)) 1 _⟩
     by_cases h7 : cb < 128
     ·have h7i : (cb : Int) < 128 := by omega
      go_wp2_with fail
      go_quiet (fail)
      go_wp2_with fail
      go_quiet (fail)
      go_wp2
      go_ret
      have he := HE.out
      exact ⟨n1, q + 1, false, rfl, HN1.out.1, (HDN.out _).1, by omega, by omega, fun _ => ⟨rfl, by omega⟩, (HDN.out _).2, fun m _ h2 h3 => ⟨by rw [(HN1.out.2.2 m h2 h3).1]; exact ((HST.out m h2 h3).2.1 h7).1, by rw [((HST.out m h2 h3).2.1 h7).2]; omega, rfl⟩⟩
     ·have h7i : ¬ (cb : Int) < 128 := by omega
      go_wp2_with fail
      go_quiet (fail)
      go_wp2_with fail
      go_quiet (fail)
      go_wp2
      go_roundw
      case rel =>
       have he := HE.out
       refine ⟨j + 1, n1, u1, q + 1, rfl, rfl, by go_num, by omega, HN1.out.1, HN1.out.2.1, by omega, by omega, (HDN.out _).1, (HDN.out _).2, fun h => (by cases h), fun m _ h2 h3 => ?_⟩
       have h4 := (HST.out m h2 h3).2.2 h7
       have h5 := HN1.out.2.2 m h2 h3
       have h6 := (HM.out m (by trivial) h2 h3).1.u (by omega)
       rw [h5.1, h5.2 h4.2 h6]
       exact h4
      case measure => simp [intOf]; omega
    ·have hge : (q : Int) ≥ (s.size : Int) := by omega
     have HDN : Hid (∀ N, DS ((wr.drewN N).setCell ⟨d, 2, none⟩ (.bool true)) d s q true ∧ w.grownBy ((wr.drewN N).setCell ⟨d, 2, none⟩ (.bool true)) (some d)) := hid fun N => ⟨(HD.out.next (below_drewN (Below.refl _ _) N)).set2 true, grown_set (grown_below HG.out (below_drewN (Below.refl _ _) N)) 2 _⟩
     go_wp2_with fail
     go_quiet (fail)
     go_wp2
     go_ret
     have he := HE.out
     refine ⟨0, q, true, rfl, by omega, (HDN.out _).1, by omega, hq, fun h => (by cases h), (HDN.out _).2, fun m _ h2 h3 => ?_⟩
     obtain ⟨t, ht⟩ := (HM.out m (by trivial) h2 h3).1.fr
     have h4 := fr_ne ⟨t, ht⟩
     rw [List.drop_drop, List.length_drop, bts_len] at h4
     omega
   ·obtain rfl : j = 10 := by omega
    have HNO : Hid (∀ m, m < 18446744073709551616 → ¬ Fr (nb m) ((bts s).drop p)) := hid fun m h2 h3 => absurd (HM.out m rfl h2 h3).2 (by omega)
    go_wp2
    go_ret
    exact ⟨0, q, true, rfl, by omega, HD.out.set2 true, by have := HE.out; omega, hq, fun h => (by cases h), grown_set HG.out 2 _, fun m _ h2 h3 => absurd h3 (HNO.out m h2)⟩
def SmallEnd (s : ByteArray) (d p M : Nat) (b : Bool) (w : World) (e : Ending) (w' : World) : Prop := ∃ (n q : Nat) (c : Bool), e = .returned (.int .i64 n) ∧ n ≤ M ∧ DS w' d s q c ∧ p ≤ q ∧ q ≤ s.size ∧ (c = false → b = false ∧ p < q) ∧ (c = true → n = 0) ∧ w.grownBy w' (some d) ∧ ∀ m, b = false → m ≤ M → Fr (nb m) ((bts s).drop p) → n = m ∧ q = p + (nb m).length ∧ c = false
set_option maxHeartbeats 4000000 in
theorem small_any {s : ByteArray} {d p M : Nat} {b : Bool} {w : World} (h : DS w d s p b) (hp : p ≤ s.size) (hs : s.size ≤ 200000) (hM : M ≤ 200000) :
  Calls Tryz.prog 25 #[.pointer (some ⟨d, 0, none⟩), .int .i64 M] w (SmallEnd s d p M b w) := by
 have HN := hid (sNum_any h hp hs)
 have hwM : IntKind.u64.wrap (M : Int) = (M : Int) := by rw [IntKind.wrap_u64]; omega
 clear h
 go_enter Tryz.func25, Tryz.ntmps25
 go_wp2_with fail
 refine HN.out.mono ?_
 rintro e w1 ⟨n, q, c, rfl, hn, hd, h1, h2, h3, hg, hm⟩
 have HD := hid hd
 have HG := hid hg
 have HM := hid hm
 have H3 := hid h3
 obtain ⟨c0, c1, c2, f1, f2⟩ := hd.c
 clear hd hg hm h3 HN
 cases c with
 | true =>
  go_wp2
  go_ret
  refine ⟨0, q, true, rfl, by omega, HD.out.set2 true, h1, h2, fun h => (by cases h), fun _ => rfl, grown_set HG.out 2 _, fun m e1 e2 e3 => ?_⟩
  have := (HM.out m e1 (by omega) e3).2.2
  cases this
 | false =>
  by_cases hgt : M < n
  ·have hgi : (n : Int) > (M : Int) := by omega
   go_wp2
   go_ret
   refine ⟨0, q, true, rfl, by omega, HD.out.set2 true, h1, h2, fun h => (by cases h), fun _ => rfl, grown_set HG.out 2 _, fun m e1 e2 e3 => ?_⟩
   have := (HM.out m e1 (by omega) e3).1
   omega
  ·have hgi : ¬ (n : Int) > (M : Int) := by omega
   have hwn : IntKind.i64.wrap (n : Int) = (n : Int) := by rw [IntKind.wrap_i64]; omega
   go_wp2
   go_ret
   exact ⟨n, q, false, rfl, by omega, HD.out, h1, h2, fun _ => H3.out (by trivial), fun h => (by cases h), HG.out, fun m e1 e2 e3 => (by have h9 := HM.out m e1 (by omega) e3; exact ⟨h9.1, h9.2.1, rfl⟩)⟩
def TextEnd (s : ByteArray) (d p : Nat) (b : Bool) (w : World) (e : Ending) (w' : World) : Prop := ∃ (t : ByteArray) (q : Nat) (c : Bool), e = .returned (.string t) ∧ t.size ≤ 3000 ∧ p + t.size ≤ q ∧ DS w' d s q c ∧ q ≤ s.size ∧ (c = false → b = false ∧ p + t.size < q) ∧ w.grownBy w' (some d) ∧ ∀ u, b = false → u.size ≤ 3000 → Fr (tb u) ((bts s).drop p) → t = u ∧ q = p + (tb u).length ∧ c = false
theorem fr_app {a b d : List UInt8} (h : Fr (a ++ b) d) : Fr a d ∧ Fr b (d.drop a.length) := by
 obtain ⟨r, rfl⟩ := h
 exact ⟨⟨b ++ r, by simp⟩, ⟨r, by simp⟩⟩
theorem fr_at {a b : List UInt8} {s : ByteArray} {p : Nat} (h : Fr (a ++ b) ((bts s).drop p)) : Fr a ((bts s).drop p) ∧ Fr b ((bts s).drop (p + a.length)) := by
 have := fr_app h
 rw [List.drop_drop] at this
 exact this
theorem fr_len {a : List UInt8} {s : ByteArray} {p : Nat} (h : Fr a ((bts s).drop p)) (hp : p ≤ s.size) : p + a.length ≤ s.size := by
 obtain ⟨r, hr⟩ := h
 have := congrArg List.length hr
 rw [List.length_drop, List.length_append, bts_len] at this
 omega
theorem ext_bts (s : ByteArray) (a b : Nat) : bts (s.extract a b) = ((bts s).drop a).take (b - a) := by
 unfold bts
 simp [List.extract_eq_take_drop]
theorem fr_ext {u s : ByteArray} {q : Nat} (h : Fr (bts u) ((bts s).drop q)) : s.extract q (q + u.size) = u := by
 refine bytes_eq ?_
 show bts _ = bts _
 obtain ⟨r, hr⟩ := h
 rw [ext_bts, hr, show q + u.size - q = u.size by omega, ← bts_len u, List.take_left']
 rfl
set_option maxHeartbeats 4000000 in
theorem text_anyD {s : ByteArray} {d p : Nat} {b : Bool} {w : World} (h : DS w d s p b) (hp : p ≤ s.size) (hs : s.size ≤ 200000) :
  Calls Tryz.prog 46 #[.pointer (some ⟨d, 0, none⟩)] w (TextEnd s d p b w) := by
 have HN := hid (small_any (M := 3000) h hp hs (by omega))
 clear h
 go_enter Tryz.func46, Tryz.ntmps46
 go_wp2_with fail
 refine HN.out.mono ?_
 rintro e w1 ⟨n, q, c, rfl, hn, hd, h1, h2, h3, h4, hg, hm⟩
 have HD := hid hd
 have HG := hid hg
 have HM := hid hm
 have H3 := hid h3
 obtain ⟨c0, c1, c2, f1, f2⟩ := hd.c
 clear hd hg hm h3 HN h4
 cases c with
 | true =>
  have HNO : Hid (∀ u : ByteArray, b = false → u.size ≤ 3000 → ¬ Fr (tb u) ((bts s).drop p)) := hid fun u e1 e2 e3 => by
   have := (HM.out u.size e1 e2 (fr_app e3).1).2.2
   cases this
  have HDN : Hid (∀ N, DS ((w1.drewN N).setCell ⟨d, 2, none⟩ (.bool true)) d s q true ∧ w.grownBy ((w1.drewN N).setCell ⟨d, 2, none⟩ (.bool true)) (some d)) := hid fun N => ⟨(HD.out.next (below_drewN (Below.refl _ _) N)).set2 true, grown_set (grown_below HG.out (below_drewN (Below.refl _ _) N)) 2 _⟩
  clear HM
  go_wp2_with fail
  go_quiet (fail)
  go_wp2
  go_ret
  exact ⟨⟨#[]⟩, q, true, rfl, Nat.zero_le _, h1, (HDN.out _).1, h2, fun h => (by cases h), (HDN.out _).2, fun u e1 e2 e3 => absurd e3 (HNO.out u e1 e2)⟩
 | false =>
  have HPQ : Hid (b = false ∧ p < q) := hid (H3.out (by trivial))
  have HMU : Hid (∀ u : ByteArray, b = false → u.size ≤ 3000 → Fr (tb u) ((bts s).drop p) → n = u.size ∧ q = p + (nb u.size).length ∧ Fr (bts u) ((bts s).drop q)) := hid fun u e1 e2 e3 => by
   have h5 := fr_at e3
   have h6 := HM.out u.size e1 e2 h5.1
   exact ⟨h6.1, h6.2.1, by rw [h6.2.1]; exact h5.2⟩
  clear HM
  by_cases hgt : s.size < q + n
  ·have hgi : (q : Int) + (n : Int) > (s.size : Int) := by omega
   have HDN : Hid (∀ N, DS ((w1.drewN N).setCell ⟨d, 2, none⟩ (.bool true)) d s q true ∧ w.grownBy ((w1.drewN N).setCell ⟨d, 2, none⟩ (.bool true)) (some d)) := hid fun N => ⟨(HD.out.next (below_drewN (Below.refl _ _) N)).set2 true, grown_set (grown_below HG.out (below_drewN (Below.refl _ _) N)) 2 _⟩
   go_wp2_with fail
   go_quiet (fail)
   go_wp2
   go_ret
   refine ⟨⟨#[]⟩, q, true, rfl, Nat.zero_le _, h1, (HDN.out _).1, h2, fun h => (by cases h), (HDN.out _).2, fun u e1 e2 e3 => ?_⟩
   have h5 := HMU.out u e1 e2 e3
   have h6 := fr_len h5.2.2 h2
   rw [bts_len] at h6
   omega
  ·have hgi : ¬ (q : Int) + (n : Int) > (s.size : Int) := by omega
   have hdc : decide ((q : Int) + (n : Int) > (s.size : Int)) = false := by simp; omega
   go_wp2_with fail
   go_quiet (fail)
   go_wp2_with fail
   obtain ⟨W2, hW2⟩ : ∃ W, (w1.drewN nq).setCell ⟨d, 1, none⟩ (.int .i64 ((q : Int) + n)) = W := ⟨_, rfl⟩
   have HD2 : Hid (DS W2 d s (q + n) false) := hid (by rw [← hW2]; exact (HD.out.next (below_drewN (Below.refl _ _) nq)).set1 (q + n) _ (by omega))
   have HG2 : Hid (w.grownBy W2 (some d)) := hid (by rw [← hW2]; exact grown_set (grown_below HG.out (below_drewN (Below.refl _ _) nq)) 1 _)
   have HX : Hid ((s.extract q (q + n)).size = n) := hid (by rw [ByteArray.size_extract]; omega)
   rw [hW2]
   clear hW2 c0 c1 c2 f1 f2
   obtain ⟨c0, c1, c2, f1, f2⟩ := HD2.out.c
   go_quiet (fail)
   go_wp2
   go_ret
   refine ⟨s.extract q (q + n), q + n, false, rfl, by rw [HX.out]; exact hn, by rw [HX.out]; omega, HD2.out.next (below_drewN (Below.refl _ _) _), by omega, fun _ => ⟨HPQ.out.1, by rw [HX.out]; have := HPQ.out.2; omega⟩, grown_below HG2.out (below_drewN (Below.refl _ _) _), fun u e1 e2 e3 => ?_⟩
   have h5 := HMU.out u e1 e2 e3
   refine ⟨?_, ?_, rfl⟩
   ·rw [h5.1]; exact fr_ext h5.2.2
   ·rw [h5.2.1, h5.1]; unfold tb; rw [List.length_append, len_sizeF]; omega
structure JI (d : List UInt8) (j nn : Nat) : Prop where
 lt : nn < 128 ^ j
 is : ∀ k, (j = 0 ∨ 0 < k) → nb (nn + 128 ^ j * k) = d.take j ++ nb k
theorem JI.start (d : List UInt8) : JI d 0 0 := ⟨by decide, fun k _ => by simp⟩
theorem take_next {d : List UInt8} {j : Nat} {c : UInt8} (h : d[j]? = some c) : d.take (j + 1) = d.take j ++ [c] := by
 rw [List.take_add_one, h]; rfl
theorem sum_lt {P x nn : Nat} (h : nn < P) (hx : x < 128) : nn + x * P < 128 * P := by
 have := Nat.mul_le_mul_right P (show x ≤ 127 by omega)
 omega
theorem u8_back (c : UInt8) : c.toNat.toUInt8 = c := by simp
theorem JI.more {d : List UInt8} {j nn : Nat} (h : JI d j nn) {c : UInt8} (hc : d[j]? = some c) (h7 : ¬ c.toNat < 128) : JI d (j + 1) (nn + c.toNat % 128 * 128 ^ j) := by
 obtain ⟨h1, h2⟩ := h
 have hcl := c.toNat_lt
 refine ⟨?_, fun k hk => ?_⟩
 ·rw [Nat.pow_succ, Nat.mul_comm (128 ^ j) 128]; exact sum_lt h1 (Nat.mod_lt _ (by decide))
 ·have hk : 0 < k := by omega
  have e : nn + c.toNat % 128 * 128 ^ j + 128 ^ (j + 1) * k = nn + 128 ^ j * (c.toNat % 128 + 128 * k) := by
   rw [Nat.pow_succ, Nat.mul_add, Nat.mul_comm (128 ^ j) (c.toNat % 128), Nat.mul_assoc, Nat.add_assoc]
  rw [e, h2 _ (.inr (by omega)), nb_more (by omega), take_next hc, List.append_assoc]
  have e1 : (c.toNat % 128 + 128 * k) % 128 + 128 = c.toNat := by omega
  have e2 : (c.toNat % 128 + 128 * k) / 128 = k := by omega
  rw [e1, e2, u8_back]
  rfl
theorem JI.last {d : List UInt8} {j nn : Nat} (h : JI d j nn) {c : UInt8} (hc : d[j]? = some c) (h7 : c.toNat < 128) (h0 : j = 0 ∨ 0 < c.toNat) : nb (nn + c.toNat % 128 * 128 ^ j) = d.take (j + 1) := by
 have e0 : c.toNat % 128 = c.toNat := Nat.mod_eq_of_lt h7
 rw [e0, Nat.mul_comm, h.is _ h0, nb_last (by omega), take_next hc, u8_back]
theorem NI.zero {d : List UInt8} {m j nn uu : Nat} (h : NI d m j nn uu) {c : UInt8} (hc : d[j]? = some c) (hj : 0 < j) (h0 : c.toNat = 0) : False := by
 obtain ⟨h1, h2, h3, h4, h5⟩ := h
 have e : d.drop j = c :: d.drop (j + 1) := by
  obtain ⟨hl, he⟩ := List.getElem?_eq_some_iff.1 hc
  rw [List.drop_eq_getElem_cons hl, he]
 rw [e] at h3
 have hbig : 128 ^ j ≤ m := by omega
 have hpos : 0 < m / 128 ^ j := Nat.div_pos hbig (Nat.pow_pos (by decide))
 by_cases h7 : 127 < m / 128 ^ j
 ·have := (fr_more h7 h3).1
  omega
 ·have := fr_last h7 h3
  omega
theorem NI.over {d : List UInt8} {m nn uu : Nat} (h : NI d m 9 nn uu) (hm : m < 18446744073709551616) {c : UInt8} (hc : d[9]? = some c) (h1 : 1 < c.toNat) : False := by
 have h3 := h.fr
 have e : d.drop 9 = c :: d.drop (9 + 1) := by
  obtain ⟨hl, he⟩ := List.getElem?_eq_some_iff.1 hc
  rw [List.drop_eq_getElem_cons hl, he]
 rw [e] at h3
 have e9 : (128 : Nat) ^ 9 = 9223372036854775808 := by decide
 rw [e9] at h3
 have hle : m / 9223372036854775808 ≤ 1 := by omega
 have := fr_last (by omega) h3
 omega
theorem or_u64 (a b : Nat) (ha : a < 18446744073709551616) (hb : b < 18446744073709551616) : bits BinOp.or IntKind.u64 (a : Int) (b : Int) = ((a ||| b : Nat) : Int) := by
 have hx : a ||| b < 2 ^ 64 := Nat.or_lt_two_pow (by omega) (by omega)
 have h1 : (BitVec.ofInt 64 (a : Int)).toNat = a := by
  rw [BitVec.ofInt_natCast, BitVec.toNat_ofNat]; exact Nat.mod_eq_of_lt (by omega)
 have h2 : (BitVec.ofInt 64 (b : Int)).toNat = b := by
  rw [BitVec.ofInt_natCast, BitVec.toNat_ofNat]; exact Nat.mod_eq_of_lt (by omega)
 show IntKind.u64.wrap ((BitVec.ofInt 64 (a : Int) ||| BitVec.ofInt 64 (b : Int)).toNat : Int) = _
 rw [BitVec.toNat_or, h1, h2, IntKind.wrap_u64]
 omega
theorem pow_seven (j : Nat) : (128 : Nat) ^ j = 2 ^ (7 * j) := by rw [Nat.pow_mul]
theorem or_add {nn x j : Nat} (h : nn < 128 ^ j) : nn ||| x * 128 ^ j = nn + x * 128 ^ j := by
 rw [pow_seven] at *
 have := Nat.two_pow_add_eq_or_of_lt h x
 rw [Nat.mul_comm x, Nat.or_comm, ← this, Nat.add_comm]
theorem add_lt {d : List UInt8} {j nn : Nat} (h : JI d j nn) {cb : Nat} (hj : j ≤ 9) (h9 : j = 9 → cb ≤ 1) : cb % 128 * 128 ^ j < 18446744073709551616 ∧ nn + cb % 128 * 128 ^ j < 18446744073709551616 ∧ nn < 18446744073709551616 := by
 have h1 := h.lt
 have hx : cb % 128 < 128 := Nat.mod_lt _ (by decide)
 have h2 := sum_lt h1 hx
 by_cases e : j = 9
 ·subst e
  have e9 : (128 : Nat) ^ 9 = 9223372036854775808 := by decide
  rw [e9] at *
  have := h9 rfl
  omega
 ·have h3 := Nat.pow_le_pow_right (n := 128) (by decide) (show j ≤ 8 by omega)
  have e8 : (128 : Nat) ^ 8 = 72057594037927936 := by decide
  rw [e8] at h3
  omega
end Go.Proofs.YtcjgcipacfcjnaaGreatDoor.C.D
namespace Go.Proofs.YtcjgcipacfcjnaaGreatDoor.C
open Go.RowKit
set_option maxRecDepth 20000
def FuEnd (fns : List Fn) (f : Fn) (A : Nat → Sh) (w : World) (e : Ending) (w' : World) : Prop := ∃ r : Int, e = .returned (.int .i64 r) ∧ ((r = -1 ∧ ∀ p, p < f.ins.length → ¬ Unfit fns f A p) ∨ (∃ i : Nat, r = i ∧ i < f.ins.length ∧ (∀ p, p < i → ¬ Unfit fns f A p) ∧ Unfit fns f A i)) ∧ Below w.heap.size w w'
theorem unfit_top {fns : List Fn} {f : Fn} {A : Nat → Sh} {p : Nat} (hl : Low fns f A) (hf : FnR fns f) (hF : ∀ g ∈ fns, FnR fns g) (hp : p < f.ins.length) (h0 : (A p).st ≠ 0) : Unfit fns f A p ↔ behind fns f p (A p) = top := by
 have hs := (hl.src hf hF hp h0).ok
 unfold Unfit
 constructor
 ·rintro ⟨_, h2⟩
  rcases hs with h | h | h
  ·rw [h] at h2; cases h2
  ·exact h
  ·have := h.1; omega
 ·intro h
  rw [h]
  exact ⟨h0, rfl⟩
set_option maxHeartbeats 8000000 in
theorem unfit_any {fns : List Fn} {f : Fn} {w : World} {b gL : Nat} {cv pv iv : Value} {A : Nat → Sh} {wk : List Nat} {wv : Value} {W : World} (hP : SP fns f w b gL cv pv iv A wk wv W) (hG : SG fns f w cv pv iv) (hF : ∀ g ∈ fns, FnR fns g) (hf : FnR fns f) (hL : Low fns f A) :
  Calls Tryz.prog 71 #[.pointer (some ⟨b, 0, none⟩)] W (FuEnd fns f A W) := by
 have hIL : f.ins.length ≤ 50000 := hf.some_.2
 have HP := hid hP
 have HLV : Hid (∀ V p, Below W.heap.size W V → p < f.ins.length → ¬ (A p).st = 0 → Calls Tryz.prog 102 #[.pointer (some ⟨b, 0, none⟩), .int .i64 p] V (LvEnd fns f p (A p) V)) := hid fun V p hV hp h0 => leaves_any ((hP.next hV).ms hG) (hG.en.next (hP.next hV).lo) (hP.next hV).ly hp hF hf (hL.ok p hp) h0
 have HUT : Hid (∀ p, p < f.ins.length → (A p).st ≠ 0 → (Unfit fns f A p ↔ behind fns f p (A p) = top)) := hid fun p hp h0 => unfit_top hL hf hF hp h0
 clear hP hG hF hf hL
 go_enter Tryz.func71, Tryz.ntmps71
 have m6 : W.cell? ⟨b, 6, none⟩ = some (.slice (some ⟨gL, 0, none⟩) f.ins.length f.ins.length) := (cell_hp HP.out.e 6).trans rfl
 go_wp2_with fail
 clear m6
 go_loopw [12] (fun ix wr => ∃ j : Nat, j ≤ f.ins.length ∧ ix = .int .i64 j ∧ Below W.heap.size W wr ∧ ∀ p, p < j → ¬ Unfit fns f A p) (fun ix _ => f.ins.length - (intOf ix).toNat)
 case atStart => exact ⟨0, Nat.zero_le _, rfl, Below.refl _ _, fun p hp => absurd hp (Nat.not_lt_zero _)⟩
 case round =>
  obtain ⟨j, hj, rfl, hlo, hall⟩ := hrel
  have HLO := hid hlo
  have HALL := hid hall
  clear hlo hall
  by_cases hlt : j < f.ins.length
  ·have hlti : (j : Int) < (f.ins.length : Int) := by omega
   obtain ⟨u0, u1, u2, _, _, _⟩ := (HP.out.next HLO.out).ly.at hlt
   have HAL : Hid (Below W.heap.size W (wr.alloc (lbox ((A j).st : Nat) (kt (A j).sl) (kt (A j).sk)))) := hid (HLO.out.alloc HLO.out.size _)
   obtain ⟨a, ha⟩ : ∃ a, A j = a := ⟨_, rfl⟩
   by_cases h0 : (A j).st = 0
   ·have HNU : Hid (∀ p, p < j + 1 → ¬ Unfit fns f A p) := hid fun p hp hu => by
     by_cases e : p = j
     ·subst e; exact hu.1 h0
     ·exact HALL.out p (by omega) hu
    rw [ha] at u0 u1 u2 HAL h0
    rw [h0] at u0 HAL
    unfold lbox at HAL
    clear h0
    go_wp2_with fail
    go_roundw
    case rel => exact ⟨j + 1, by omega, by go_num, HAL.out, HNU.out⟩
    case measure => simp [intOf]; omega
   ·have HL9 := hid (HLV.out _ j HAL.out hlt h0)
    have HU9 := hid (HUT.out j hlt h0)
    have h0b : (((A j).st : Int) == 0) = false := by simpa using h0
    rw [ha] at u0 u1 u2 HAL HL9 HU9 h0b
    unfold LvEnd lbox at HL9
    unfold lbox at HAL
    clear h0
    go_upto_region 5 with fail
    obtain ⟨W1, hW1⟩ : ∃ W', wr.alloc (.cells #[.int .i64 (a.st : Nat), .string (kt a.sl), .string (kt a.sk)] 187) = W' := ⟨_, rfl⟩
    rw [hW1] at HAL HL9 ⊢
    clear hW1 u0 u1 u2
    go_upto_region 6 with (go_at_call 102; refine HL9.out.mono ?_; rintro e W2 ⟨st, u, v, fit, rfl, _, hff, hb2⟩; have HFF := hid hff; have HB2 : Hid (∀ o, Below W.heap.size W (W2.alloc o)) := hid (fun o => have h9 := HAL.out.trans (hb2.mono HAL.out.size); h9.alloc h9.size _); clear hff hb2)
    cases fit with
    | true =>
     have HNU : Hid (∀ p, p < j + 1 → ¬ Unfit fns f A p) := hid fun p hp hu => by
      by_cases e : p = j
      ·subst e
       have := HFF.out.2 (HU9.out.1 hu)
       cases this
      ·exact HALL.out p (by omega) hu
     go_wp2_with fail
     go_roundw
     case rel => exact ⟨j + 1, by omega, by go_num, HB2.out _, HNU.out⟩
     case measure => simp [intOf]; omega
    | false =>
     go_wp2_with fail
     go_ret
     exact ⟨j, rfl, .inr ⟨j, rfl, hlt, HALL.out, HU9.out.2 (HFF.out.1 (by first | trivial | rfl))⟩, HB2.out _⟩
  ·obtain rfl : j = f.ins.length := by omega
   have hge : ¬ ((f.ins.length : Int) < (f.ins.length : Int)) := by omega
   go_wp2_with fail
   go_ret
   exact ⟨-1, rfl, .inl ⟨rfl, HALL.out⟩, HLO.out⟩
end Go.Proofs.YtcjgcipacfcjnaaGreatDoor.C
