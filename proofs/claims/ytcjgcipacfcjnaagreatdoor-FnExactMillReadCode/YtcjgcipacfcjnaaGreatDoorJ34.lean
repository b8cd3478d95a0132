import Derived.Test.YtcjgcipacfcjnaaGreatDoorJ33
import Derived.Test.YtcjgcipacfcjnaaGreatDoorJ21
namespace Go.Proofs.YtcjgcipacfcjnaaGreatDoor.C.D
open Go.RowKit
set_option maxRecDepth 20000
def RS (W : World) (r : Nat) (s : ByteArray) (p : Nat) : Prop := W.heap[r]? = some (.cells #[.string s, .int .i64 p] 100 (0, 0))
theorem RS.c {W : World} {r p : Nat} {s : ByteArray} (h : RS W r s p) : W.cell? ⟨r, 0, none⟩ = some (.string s) ∧ W.cell? ⟨r, 1, none⟩ = some (.int .i64 p) ∧ W.frozen? ⟨r, 1, none⟩ = false :=
 ⟨cell_hp h 0, cell_hp h 1, frozen_hp h 1⟩
theorem RS.set {W : World} {r p : Nat} {s : ByteArray} (h : RS W r s p) (q : Nat) (i : Int) (hi : i = q) : RS (W.setCell ⟨r, 1, none⟩ (.int .i64 i)) r s q := by
 subst hi
 unfold RS World.setCell at *
 simp only [Array.getElem?_modify, h]
 simp
theorem RS.next {W V : World} {r p : Nat} {s : ByteArray} (h : RS W r s p) (hb : Below W.heap.size W V) : RS V r s p := hp_next h hb
theorem RS.setO {W : World} {r p k : Nat} {s : ByteArray} (h : RS W r s p) (hk : ¬ r = k) (i : Nat) (v : Value) : RS (W.setCell ⟨k, i, none⟩ v) r s p := (set_other _ _ _ _ _ hk).trans h
def IsFl (v : Value) : Prop := ∃ (a : Int) (t : TypeId) (u : Value), v = .iface 70 (.agg #[.int .i64 a, .iface t u])
structure EnvF (W : World) : Prop where
 long : ∃ t u, W.cell? ⟨0, 0, none⟩ = some (.iface t u)
 begins : ∃ t u, W.cell? ⟨1, 0, none⟩ = some (.iface t u)
 ends : ∃ t u, W.cell? ⟨5, 0, none⟩ = some (.iface t u)
 number : ∃ t u, W.cell? ⟨4, 0, none⟩ = some (.iface t u)
 use : ∀ o : Nat, 1 ≤ o → o ≤ 16 → W.cell? ⟨3, o * 3, none⟩ = some (.int .i64 (useT o))
def FarG (r : Nat) : Prop := 0 < r ∧ 1 < r ∧ 5 < r ∧ 4 < r ∧ 3 < r
theorem cell_in {W : World} {k i : Nat} {v : Value} (h : W.cell? ⟨k, i, none⟩ = some v) : k < W.heap.size := by
 rcases Nat.lt_or_ge k W.heap.size with hl | hl
 ·exact hl
 ·unfold World.cell? at h
  rw [Array.getElem?_eq_none hl] at h
  cases h
theorem cell_same {W V : World} {k : Nat} (i : Nat) (h : V.heap[k]? = W.heap[k]?) : V.cell? ⟨k, i, none⟩ = W.cell? ⟨k, i, none⟩ := by unfold World.cell?; rw [h]
theorem EnvF.keep {W V : World} (h : EnvF W) (hk : ∀ k i v, k = 0 ∨ k = 1 ∨ k = 5 ∨ k = 4 ∨ k = 3 → W.cell? ⟨k, i, none⟩ = some v → V.cell? ⟨k, i, none⟩ = some v) : EnvF V := by
 obtain ⟨⟨t1, u1, a⟩, ⟨t2, u2, b⟩, ⟨t3, u3, c⟩, ⟨t4, u4, d⟩, e⟩ := h
 exact ⟨⟨t1, u1, hk _ _ _ (by simp) a⟩, ⟨t2, u2, hk _ _ _ (by simp) b⟩, ⟨t3, u3, hk _ _ _ (by simp) c⟩, ⟨t4, u4, hk _ _ _ (by simp) d⟩, fun o h1 h2 => hk _ _ _ (by simp) (e o h1 h2)⟩
theorem EnvF.grow {W V : World} {r : Nat} (h : EnvF W) (hg : W.grownBy V (some r)) (hr : FarG r) : EnvF V :=
 h.keep fun k i v hk hc => (cell_same i (hg.block k (cell_in hc) fun e => by injection e with e; subst e; obtain ⟨h1, h2, h3, h4, h5⟩ := hr; omega)).trans hc
theorem EnvF.next {W V : World} (h : EnvF W) (hb : Below W.heap.size W V) : EnvF V :=
 h.keep fun k i _v _ hc => (cell_same i (hb.block k (cell_in hc))).trans hc
theorem EnvF.set {W : World} {r g : Nat} (h : EnvF W) (hf : FarG r) (hr : r ≤ g) (i : Nat) (v : Value) : EnvF (W.setCell ⟨g, i, none⟩ v) :=
 h.keep fun k j u hk hc => (cell_same j (set_other _ _ _ _ _ (by obtain ⟨h1, h2, h3, h4, h5⟩ := hf; omega))).trans hc
set_option maxHeartbeats 2000000 in
theorem flaw_any {s : ByteArray} {r p : Nat} {w : World} (h : RS w r s p) (t : TypeId) (u : Value) :
  Calls Tryz.prog 48 #[.pointer (some ⟨r, 0, none⟩), .iface t u] w fun e w' => e = .returned (.iface 70 (.agg #[.int .i64 p, .iface t u])) ∧ w' = w := by
 obtain ⟨_, c1, _⟩ := h.c
 clear h
 go_enter Tryz.func48, Tryz.ntmps48
 go_wp2
 go_ret
 exact ⟨rfl, rfl⟩
theorem and_127F : ∀ a : Fin 256, bits BinOp.and IntKind.u8 ((a.val : Nat) : Int) 127 = ((a.val % 128 : Nat) : Int) := by decide +kernel
theorem and_127 {k : Nat} (h : k < 256) : bits BinOp.and IntKind.u8 (k : Int) 127 = ((k % 128 : Nat) : Int) := and_127F ⟨k, h⟩
def INumEnd (s : ByteArray) (r p : Nat) (w : World) (e : Ending) (w' : World) : Prop := ∃ q, RS w' r s q ∧ p ≤ q ∧ q ≤ s.size ∧ w.grownBy w' (some r) ∧ ((∃ n : Nat, e = .returned (.tuple #[.int .u64 n, .nilIface]) ∧ n < 18446744073709551616 ∧ q = p + (nb n).length ∧ Fr (nb n) ((bts s).drop p)) ∨ ∃ v, e = .returned (.tuple #[.int .u64 0, v]) ∧ IsFl v ∧ ∀ n, n < 18446744073709551616 → ¬ Fr (nb n) ((bts s).drop p))
theorem RS.drewN {W : World} {r p : Nat} {s : ByteArray} (h : RS W r s p) (N : Nat) : RS (W.drewN N) r s p := h.next (below_drewN (Below.refl _ _) N)
theorem EnvF.drewN {W : World} (h : EnvF W) (N : Nat) : EnvF (W.drewN N) := h.next (below_drewN (Below.refl _ _) N)
theorem wrap_shl {x j : Nat} (h : x * 128 ^ j < 18446744073709551616) : IntKind.u64.wrap ((x : Int) * 2 ^ (7 * j)) = ((x * 128 ^ j : Nat) : Int) := by
 have e : (x : Int) * 2 ^ (7 * j) = ((x * 128 ^ j : Nat) : Int) := by rw [pow_seven, Int.natCast_mul, Int.natCast_pow]; rfl
 rw [e, IntKind.wrap_u64]
 omega
set_option maxHeartbeats 4000000 in
theorem iNum_any {s : ByteArray} {r p : Nat} {w : World} (h : RS w r s p) (hev : EnvF w) (hf : FarG r) (hp : p ≤ s.size) (hs : s.size ≤ 200000) :
  Calls Tryz.prog 104 #[.pointer (some ⟨r, 0, none⟩)] w (INumEnd s r p w) := by
 have H0 := hid h
 have HEV := hid hev
 have HF := hid hf
 clear h hev hf
 go_enter Tryz.func104, Tryz.ntmps104
 go_wp2
 go_loopw [4, 5] (fun n b wr => ∃ (j nn q : Nat), n = .int .u64 nn ∧ b = .int .i64 (7 * j : Nat) ∧ j ≤ 9 ∧ q = p + j ∧ q ≤ s.size ∧ RS wr r s q ∧ w.grownBy wr (some r) ∧ JI ((bts s).drop p) j nn ∧ ∀ m, m < 18446744073709551616 → Fr (nb m) ((bts s).drop p) → ∃ uu, NI ((bts s).drop p) m j nn uu) (fun _ b _ => 100 - (intOf b).toNat)
 case atStart => exact ⟨0, 0, p, rfl, rfl, by omega, rfl, hp, H0.out, grown_refl _ _, JI.start _, fun m _ hf => ⟨1, NI.start hf⟩⟩
 case round =>
  obtain ⟨j, nn, q, rfl, rfl, hj, he, hq, hd, hg, hji, hm⟩ := hrel
  have HD := hid hd
  have HG := hid hg
  have HJ := hid hji
  have HM := hid hm
  have HE := hid he
  have HEW := hid (HEV.out.grow hg HF.out)
  obtain ⟨c0, c1, f1⟩ := hd.c
  clear hd hg hji hm H0 he
  by_cases hlt : q < s.size
  ·have hge : (q : Int) < (s.size : Int) := by omega
   have HCB : Hid (((bts s).drop p)[j]? = some s[q]) := hid (by have he := HE.out; subst he; exact bts_drop hlt)
   obtain ⟨c, hc⟩ : ∃ c, s[q] = c := ⟨_, rfl⟩
   rw [hc] at HCB
   obtain ⟨cb, hcb⟩ : ∃ cb, c.toNat = cb := ⟨_, rfl⟩
   have hcl : cb < 256 := by rw [← hcb]; exact UInt8.toNat_lt _
   have HCJ : Hid (c.toNat = cb) := hid hcb
   have hsq : s[q].toNat = cb := by rw [hc, hcb]
   clear hc hcb
   go_wp2_with fail
   go_quiet (fail)
   have HD1 := hid (HD.out.drewN nq)
   have HG1 := hid (grown_below HG.out (below_drewN (Below.refl _ _) nq))
   have HE1 := hid (HEW.out.drewN nq)
   obtain ⟨W1, hW1⟩ : ∃ W, wr.drewN nq = W := ⟨_, rfl⟩
   rw [hW1] at HD1 HG1 HE1 ⊢
   clear hW1 HD HG HEW c0 c1 f1
   obtain ⟨c0, c1, f1⟩ := HD1.out.c
   go_wp2_with fail
   go_quiet (fail)
   have HD2 := hid (HD1.out.drewN nq)
   have HG2 := hid (grown_below HG1.out (below_drewN (Below.refl _ _) nq))
   have HE2 := hid (HE1.out.drewN nq)
   obtain ⟨W2, hW2⟩ : ∃ W, W1.drewN nq = W := ⟨_, rfl⟩
   rw [hW2] at HD2 HG2 HE2 ⊢
   clear hW2 HD1 HG1 HE1 c0 c1 f1 hsq
   obtain ⟨c0, c1, f1⟩ := HD2.out.c
   obtain ⟨t9, u9, ce⟩ := HE2.out.number
   have HLE : Hid (p ≤ q) := hid (by have := HE.out; omega)
   by_cases hz : 0 < j ∧ cb = 0
   ·obtain ⟨hj0, rfl⟩ := hz
    have hji : ((7 * j : Nat) : Int) > 0 := by omega
    have HFL := hid (flaw_any HD2.out t9 u9)
    have HNO : Hid (∀ m, m < 18446744073709551616 → ¬ Fr (nb m) ((bts s).drop p)) := hid fun m hm hf => by
     obtain ⟨uu, hn⟩ := HM.out m hm hf
     exact hn.zero HCB.out hj0 HCJ.out
    go_wp2_with fail
    refine HFL.out.mono ?_
    rintro e w3 ⟨rfl, hw⟩
    have hw2 := hw.symm
    clear hw
    subst hw2
    go_wp2
    go_ret2
    exact ⟨q, HD2.out, HLE.out, hq, HG2.out, .inr ⟨_, rfl, ⟨_, _, _, rfl⟩, HNO.out⟩⟩
   ·by_cases ho : j = 9 ∧ 1 < cb
    ·obtain ⟨rfl, hcb1⟩ := ho
     have hc0 : ((cb : Int) == 0) = false := by simp; omega
     have hc1 : (cb : Int) > 1 := by omega
     have HFL := hid (flaw_any HD2.out t9 u9)
     have HNO : Hid (∀ m, m < 18446744073709551616 → ¬ Fr (nb m) ((bts s).drop p)) := hid fun m hm hf => by
      obtain ⟨uu, hn⟩ := HM.out m hm hf
      exact hn.over hm HCB.out (by rw [HCJ.out]; exact hcb1)
     go_wp2_with fail
     refine HFL.out.mono ?_
     rintro e w3 ⟨rfl, hw⟩
     have hw2 := hw.symm
     clear hw
     subst hw2
     go_wp2
     go_ret2
     exact ⟨q, HD2.out, HLE.out, hq, HG2.out, .inr ⟨_, rfl, ⟨_, _, _, rfl⟩, HNO.out⟩⟩
    ·obtain ⟨D, hD⟩ : ∃ D, cb % 128 = D := ⟨_, rfl⟩
     have hk1 : bits BinOp.and IntKind.u8 (cb : Int) 127 = (D : Int) := by rw [← hD]; exact and_127 hcl
     have hw1 : IntKind.u64.wrap (D : Int) = (D : Int) := by rw [IntKind.wrap_u64]; omega
     have HC : Hid (j = 0 ∨ (0 < j ∧ j < 9 ∧ ¬ cb = 0) ∨ (j = 9 ∧ ¬ cb = 0 ∧ ¬ 1 < cb)) := hid (by omega)
     clear hz ho
     have HAL := hid (add_lt (cb := cb) HJ.out hj (fun e => by have := HC.out; omega))
     rw [hD] at HAL
     have hw2 : IntKind.u64.wrap ((D : Int) * 2 ^ (7 * j)) = ((D * 128 ^ j : Nat) : Int) := wrap_shl HAL.out.1
     obtain ⟨X, hX⟩ : ∃ X, D * 128 ^ j = X := ⟨_, rfl⟩
     rw [hX] at hw2 HAL
     have hw3 : bits BinOp.or IntKind.u64 (nn : Int) (X : Int) = ((nn + X : Nat) : Int) := by
      rw [or_u64 nn X HAL.out.2.2 HAL.out.1, ← hX, or_add HJ.out.lt]
     obtain ⟨N, hN⟩ : ∃ N, nn + X = N := ⟨_, rfl⟩
     rw [hN] at hw3 HAL
     have HX : Hid (nn + cb % 128 * 128 ^ j = N ∧ D * 128 ^ j = X) := hid ⟨by rw [hD, hX]; exact hN, hX⟩
     clear hX hN hD
     rcases HC.out with rfl | ⟨h0, h9, hc0⟩ | ⟨rfl, hc0, hc1⟩
     ·obtain rfl : D = X := by simpa using HX.out.2
      go_upto_region 10 with fail
      have HD3 := hid (HD2.out.set (q + 1) ((q : Int) + 1) (by omega))
      have HG3 := hid (grown_set HG2.out 1 (.int .i64 ((q : Int) + 1)))
      obtain ⟨W3, hW3⟩ : ∃ W, W2.setCell ⟨r, 1, none⟩ (.int .i64 ((q : Int) + 1)) = W := ⟨_, rfl⟩
      rw [hW3] at HD3 HG3 ⊢
      clear hW3 c0 c1 f1
      by_cases h7 : cb < 128
      ·have h7i : (cb : Int) < 128 := by omega
       have HFR : Hid (nb N = ((bts s).drop p).take (0 + 1)) := hid (by
        have := HJ.out.last HCB.out (by rw [HCJ.out]; exact h7) (by rw [HCJ.out]; omega)
        rw [HCJ.out, HX.out.1] at this
        exact this)
       go_wp2
       go_ret2
       refine ⟨q + 1, HD3.out, by have := HLE.out; omega, by omega, HG3.out, .inl ⟨N, rfl, HAL.out.2.1, ?_, ?_⟩⟩
       ·rw [HFR.out, List.length_take, List.length_drop, bts_len]; have := HE.out; omega
       ·rw [HFR.out]; exact ⟨_, (List.take_append_drop _ _).symm⟩
      ·have h7i : ¬ (cb : Int) < 128 := by omega
       have HNX : Hid (JI ((bts s).drop p) (0 + 1) N) := hid (by
        have := HJ.out.more HCB.out (by rw [HCJ.out]; exact h7)
        rw [HCJ.out, HX.out.1] at this
        exact this)
       have HNM : Hid (∀ m, m < 18446744073709551616 → Fr (nb m) ((bts s).drop p) → ∃ uu, NI ((bts s).drop p) m (0 + 1) N uu) := hid fun m hm hf => by
        obtain ⟨uu, hn⟩ := HM.out m hm hf
        have h1 := ((hn.step hm HCB.out (by omega)).2.2 (by rw [HCJ.out]; exact h7)).1
        rw [hn.u (by omega), HCJ.out, HX.out.1] at h1
        exact ⟨_, h1⟩
       go_wp2
       go_roundw
       case rel => exact ⟨0 + 1, N, q + 1, rfl, by go_num, by omega, by have := HE.out; omega, by omega, HD3.out, HG3.out, HNX.out, HNM.out⟩
       case measure => simp [intOf]
     ·have h0i : ((7 * j : Nat) : Int) > 0 := by omega
      have h9i : (((7 * j : Nat) : Int) == 63) = false := by simp; omega
      have hci : ((cb : Int) == 0) = false := by simpa using hc0
      go_upto_region 10 with fail
      have HD3 := hid (HD2.out.set (q + 1) ((q : Int) + 1) (by omega))
      have HG3 := hid (grown_set HG2.out 1 (.int .i64 ((q : Int) + 1)))
      obtain ⟨W3, hW3⟩ : ∃ W, W2.setCell ⟨r, 1, none⟩ (.int .i64 ((q : Int) + 1)) = W := ⟨_, rfl⟩
      rw [hW3] at HD3 HG3 ⊢
      clear hW3 c0 c1 f1
      by_cases h7 : cb < 128
      ·have h7i : (cb : Int) < 128 := by omega
       have HFR : Hid (nb N = ((bts s).drop p).take (j + 1)) := hid (by
        have := HJ.out.last HCB.out (by rw [HCJ.out]; exact h7) (by rw [HCJ.out]; omega)
        rw [HCJ.out, HX.out.1] at this
        exact this)
       go_wp2
       go_ret2
       refine ⟨q + 1, HD3.out, by have := HLE.out; omega, by omega, HG3.out, .inl ⟨N, rfl, HAL.out.2.1, ?_, ?_⟩⟩
       ·rw [HFR.out, List.length_take, List.length_drop, bts_len]; have := HE.out; omega
       ·rw [HFR.out]; exact ⟨_, (List.take_append_drop _ _).symm⟩
      ·have h7i : ¬ (cb : Int) < 128 := by omega
       have HNX : Hid (JI ((bts s).drop p) (j + 1) N) := hid (by
        have := HJ.out.more HCB.out (by rw [HCJ.out]; exact h7)
        rw [HCJ.out, HX.out.1] at this
        exact this)
       have HNM : Hid (∀ m, m < 18446744073709551616 → Fr (nb m) ((bts s).drop p) → ∃ uu, NI ((bts s).drop p) m (j + 1) N uu) := hid fun m hm hf => by
        obtain ⟨uu, hn⟩ := HM.out m hm hf
        have h1 := ((hn.step hm HCB.out (by omega)).2.2 (by rw [HCJ.out]; exact h7)).1
        rw [hn.u (by omega), HCJ.out, HX.out.1] at h1
        exact ⟨_, h1⟩
       go_wp2
       go_roundw
       case rel => exact ⟨j + 1, N, q + 1, rfl, by go_num, by omega, by have := HE.out; omega, by omega, HD3.out, HG3.out, HNX.out, HNM.out⟩
       case measure => simp [intOf]; omega
     ·have hci : ((cb : Int) == 0) = false := by simpa using hc0
      have hcj : ¬ (cb : Int) > 1 := by omega
      have hw4 : IntKind.u64.wrap ((D : Int) * 9223372036854775808) = (X : Int) := hw2
      have h7 : cb < 128 := by omega
      go_upto_region 10 with fail
      have HD3 := hid (HD2.out.set (q + 1) ((q : Int) + 1) (by omega))
      have HG3 := hid (grown_set HG2.out 1 (.int .i64 ((q : Int) + 1)))
      obtain ⟨W3, hW3⟩ : ∃ W, W2.setCell ⟨r, 1, none⟩ (.int .i64 ((q : Int) + 1)) = W := ⟨_, rfl⟩
      rw [hW3] at HD3 HG3 ⊢
      clear hW3 c0 c1 f1
      have h7i : (cb : Int) < 128 := by omega
      have HFR : Hid (nb N = ((bts s).drop p).take (9 + 1)) := hid (by
       have := HJ.out.last HCB.out (by rw [HCJ.out]; exact h7) (by rw [HCJ.out]; omega)
       rw [HCJ.out, HX.out.1] at this
       exact this)
      go_wp2
      go_ret2
      refine ⟨q + 1, HD3.out, by have := HLE.out; omega, by omega, HG3.out, .inl ⟨N, rfl, HAL.out.2.1, ?_, ?_⟩⟩
      ·rw [HFR.out, List.length_take, List.length_drop, bts_len]; have := HE.out; omega
      ·rw [HFR.out]; exact ⟨_, (List.take_append_drop _ _).symm⟩
  ·have hge : ¬ (q : Int) < (s.size : Int) := by omega
   go_wp2_with fail
   go_quiet (fail)
   have HD1 := hid (HD.out.drewN nq)
   have HG1 := hid (grown_below HG.out (below_drewN (Below.refl _ _) nq))
   obtain ⟨t9, u9, ce⟩ := (HEW.out.drewN nq).ends
   have HFL := hid (flaw_any HD1.out t9 u9)
   have HNO : Hid (∀ m, m < 18446744073709551616 → ¬ Fr (nb m) ((bts s).drop p)) := hid fun m hm hf => by
    obtain ⟨uu, hn⟩ := HM.out m hm hf
    have h4 := fr_ne hn.fr
    have he := HE.out
    rw [List.drop_drop, List.length_drop, bts_len] at h4
    omega
   have HLE : Hid (p ≤ q) := hid (by have := HE.out; omega)
   go_wp2_with fail
   refine HFL.out.mono ?_
   rintro e w3 ⟨rfl, hw⟩
   have hw2 := hw.symm
   clear hw
   subst hw2
   go_wp2
   go_ret2
   exact ⟨q, HD1.out, HLE.out, hq, HG1.out, .inr ⟨_, rfl, ⟨_, _, _, rfl⟩, HNO.out⟩⟩
end Go.Proofs.YtcjgcipacfcjnaaGreatDoor.C.D
