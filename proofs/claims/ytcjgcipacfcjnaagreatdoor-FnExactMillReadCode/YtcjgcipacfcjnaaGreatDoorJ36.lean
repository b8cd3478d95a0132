import Derived.Test.YtcjgcipacfcjnaaGreatDoorJ35
import Derived.Test.YtcjgcipacfcjnaaGreatDoorJ13
namespace Go.Proofs.YtcjgcipacfcjnaaGreatDoor.C
open Go.RowKit
set_option maxRecDepth 20000
theorem as_nil (v : Value) (w : World) : Calls Tryz.prog 28 #[.nilIface, v] w fun e w' => e = .returned (.bool false) ∧ w' = w := by
 go_enter Tryz.func28, Tryz.ntmps28
 go_wp2_with fail
 go_ret
 exact ⟨rfl, rfl⟩
end Go.Proofs.YtcjgcipacfcjnaaGreatDoor.C
namespace Go.Proofs.YtcjgcipacfcjnaaGreatDoor.C.D
open Go.RowKit
set_option maxRecDepth 20000
def ISzEnd (s : ByteArray) (r p : Nat) (w : World) (e : Ending) (w' : World) : Prop := ∃ q, RS w' r s q ∧ p ≤ q ∧ q ≤ s.size ∧ w.grownBy w' (some r) ∧ ((∃ n : Nat, e = .returned (.tuple #[.int .i64 n, .nilIface]) ∧ n ≤ 200000 ∧ q = p + (nb n).length ∧ Fr (nb n) ((bts s).drop p)) ∨ ∃ (m a : Int) (t : TypeId) (u : Value), e = .returned (.tuple #[.int .i64 m, .iface 70 (.agg #[.int .i64 a, .iface t u])]) ∧ ∀ n, n ≤ 200000 → ¬ Fr (nb n) ((bts s).drop p))
theorem uOf_nat (n : Nat) (h : n ≤ 200000) : uOf (n : Int) = n := by unfold uOf; omega
theorem fr_nb {a b : Nat} {d : List UInt8} (h : Fr (nb a) d) (k : Fr (nb b) d) : a = b := by
 obtain ⟨x, rfl⟩ := h
 obtain ⟨y, hy⟩ := k
 exact (nb_pre _ _ _ _ hy).1
set_option maxHeartbeats 4000000 in
theorem iSize_any {s : ByteArray} {r p : Nat} {w : World} (h : RS w r s p) (hev : EnvF w) (hf : FarG r) (hp : p ≤ s.size) (hs : s.size ≤ 200000) :
  Calls Tryz.prog 77 #[.pointer (some ⟨r, 0, none⟩)] w (ISzEnd s r p w) := by
 have HN := hid (iNum_any h hev hf hp hs)
 have HEV := hid hev
 have HF := hid hf
 clear h hev hf
 go_enter Tryz.func77, Tryz.ntmps77
 go_wp2_with fail
 refine HN.out.mono ?_
 rintro e w1 ⟨q, hd, h1, h2, hg, hc⟩
 have HD := hid hd
 have HG := hid hg
 obtain ⟨t9, u9, ce⟩ := (HEV.out.grow hg HF.out).number
 clear hd hg HN
 rcases hc with ⟨n, rfl, hn, hq, hfr⟩ | ⟨v, rfl, ⟨a, t, u, rfl⟩, hno⟩
 ·have HFR := hid hfr
  have HQ := hid hq
  clear hfr hq
  by_cases hb : 200000 < n
  ·have hbi : (n : Int) > 200000 := by omega
   have HFL := hid (flaw_any HD.out t9 u9)
   go_wp2_with fail
   refine HFL.out.mono ?_
   rintro e w2 ⟨rfl, hw⟩
   have hw2 := hw.symm
   clear hw
   subst hw2
   go_wp2
   go_ret2
   exact ⟨q, HD.out, h1, h2, HG.out, .inr ⟨_, _, _, _, rfl, fun m hm hfm => by have := fr_nb HFR.out hfm; omega⟩⟩
  ·have hbi : ¬ (n : Int) > 200000 := by omega
   have hwn : IntKind.i64.wrap (n : Int) = (n : Int) := by rw [IntKind.wrap_i64]; omega
   go_wp2
   go_ret2
   exact ⟨q, HD.out, h1, h2, HG.out, .inl ⟨n, rfl, by omega, HQ.out, HFR.out⟩⟩
 ·have HNO := hid hno
  clear hno
  go_wp2
  go_ret2
  exact ⟨q, HD.out, h1, h2, HG.out, .inr ⟨_, _, _, _, rfl, fun m hm => HNO.out m (by omega)⟩⟩
def ITxEnd (s : ByteArray) (r p : Nat) (w : World) (e : Ending) (w' : World) : Prop := ∃ q, RS w' r s q ∧ p ≤ q ∧ q ≤ s.size ∧ w.grownBy w' (some r) ∧ ((∃ x : ByteArray, e = .returned (.tuple #[.string x, .nilIface]) ∧ x.size ≤ 200000 ∧ q = p + (tb x).length ∧ Fr (tb x) ((bts s).drop p)) ∨ ∃ (x : ByteArray) (a : Int) (t : TypeId) (u : Value), e = .returned (.tuple #[.string x, .iface 70 (.agg #[.int .i64 a, .iface t u])]) ∧ ∀ x, x.size ≤ 200000 → ¬ Fr (tb x) ((bts s).drop p))
theorem fr_join {a b : List UInt8} {s : ByteArray} {p q : Nat} (h : Fr a ((bts s).drop p)) (hq : q = p + a.length) (k : Fr b ((bts s).drop q)) : Fr (a ++ b) ((bts s).drop p) := by
 obtain ⟨x, hx⟩ := h
 obtain ⟨y, hy⟩ := k
 subst hq
 rw [← List.drop_drop, hx, List.drop_left] at hy
 exact ⟨y, by rw [hx, hy, List.append_assoc]⟩
theorem tb_fr {x s : ByteArray} {p : Nat} (h : Fr (tb x) ((bts s).drop p)) : Fr (nb x.size) ((bts s).drop p) ∧ Fr (bts x) ((bts s).drop (p + (nb x.size).length)) := fr_at h
theorem ext_fr {s : ByteArray} {q n : Nat} (_h : q + n ≤ s.size) : Fr (bts (s.extract q (q + n))) ((bts s).drop q) := by
 refine ⟨((bts s).drop q).drop n, ?_⟩
 rw [ext_bts, show q + n - q = n by omega, List.take_append_drop]
theorem tb_len (x : ByteArray) : (tb x).length = (nb x.size).length + x.size := by unfold tb; rw [List.length_append, len_sizeF]
set_option maxHeartbeats 4000000 in
theorem iText_any {s : ByteArray} {r p : Nat} {w : World} (h : RS w r s p) (hev : EnvF w) (hf : FarG r) (hp : p ≤ s.size) (hs : s.size ≤ 200000) :
  Calls Tryz.prog 78 #[.pointer (some ⟨r, 0, none⟩)] w (ITxEnd s r p w) := by
 have HN := hid (iSize_any h hev hf hp hs)
 have HEV := hid hev
 have HF := hid hf
 clear h hev hf
 go_enter Tryz.func78, Tryz.ntmps78
 go_wp2_with fail
 refine HN.out.mono ?_
 rintro e w1 ⟨q, hd, h1, h2, hg, hc⟩
 have HD := hid hd
 have HG := hid hg
 have HEW := hid (HEV.out.grow hg HF.out)
 obtain ⟨c0, c1, f1⟩ := hd.c
 clear hd hg HN
 rcases hc with ⟨n, rfl, hn, hq, hfr⟩ | ⟨m, a, t, u, rfl, hno⟩
 ·have HFR := hid hfr
  have HQ := hid hq
  clear hfr hq
  have hw0 : IntKind.i64.wrap ((s.size : Int) - (q : Int)) = (s.size : Int) - (q : Int) := by rw [IntKind.wrap_i64]; omega
  by_cases hb : s.size < q + n
  ·have hbi : (n : Int) > (s.size : Int) - (q : Int) := by omega
   go_wp2_with fail
   go_quiet (fail)
   obtain ⟨t9, u9, ce⟩ := (HEW.out.drewN nq).ends
   have HFL := hid (flaw_any (HD.out.drewN nq) t9 u9)
   go_wp2_with fail
   refine HFL.out.mono ?_
   rintro e w2 ⟨rfl, hw⟩
   subst hw
   go_wp2
   go_ret2
   refine ⟨q, HD.out.drewN nq, h1, h2, grown_below HG.out (below_drewN (Below.refl _ _) nq), .inr ⟨_, _, _, _, rfl, fun x hx hfx => ?_⟩⟩
   obtain ⟨k1, k2⟩ := tb_fr hfx
   have e1 := fr_nb HFR.out k1
   have e2 := HQ.out
   rw [e1] at e2
   rw [← e2] at k2
   have := fr_len k2 h2
   rw [bts_len] at this
   omega
  ·have hbi : ¬ (n : Int) > (s.size : Int) - (q : Int) := by omega
   go_wp2_with fail
   go_quiet (fail)
   have HD2 := hid (HD.out.drewN nq)
   have HG2 := hid (grown_below HG.out (below_drewN (Below.refl _ _) nq))
   obtain ⟨W2, hW2⟩ : ∃ W, w1.drewN nq = W := ⟨_, rfl⟩
   rw [hW2] at HD2 HG2 ⊢
   clear hW2 c0 c1 f1 HD HG
   obtain ⟨c0, c1, f1⟩ := HD2.out.c
   have hrl := lt_hp HD2.out
   have A0 := fun p : R.Gr W2 => (p.h.cell (p := ⟨r, 0, none⟩) hrl).trans c0
   have A1 := fun p : R.Gr W2 => (p.h.cell (p := ⟨r, 1, none⟩) hrl).trans c1
   clear c0 c1 f1 hrl
   have HX : Hid ((s.extract q (q + n)).size = n) := hid (by rw [ByteArray.size_extract]; omega)
   have HXF : Hid (Fr (bts (s.extract q (q + n))) ((bts s).drop q)) := hid (ext_fr (by omega))
   have HCL : Hid (∀ V, Calls Tryz.prog 105 #[.string (s.extract q (q + n))] V fun e w' => e = .returned (.string (s.extract q (q + n))) ∧ Below V.heap.size V w') := hid fun V => clone_any _ V (by rw [HX.out]; omega)
   go_wp2_with fail
   have hne2 : Nonempty (R.Gr W2) := ⟨⟨W2, Below.refl _ _⟩⟩
   refine R.wp_region_gr (by kernel_rfl) (by kernel_rfl) ?_
   repeat (go_big_quiet_step (first | (go_at_call 105; refine R.Calls.gr_of (v := .string (s.extract q (q + n))) fun hpw => ?_; exact HCL.out _)))
   refine wpQuiet_nil ?_
   intro _ hw'
   obtain ⟨pw, rfl⟩ := hw'
   have HD3 := hid (HD2.out.next pw.h)
   have HG3 := hid (grown_below HG2.out pw.h)
   obtain ⟨W3, hW3⟩ : ∃ W, pw.W = W := ⟨_, rfl⟩
   rw [hW3] at HD3 HG3 ⊢
   clear hW3 A0 A1 hne2
   obtain ⟨c0, c1, f1⟩ := HD3.out.c
   obtain ⟨x, hx⟩ : ∃ x, s.extract q (q + n) = x := ⟨_, rfl⟩
   rw [hx] at HX HXF ⊢
   clear hx HCL
   go_wp2
   go_ret2
   refine ⟨q + n, HD3.out.set (q + n) _ (by omega), by omega, by omega, grown_set HG3.out 1 _, .inl ⟨x, rfl, by rw [HX.out]; omega, ?_, ?_⟩⟩
   ·rw [tb_len, HX.out, HQ.out]; omega
   ·unfold tb
    rw [HX.out]
    exact fr_join HFR.out HQ.out HXF.out
 ·have HNO := hid hno
  clear hno
  go_wp2
  go_ret2
  exact ⟨q, HD.out, h1, h2, HG.out, .inr ⟨_, _, _, _, rfl, fun x hx hfx => HNO.out x.size hx (tb_fr hfx).1⟩⟩
end Go.Proofs.YtcjgcipacfcjnaaGreatDoor.C.D
