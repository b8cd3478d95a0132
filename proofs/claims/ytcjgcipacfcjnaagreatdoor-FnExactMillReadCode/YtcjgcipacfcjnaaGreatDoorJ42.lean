import Derived.Test.YtcjgcipacfcjnaaGreatDoorJ38
import Derived.Test.YtcjgcipacfcjnaaGreatDoorJ40
import Derived.Test.YtcjgcipacfcjnaaGreatDoorJ41
namespace Go.Proofs.YtcjgcipacfcjnaaGreatDoor.C.D
open Go.RowKit Go.Extern.Stop Go.Stop Go.Extern
set_option maxRecDepth 20000
theorem rls (v x : Value) : ReflectliteValue.set #[v, x] = (do
  let (some (dst, a, fl), some (src, b, _)) := (← ReflectliteValue.parts v, ← ReflectliteValue.parts x)
   | unsupported (.noEntry "extern/(internal/reflectlite.Value).Set.zeroValue")
  if fl / ReflectliteValue.flagAddr % 2 == 0 then unsupported (.noEntry "extern/(internal/reflectlite.Value).Set.unaddressable")
  let val ← loadVar src b
  if ← Rtype.directlyAssignable dst src then storeVar dst a val
  else if ← Rtype.implements dst src then
   if (← Rtype.kind src) == 20 then
    match val with
    | .nilIface => unsupported (.noEntry "extern/reflectlite: a nil value of one interface type handed on as a value of another")
    | _ => storeVar dst a val
   else storeVar dst a (.iface src val)
  else panicString ("reflectlite.Set: value of type " ++ (← Rtype.spelt src) ++ " is not assignable to type " ++ (← Rtype.spelt dst))
  pure (.tuple #[])) := rfl
theorem rSet (t g : Nat) (a9 : Int) (t9 : TypeId) (u9 : Value) (W : World) (x0 x1 : Value) (hg : W.heap[g]? = some (.cells #[.int .i64 a9, .iface t9 u9] 70)) (ht : W.heap[t]? = some (.cells #[x0, x1] 70)) :
  (ReflectliteValue.set #[.agg #[.pointer (some ⟨7, 70, none⟩), .pointer (some ⟨t, 0, none⟩), .int .u64 409], .agg #[.pointer (some ⟨7, 70, none⟩), .pointer (some ⟨g, 0, none⟩), .int .u64 153]]).run Tryz.prog W
   = .ok (.tuple #[]) (W.setRow t #[.int .i64 a9, .iface t9 u9]) := by
 have hsz : ∀ w, (sizeOf 70).run Tryz.prog w = .ok 2 w := fun w => by kernel_rfl
 have hld : (loadCells ⟨g, 0, none⟩ 2).run Tryz.prog W = .ok #[.int .i64 a9, .iface t9 u9] W := by
  have := run_loadCells_list (P := Tryz.prog) W ⟨g, 0, none⟩ [.int .i64 a9, .iface t9 u9] (fun j v hj => by
   have hj3 : j < 2 := by have := (List.getElem?_eq_some_iff.1 hj).1; simpa using this
   have ea : (⟨g, 0, none⟩ : Addr).add j = ⟨g, j, none⟩ := by simp [Addr.add]; exact fun h => h.symm
   rw [ea, cell_hp hg j]
   simpa using hj)
  simpa using this
 have hst : (storeCells ⟨t, 0, none⟩ [.int .i64 a9, .iface t9 u9] 0).run Tryz.prog W = .ok () (W.setRow t #[.int .i64 a9, .iface t9 u9]) := by
  have := run_storeCells_at (P := Tryz.prog) t 0 70 [.int .i64 a9, .iface t9 u9] 0 #[x0, x1] W ht (by simp) (by simp [Value.oneCell'])
  simpa using this
 rw [rls]
 simp only [Sem.run_bind, rPartsFa, rPartsF, Result.andThen]
 simp [ReflectliteValue.flagAddr, loadVar, isAgg, underlying, Tryz.underlying70, hld, hsz, Result.andThen, rDirect, storeVar, Value.cells, hst]
end Go.Proofs.YtcjgcipacfcjnaaGreatDoor.C.D
namespace Go.Proofs.YtcjgcipacfcjnaaGreatDoor.C.D
open Go.RowKit
set_option maxRecDepth 20000
def ISerI (s : ByteArray) (r p : Nat) (w : World) (e : Ending) (w' : World) : Prop := ∃ q, RS w' r s q ∧ p ≤ q ∧ q ≤ s.size ∧ w.grownBy w' (some r) ∧ ((∃ (v : Value) (l : List Int), e = .returned (.tuple #[v, .nilIface]) ∧ OwnI w.heap.size w' v l ∧ (∀ x ∈ l, NumW x) ∧ l.length ≤ 200000 ∧ q = p + (SerF (fun k : Int => nb (uOf k)) l).length ∧ Fr (SerF (fun k : Int => nb (uOf k)) l) ((bts s).drop p)) ∨ ∃ (a : Int) (t : TypeId) (u : Value), e = .returned (.tuple #[.slice none 0 0, .iface 70 (.agg #[.int .i64 a, .iface t u])]) ∧ ∀ l : List Int, (∀ x ∈ l, NumW x) → l.length ≤ 200000 → ¬ Fr (SerF (fun k : Int => nb (uOf k)) l) ((bts s).drop p))
structure WII (s : ByteArray) (r p many : Nat) (w : World) (v : Value) (l : List Int) (q : Nat) (W : World) : Prop where
 rs : RS W r s q
 le : p ≤ q ∧ q ≤ s.size
 gr : w.grownBy W (some r)
 own : OwnI w.heap.size W v l
 si : SI (fun k : Int => nb (uOf k)) NumW s p many l q
theorem WII.step {s : ByteArray} {r p many q q' n : Nat} {w W1 W2 W3 W9 : World} {v v9 : Value} {l : List Int} (h : WII s r p many w v l q W1) (hr : r < w.heap.size) (hlt : l.length < many) (hd : RS W2 r s q') (hle : q ≤ q' ∧ q' ≤ s.size) (hg : W1.grownBy W2 (some r)) (hn : n ≤ 200000) (hq : q' = q + (nb n).length) (hf : Fr (nb n) ((bts s).drop q)) (h3 : Below W2.heap.size W2 W3) (h4 : W3.grownBy W9 v.ownBlock) (ho : W9.ownsRow w.heap.size 3 1 v9 (l.length + 1) (intsC l ++ [.int .i64 (n : Int)])) : WII s r p many w v9 (l ++ [(n : Int)]) q' W9 := by
 have h5 : OwnI w.heap.size W3 v l := own_next (own_growD h.own hg hr) h3
 refine ⟨box_other (hd.next h3) h5 (by decide) h4, ⟨by have := h.le; omega, hle.2⟩, grown_own (grown_below (grown_trans h.gr hg) h3) h5 h4, OwnI.more ho, h.si.more hlt ⟨by omega, by omega⟩ ?_ ?_⟩
 ·rw [uOf_nat n hn]; exact hf
 ·rw [uOf_nat n hn]; exact hq
theorem WII.own3 {s : ByteArray} {r p many q : Nat} {w W1 W2 W3 : World} {v : Value} {l : List Int} (h : WII s r p many w v l q W1) (hr : r < w.heap.size) (hg : W1.grownBy W2 (some r)) (h3 : Below W2.heap.size W2 W3) : W3.ownsRow w.heap.size 3 1 v l.length (intsC l) := own_next (own_growD h.own hg hr) h3
set_option maxHeartbeats 8000000 in
theorem iSerI_any {s : ByteArray} {r p : Nat} {w : World} (h : RS w r s p) (hev : EnvF w) (hf : FarG r) (hp : p ≤ s.size) (hs : s.size ≤ 200000) :
  Calls Tryz.prog 79 #[.pointer (some ⟨r, 0, none⟩), .func (.func 77) #[.pointer (some ⟨r, 0, none⟩)] #[]] w (ISerI s r p w) := by
 have HN := hid (iSize_any h hev hf hp hs)
 have HEV := hid hev
 have HF := hid hf
 have HRL := hid (lt_hp h)
 obtain ⟨j0, hi0, hz0, hs0, hb0⟩ := info_int
 have HHJ := hid (And.intro hi0 (And.intro hz0 (And.intro hs0 hb0)))
 clear h hev hf hi0 hz0 hs0 hb0
 go_enter Tryz.func79, Tryz.ntmps79
 go_wp2_with fail
 refine HN.out.mono ?_
 rintro e w1 ⟨q1, hd1, h11, h12, hg1, hc1⟩
 clear HN
 rcases hc1 with ⟨many, rfl, hmany, hq1, hfr1⟩ | ⟨m, a, t, u, rfl, hno⟩
 ·have HST : Hid (WII s r p many w (.slice none 0 0) [] q1 w1) := hid ⟨hd1, ⟨h11, h12⟩, hg1, OwnI.nil _ _, SI.start hfr1 hq1⟩
  clear hd1 h11 h12 hg1 hq1 hfr1
  go_wp2
  go_loopw [8, 20] (fun v i wr => ∃ (l : List Int) (q : Nat), i = .int .i64 l.length ∧ WII s r p many w v l q wr) (fun _ i _ => many - (intOf i).toNat)
  case atStart => exact ⟨[], q1, rfl, HST.out⟩
  case round =>
   obtain ⟨l, q, rfl, hwi⟩ := hrel
   have HP := hid hwi
   obtain ⟨av, cv, rfl⟩ := hwi.own.sl
   have hqs := hwi.le.2
   have hlm : l.length ≤ many := HP.out.si.le
   have HR := hid (iSize_any hwi.rs (HEV.out.grow hwi.gr HF.out) HF.out hqs hs)
   clear hwi HST
   by_cases hlt : l.length < many
   ·have hlti : (l.length : Int) < (many : Int) := by omega
    go_wp2_with fail
    refine HR.out.mono ?_
    rintro e w1 ⟨q2, hd, h1, h2, hg, hc⟩
    have HD := hid hd
    have HG := hid hg
    clear hd hg HR
    rcases hc with ⟨n, rfl, hn, hq2, hfr⟩ | ⟨m, a, t, u, rfl, hno⟩
    ·have HQ2 := hid hq2
     have HFR := hid hfr
     clear hq2 hfr
     have HB3 : Hid (Below w1.heap.size w1 (w1.alloc (.cells #[.int .i64 (n : Int)] 3))) := hid ((Below.refl _ _).alloc (Nat.le_refl _) _)
     have HO3 := hid (WII.own3 HP.out HRL.out HG.out HB3.out)
     go_upto_region 11 with (at_builtin;  refine wpList_append_own_at _ rfl (.tmp 30) (.tmp 32) 54 rfl w.heap.size 3 j0 (.int .i64 0) 1 8 Tryz.underlying54 HHJ.out.1 HHJ.out.2.1 HHJ.out.2.2.1 HHJ.out.2.2.2 rfl (by decide) (.slice av l.length cv) l.length (intsC l) rfl HO3.out ⟨w1.heap.size, 0, none⟩ 1 1 [.int .i64 (n : Int)] rfl rfl (lit_one _ _ _) (one_int _) (by unfold maxLen; omega) (by omega) (Nat.le_trans HP.out.gr.size (Nat.le_trans HG.out.size HB3.out.size)) ?_; intro v9 w9 o9 g9 _ _; have HW9 := hid (HP.out.step HRL.out hlt HD.out ⟨h1, h2⟩ HG.out hn HQ2.out HFR.out (HB3.out) g9 o9); obtain ⟨a9, c9, rfl⟩ := own_slN o9; clear o9 g9)
     go_wp2
     go_roundw
     case rel => exact ⟨_, q2, by rw [List.length_append]; go_num, HW9.out⟩
     case measure => simp [intOf]; omega
    ·have HNO := hid hno
     clear hno
     go_wp2
     go_ret2
     exact ⟨q2, HD.out, by have := HP.out.le.1; omega, h2, grown_trans HP.out.gr HG.out, .inr ⟨_, _, _, rfl, fun m hm _ => HP.out.si.no num_pre hlt (fun x hx hfx => HNO.out (uOf x) (by obtain ⟨h8, h9⟩ := hx; unfold uOf; omega) hfx) m hm⟩⟩
   ·have HDN := hid (HP.out.si.done hlt)
    go_wp2
    go_ret2
    exact ⟨q, HP.out.rs, HP.out.le.1, hqs, HP.out.gr, .inl ⟨_, l, rfl, HP.out.own, HP.out.si.all, HP.out.si.small hmany, HDN.out.2, HDN.out.1⟩⟩
 ·have HNO := hid hno
  clear hno
  go_wp2
  go_ret2
  exact ⟨q1, hd1, h11, h12, hg1, .inr ⟨_, _, _, rfl, fun l _ hl => ser_no HNO.out l hl⟩⟩
def ISerN (s : ByteArray) (r p : Nat) (w : World) (e : Ending) (w' : World) : Prop := ∃ q, RS w' r s q ∧ p ≤ q ∧ q ≤ s.size ∧ w.grownBy w' (some r) ∧ ((∃ (v : Value) (l : List In), e = .returned (.tuple #[v, .nilIface]) ∧ OwnN w.heap.size w' v l ∧ (∀ x ∈ l, InW x) ∧ l.length ≤ 200000 ∧ q = p + (SerF insF l).length ∧ Fr (SerF insF l) ((bts s).drop p)) ∨ ∃ (a : Int) (t : TypeId) (u : Value), e = .returned (.tuple #[.slice none 0 0, .iface 70 (.agg #[.int .i64 a, .iface t u])]) ∧ ∀ l : List In, (∀ x ∈ l, InW x) → l.length ≤ 200000 → ¬ Fr (SerF insF l) ((bts s).drop p))
structure WIN (s : ByteArray) (r p many : Nat) (w : World) (v : Value) (l : List In) (q : Nat) (W : World) : Prop where
 rs : RS W r s q
 le : p ≤ q ∧ q ≤ s.size
 gr : w.grownBy W (some r)
 own : OwnN w.heap.size W v l
 si : SI insF InW s p many l q
theorem WIN.step {s : ByteArray} {r p many q q' : Nat} {w W1 W2 W3 W9 : World} {v v9 : Value} {l : List In} {x : In} (h : WIN s r p many w v l q W1) (hr : r < w.heap.size) (hlt : l.length < many) (hd : RS W2 r s q') (hle : q ≤ q' ∧ q' ≤ s.size) (hg : W1.grownBy W2 (some r)) (hx : InW x) (hq : q' = q + (insF x).length) (hf : Fr (insF x) ((bts s).drop q)) (h3 : Below W2.heap.size W2 W3) (h4 : W3.grownBy W9 v.ownBlock) (ho : W9.ownsRow w.heap.size 84 4 v9 (l.length + 1) (insC l ++ [.int .i64 x.op, .int .i64 x.a, .int .i64 x.n, .string x.text])) : WIN s r p many w v9 (l ++ [x]) q' W9 := by
 have h5 : OwnN w.heap.size W3 v l := own_next (own_growD h.own hg hr) h3
 exact ⟨box_other (hd.next h3) h5 (by decide) h4, ⟨by have := h.le; omega, hle.2⟩, grown_own (grown_below (grown_trans h.gr hg) h3) h5 h4, OwnN.more ho, h.si.more hlt hx hf hq⟩
theorem lit_four1 (W : World) (o : Obj) (t : TypeId) (a b c e : Value) : ∀ j u, ([a, b, c, e] : List Value)[j]? = some u → ((W.alloc o).alloc (.cells #[a, b, c, e] t)).cell? ((⟨W.heap.size + 1, 0, none⟩ : Addr).add j) = some u := fun j u hj => by
 have := lit_four (W.alloc o) t a b c e j u hj
 rwa [World.size_alloc] at this
theorem WIN.own3 {s : ByteArray} {r p many q : Nat} {w W1 W2 W3 : World} {v : Value} {l : List In} (h : WIN s r p many w v l q W1) (hr : r < w.heap.size) (hg : W1.grownBy W2 (some r)) (h3 : Below W2.heap.size W2 W3) : W3.ownsRow w.heap.size 84 4 v l.length (insC l) := own_next (own_growD h.own hg hr) h3
set_option maxHeartbeats 8000000 in
theorem iSerN_any {s : ByteArray} {r p : Nat} {w : World} (h : RS w r s p) (hev : EnvF w) (hf : FarG r) (hp : p ≤ s.size) (hs : s.size ≤ 200000) :
  Calls Tryz.prog 80 #[.pointer (some ⟨r, 0, none⟩), .func (.func 81) #[.pointer (some ⟨r, 0, none⟩)] #[]] w (ISerN s r p w) := by
 have HN := hid (iSize_any h hev hf hp hs)
 have HEV := hid hev
 have HF := hid hf
 have HRL := hid (lt_hp h)
 obtain ⟨j0, hi0, hz0, hs0, hb0⟩ := info_ins
 have HHJ := hid (And.intro hi0 (And.intro hz0 (And.intro hs0 hb0)))
 clear h hev hf hi0 hz0 hs0 hb0
 go_enter Tryz.func80, Tryz.ntmps80
 go_wp2_with fail
 refine HN.out.mono ?_
 rintro e w1 ⟨q1, hd1, h11, h12, hg1, hc1⟩
 clear HN
 rcases hc1 with ⟨many, rfl, hmany, hq1, hfr1⟩ | ⟨m, a, t, u, rfl, hno⟩
 ·have HST : Hid (WIN s r p many w (.slice none 0 0) [] q1 w1) := hid ⟨hd1, ⟨h11, h12⟩, hg1, OwnN.nil _ _, SI.start hfr1 hq1⟩
  clear hd1 h11 h12 hg1 hq1 hfr1
  go_wp2
  go_loopw [8, 20] (fun v i wr => ∃ (l : List In) (q : Nat), i = .int .i64 l.length ∧ WIN s r p many w v l q wr) (fun _ i _ => many - (intOf i).toNat)
  case atStart => exact ⟨[], q1, rfl, HST.out⟩
  case round =>
   obtain ⟨l, q, rfl, hwi⟩ := hrel
   have HP := hid hwi
   obtain ⟨av, cv, rfl⟩ := hwi.own.sl
   have hqs := hwi.le.2
   have hlm : l.length ≤ many := HP.out.si.le
   have HR := hid (iIns_any hwi.rs (HEV.out.grow hwi.gr HF.out) HF.out hqs hs)
   clear hwi HST
   by_cases hlt : l.length < many
   ·have hlti : (l.length : Int) < (many : Int) := by omega
    go_wp2_with fail
    refine HR.out.mono ?_
    rintro e w1 ⟨q2, hd, h1, h2, hg, hc⟩
    have HD := hid hd
    have HG := hid hg
    clear hd hg HR
    rcases hc with ⟨x, rfl, hx, hq2, hfr⟩ | ⟨x, a, t, u, rfl, hno⟩
    ·have HQ2 := hid hq2
     have HFR := hid hfr
     clear hq2 hfr
     have HX := hid hx
     clear hx
     unfold inV
     have HB3 : Hid (Below w1.heap.size w1 ((w1.alloc (.cells #[.int .i64 x.op, .int .i64 x.a, .int .i64 x.n, .string x.text] 84)).alloc (.cells #[.int .i64 x.op, .int .i64 x.a, .int .i64 x.n, .string x.text] 84))) := hid (((Below.refl w1.heap.size w1).alloc (Nat.le_refl _) _).alloc (by simp) _)
     have HO3 := hid (WIN.own3 HP.out HRL.out HG.out HB3.out)
     go_upto_region 11 with (at_builtin;  refine wpList_append_own_at _ rfl (.tmp 30) (.tmp 32) 55 rfl w.heap.size 84 j0 (.agg #[.int .i64 0, .int .i64 0, .int .i64 0, .string ⟨#[]⟩]) 4 40 Tryz.underlying55 HHJ.out.1 HHJ.out.2.1 HHJ.out.2.2.1 HHJ.out.2.2.2 rfl (by decide) (.slice av l.length cv) l.length (insC l) rfl HO3.out ⟨(w1.heap.size + 1), 0, none⟩ 1 1 [.int .i64 x.op, .int .i64 x.a, .int .i64 x.n, .string x.text] rfl rfl (lit_four1 _ _ _ _ _ _ _) (one_four _ _ _ _) (by unfold maxLen; omega) (by omega) (Nat.le_trans HP.out.gr.size (Nat.le_trans HG.out.size HB3.out.size)) ?_; intro v9 w9 o9 g9 _ _; have HW9 := hid (HP.out.step HRL.out hlt HD.out ⟨h1, h2⟩ HG.out HX.out HQ2.out HFR.out (HB3.out) g9 o9); obtain ⟨a9, c9, rfl⟩ := own_slN o9; clear o9 g9)
     go_wp2
     go_roundw
     case rel => exact ⟨_, q2, by rw [List.length_append]; go_num, HW9.out⟩
     case measure => simp [intOf]; omega
    ·have HNO := hid hno
     clear hno
     unfold inV
     go_wp2
     go_ret2
     exact ⟨q2, HD.out.next ((Below.refl _ _).alloc (Nat.le_refl _) _), by have := HP.out.le.1; omega, h2, grown_below (grown_trans HP.out.gr HG.out) ((Below.refl _ _).alloc (Nat.le_refl _) _), .inr ⟨_, _, _, rfl, fun m hm _ => HP.out.si.no insW_pre hlt (HNO.out) m hm⟩⟩
   ·have HDN := hid (HP.out.si.done hlt)
    go_wp2
    go_ret2
    exact ⟨q, HP.out.rs, HP.out.le.1, hqs, HP.out.gr, .inl ⟨_, l, rfl, HP.out.own, HP.out.si.all, HP.out.si.small hmany, HDN.out.2, HDN.out.1⟩⟩
 ·have HNO := hid hno
  clear hno
  go_wp2
  go_ret2
  exact ⟨q1, hd1, h11, h12, hg1, .inr ⟨_, _, _, rfl, fun l _ hl => ser_no HNO.out l hl⟩⟩
def mkI (k n : Nat) : List Int := (List.range n).map fun i => ((k + i : Nat) : Int)
def mkN (k n : Nat) : List In := (List.range n).map fun i => ⟨((k + 4 * i : Nat) : Int), ((k + 4 * i + 1 : Nat) : Int), ((k + 4 * i + 2 : Nat) : Int), mtxt (k + 4 * i + 3)⟩
theorem mkI_len (k n : Nat) : (mkI k n).length = n := by simp [mkI]
theorem mkN_len (k n : Nat) : (mkN k n).length = n := by simp [mkN]
theorem mkI_at (k n : Nat) {i : Nat} (h : i < n) : (intsC (mkI k n))[i]? = some (.int .i64 (k + i : Nat)) := by
 simp [intsC, mkI, h]
theorem insC_len (l : List In) : (insC l).length = l.length * 4 := by
 induction l with
 | nil => rfl
 | cons x l ih => simp [insC] at ih ⊢; omega
theorem mkN_at (k n : Nat) {i : Nat} (h : i < n) : (insC (mkN k n))[i * 4]? = some (.int .i64 (k + 4 * i : Nat)) ∧ (insC (mkN k n))[i * 4 + 1]? = some (.int .i64 (k + 4 * i + 1 : Nat)) ∧ (insC (mkN k n))[i * 4 + 2]? = some (.int .i64 (k + 4 * i + 2 : Nat)) ∧ (insC (mkN k n))[i * 4 + 3]? = some (.string (mtxt (k + 4 * i + 3))) := by
 have hg := insC_get (mkN k n) i (by rw [mkN_len]; exact h)
 have e : (mkN k n).getD i in0 = ⟨((k + 4 * i : Nat) : Int), ((k + 4 * i + 1 : Nat) : Int), ((k + 4 * i + 2 : Nat) : Int), mtxt (k + 4 * i + 3)⟩ := by
  simp [mkN, List.getD_eq_getElem?_getD, h]
 rw [e] at hg
 exact hg
theorem own_keepB {W V : World} {B e k n : Nat} {v : Value} {xs : List Value} (h : W.ownsRow B e k v n xs) (hk : ∀ g, v.ownBlock = some g → V.heap[g]? = W.heap[g]?) : V.ownsRow B e k v n xs := by
 obtain ⟨h1, h2 | ⟨g, cap, cur, a, b, c, r⟩⟩ := h
 ·exact ⟨h1, .inl h2⟩
 ·exact ⟨h1, .inr ⟨g, cap, cur, a, b, (hk g (by rw [a]; simp [Value.ownBlock])).trans c, r⟩⟩
theorem own_cells {V : World} {B e k n g cap : Nat} {cu : Array Value} {ys : List Value} (hB : B ≤ g) (hc : V.heap[g]? = some (.cells cu e (0, 0))) (h1 : n ≤ cap) (h2 : cap ≤ maxLen) (h3 : cu.size = cap * k) (hl : ys.length = n * k) (hy : ∀ i, i < n * k → cu[i]? = ys[i]?) : V.ownsRow B e k (.slice (some ⟨g, 0, none⟩) n cap) n ys := by
 refine ⟨hl, .inr ⟨g, cap, cu, rfl, hB, hc, h1, h2, h3, ?_⟩⟩
 refine List.ext_getElem? fun i => ?_
 by_cases hi : i < n * k
 ·rw [List.getElem?_take_of_lt hi, Array.getElem?_toList]
  exact hy i hi
 ·rw [List.getElem?_eq_none (by rw [List.length_take]; omega), List.getElem?_eq_none (by omega)]
theorem own_open {W : World} {B e k n : Nat} {v : Value} {xs : List Value} (h : W.ownsRow B e k v n xs) : (v = .slice none 0 0 ∧ n = 0 ∧ xs = []) ∨ ∃ g cap cur, v = .slice (some ⟨g, 0, none⟩) n cap ∧ B ≤ g ∧ W.heap[g]? = some (.cells cur e (0, 0)) ∧ n ≤ cap ∧ cap ≤ maxLen ∧ cur.size = cap * k ∧ xs.length = n * k ∧ ∀ i, i < n * k → cur[i]? = xs[i]? := by
 obtain ⟨h1, ⟨a, b⟩ | ⟨g, cap, cur, a, b, c, d, e, f, t⟩⟩ := h
 ·subst b
  exact .inl ⟨a, rfl, List.eq_nil_of_length_eq_zero (by rw [h1]; simp)⟩
 ·refine .inr ⟨g, cap, cur, a, b, c, d, e, f, h1, fun i hi => ?_⟩
  rw [← t, List.getElem?_take_of_lt hi, Array.getElem?_toList]
theorem grown_none {w w' : World} (h : w' = w) (v : Value) : w.grownBy w' v.ownBlock := by subst h; exact ⟨rfl, rfl, rfl, Nat.le_refl _, fun _ _ _ => rfl⟩
set_option maxHeartbeats 4000000 in
theorem markI_nil (K : Nat) (w : World) :
  Calls Tryz.prog 57 #[.slice none 0 0, .int .i64 K] w fun e w' => e = .returned (.int .i64 K) ∧ w' = w := by
 go_enter Tryz.func57, Tryz.ntmps57
 go_wp2
 go_loop [1, 5] (fun k i => k = .int .i64 K ∧ i = .int .i64 0) (fun _ _ => 0)
 case atStart => exact ⟨rfl, rfl⟩
 case round =>
  obtain ⟨rfl, rfl⟩ := hrel
  go_wp2
  go_ret
  exact ⟨rfl, rfl⟩
set_option maxHeartbeats 4000000 in
theorem markI_own {B K : Nat} {v : Value} {l : List Int} (w : World) (h : OwnI B w v l) (hn : l.length ≤ 200000) (hK : K ≤ 100000000) :
  Calls Tryz.prog 57 #[v, .int .i64 K] w fun e w' => e = .returned (.int .i64 (K + l.length : Nat)) ∧ w.grownBy w' v.ownBlock ∧ OwnI B w' v (mkI K l.length) := by
 rcases own_open h with ⟨rfl, h0, _⟩ | ⟨g, cap, cur, rfl, hB, hc, h1, h2, h3, h4, h5⟩
 ·refine (markI_nil K w).mono ?_
  rintro e w' ⟨rfl, rfl⟩
  rw [h0]
  exact ⟨rfl, grown_none rfl _, OwnI.nil _ _⟩
 ·have HC := hid hc
  have H3 : Hid (cur.size = cap * 1) := hid h3
  obtain ⟨n, hln⟩ : ∃ n, l.length = n := ⟨_, rfl⟩
  rw [hln] at hn h1 ⊢
  have HCN := hid h1
  have HM := hid h2
  clear hc h h3 h4 h5 hln h1 h2
  go_enter Tryz.func57, Tryz.ntmps57
  go_wp2
  go_loopw [1, 5] (fun k i wr => ∃ (j : Nat) (cu : Array Value), i = .int .i64 j ∧ k = .int .i64 (K + j : Nat) ∧ j ≤ n ∧ w.grownBy wr (some g) ∧ wr.heap[g]? = some (.cells cu 3 (0, 0)) ∧ cu.size = cap * 1 ∧ ∀ i, i < j → cu[i]? = some (.int .i64 (K + i : Nat))) (fun _ i _ => n - (intOf i).toNat)
  case atStart => exact ⟨0, cur, rfl, rfl, Nat.zero_le _, grown_refl _ _, HC.out, H3.out, fun i h => absurd h (Nat.not_lt_zero _)⟩
  case round =>
   obtain ⟨j, cu, rfl, rfl, hj, hgw, hh, hcs, hall⟩ := hrel
   have HG := hid hgw
   have HH := hid hh
   have HALL := hid hall
   have HCS := hid hcs
   clear hgw hall hcs hh
   by_cases hlt : j < n
   ·have HJ : Hid (j < cu.size) := hid (by rw [HCS.out]; have := HCN.out; omega)
    obtain ⟨v0, x0⟩ : ∃ v, wr.cell? ⟨g, j, none⟩ = some v := ⟨_, (R.row_cell HH.out j).trans (Array.getElem?_eq_getElem HJ.out)⟩
    have f0 : wr.frozen? ⟨g, j, none⟩ = false := frozen_hp HH.out j
    have HF : Hid ((wr.setCell ⟨g, j, none⟩ (.int .i64 (K + j : Nat))).heap[g]? = some (.cells (cu.setIfInBounds j (.int .i64 (K + j : Nat))) 3 (0, 0))) := hid (R.set_at _ HH.out)
    have HGR := hid (grown_set HG.out j (.int .i64 (K + j : Nat)))
    go_wp2
    go_roundw
    case rel =>
     refine ⟨j + 1, _, by go_num, by go_num, by omega, HGR.out, HF.out, by rw [Array.size_setIfInBounds]; exact HCS.out, fun i hi => ?_⟩
     by_cases e : i = j
     ·subst e
      rw [Array.getElem?_setIfInBounds_self_of_lt HJ.out]
     ·rw [Array.getElem?_setIfInBounds_ne (fun h => e h.symm)]
      exact HALL.out i (by omega)
    case measure => simp [intOf]; omega
   ·obtain rfl : j = n := by omega
    go_wp2
    go_ret
    refine ⟨rfl, HG.out, ?_⟩
    unfold OwnI
    rw [mkI_len]
    exact own_cells hB HH.out HCN.out HM.out HCS.out (by simp [intsC, mkI_len]) fun i hi => by rw [Nat.mul_one] at hi; rw [mkI_at K _ hi]; exact HALL.out i hi
set_option maxHeartbeats 4000000 in
theorem heldI_nil (K : Nat) (w : World) :
  Calls Tryz.prog 59 #[.slice none 0 0, .int .i64 K] w fun e w' => e = .returned (.int .i64 K) ∧ w' = w := by
 go_enter Tryz.func59, Tryz.ntmps59
 go_wp2
 go_loop [1, 5] (fun k i => k = .int .i64 K ∧ i = .int .i64 0) (fun _ _ => 0)
 case atStart => exact ⟨rfl, rfl⟩
 case round =>
  obtain ⟨rfl, rfl⟩ := hrel
  go_wp2
  go_ret
  exact ⟨rfl, rfl⟩
set_option maxHeartbeats 4000000 in
theorem heldI_own {B K n : Nat} {v : Value} (w : World) (h : OwnI B w v (mkI K n)) (hn : n ≤ 200000) (hK : K ≤ 100000000) :
  Calls Tryz.prog 59 #[v, .int .i64 K] w fun e w' => e = .returned (.int .i64 (K + n : Nat)) ∧ w' = w := by
 unfold OwnI at h
 rw [mkI_len] at h
 rcases own_open h with ⟨rfl, h0, _⟩ | ⟨g, cap, cur, rfl, hB, hc, h1, h2, h3, h4, h5⟩
 ·subst h0
  exact heldI_nil K w
 ·have HC : Hid (∀ j, j < n → w.cell? ⟨g, j, none⟩ = some (.int .i64 (K + j : Nat))) := hid fun j hj => (R.row_cell hc j).trans ((h5 j (by omega)).trans (mkI_at K n hj))
  clear hc h h3 h4 h5 h1 h2 hB
  go_enter Tryz.func59, Tryz.ntmps59
  go_wp2
  go_loopw [1, 5] (fun k i wr => ∃ j : Nat, i = .int .i64 j ∧ k = .int .i64 (K + j : Nat) ∧ j ≤ n ∧ wr = w) (fun _ i _ => n - (intOf i).toNat)
  case atStart => exact ⟨0, rfl, rfl, Nat.zero_le _, rfl⟩
  case round =>
   obtain ⟨j, rfl, rfl, hj, rfl⟩ := hrel
   by_cases hlt : j < n
   ·have x0 : wr.cell? ⟨g, j, none⟩ = some (.int .i64 (K + j : Nat)) := HC.out j hlt
    have hne : (((K + j : Nat) : Int) != ((K + j : Nat) : Int)) = false := by simp
    go_wp2
    go_roundw
    case rel => exact ⟨j + 1, by go_num, by go_num, by omega, by trivial⟩
    case measure => simp [intOf]; omega
   ·obtain rfl : j = n := by omega
    go_wp2
    go_ret
    exact ⟨rfl, rfl⟩
end Go.Proofs.YtcjgcipacfcjnaaGreatDoor.C.D
