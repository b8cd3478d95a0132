import Derived.Test.YtcjgcipacfcjnaaGreatDoorJ03
namespace Go.Proofs.YtcjgcipacfcjnaaGreatDoor.C
open Go.RowKit
set_option maxRecDepth 20000
theorem below_drewN {B : Nat} {w w' : World} (h : Below B w w') (n : Nat) : Below B w (w'.drewN n) := h.trans ⟨rfl, rfl, rfl, Nat.le_refl _, fun _ _ => rfl⟩
theorem builtWord_c (t : Int) (h1 : 1 ≤ t) (h2 : t ≤ 12) (w : World) :
  Calls Tryz.prog 113 #[.int .i64 t] w fun e w' => (∃ s, e = .returned (.tuple #[.string s, .int .i64 ((sig t).1.length : Nat)])) ∧ w' = w := by
 obtain rfl | rfl | rfl | rfl | rfl | rfl | rfl | rfl | rfl | rfl | rfl | rfl : t = 1 ∨ t = 2 ∨ t = 3 ∨ t = 4 ∨ t = 5 ∨ t = 6 ∨ t = 7 ∨ t = 8 ∨ t = 9 ∨ t = 10 ∨ t = 11 ∨ t = 12 := by omega
 all_goals go_enter Tryz.func113, Tryz.ntmps113
 all_goals go_wp2
 all_goals go_ret2
 all_goals exact ⟨⟨_, rfl⟩, rfl⟩
set_option maxHeartbeats 4000000 in
theorem l12Built_any (op : Int) (v : Value) (l : List Int) (w : World) (h1 : 1 ≤ op) (h2 : op ≤ 12) (hv : IntPart w v l) (hl : ∀ x ∈ l, 1 ≤ x ∧ x ≤ 10) (_hn : l.length ≤ 1000) :
  Calls Tryz.prog 114 #[.int .i64 op, v] w fun e w' => e = .returned (.int .i64 (builtG op l)) ∧ Below w.heap.size w w' := by
 have HV := hid hv
 obtain ⟨ad, c, rfl, hv3⟩ := hv
 clear hv3
 have HL := hid hl
 clear hl
 go_enter Tryz.func114, Tryz.ntmps114
 go_wp2_with fail
 refine (l12Wants_any op _ h1 h2).mono ?_
 rintro e w1 ⟨v1, rfl, hr1, hb1⟩
 have HB1 := hid hb1
 have HR1 := hid hr1
 have HA := hid (sig_asks op)
 obtain ⟨a1, c1, rfl⟩ := hr1.sl
 have HG : Hid (builtG op l = if fitL (sig op).1 l = true then (sig op).2 else 0) := rfl
 obtain ⟨L, hL⟩ : ∃ L, (sig op).1 = L := ⟨_, rfl⟩
 obtain ⟨G, hG⟩ : ∃ G, (sig op).2 = G := ⟨_, rfl⟩
 rw [hL] at HR1 HA HG ⊢
 rw [hG] at HG ⊢
 have hml : (L.map mw).length = L.length := by simp
 have hL3 : L.length ≤ 3 := by
  rw [← hL]
  unfold sig
  (repeat' split) <;> simp
 rw [hml] at ⊢
 clear hr1 hb1 hL hG
 by_cases hle : L.length = l.length
 ·have hlf : ((L.length : Int) != (l.length : Int)) = false := by simp; omega
  go_wp2
  go_loopw [7] (fun a wr => ∃ q : Nat, q ≤ L.length ∧ a = .int .i64 q ∧ Below w1.heap.size w1 wr ∧ ∀ i, i < q → fitK (L.getD i 0) (l.getD i 0) = true) (fun a _ => L.length - (intOf a).toNat)
  case atStart => exact ⟨0, Nat.zero_le _, rfl, Below.refl _ _, fun i hi => absurd hi (Nat.not_lt_zero _)⟩
  case round =>
   obtain ⟨q, hq, rfl, hbr, hfit⟩ := hrel
   have HBR := hid hbr
   have HFI := hid hfit
   clear hbr hfit
   by_cases hlt : q < L.length
   ·obtain ⟨g2, c2, e2, _, _, hg2, hc2⟩ := (HR1.out.next HBR.out).at (i := q) (by simp; exact hlt)
    obtain ⟨adx, cx, ex, hx⟩ := (HV.out.next (HB1.out.trans (HBR.out.mono HB1.out.size)))
    obtain ⟨g3, o3, e3, hg3, hc3⟩ := hx.resolve_left (fun e => by have h9 : l.length = 0 := (by rw [e]; rfl); omega)
    simp only [Value.slice.injEq] at ex e2
    obtain ⟨rfl, _, rfl⟩ := ex
    obtain ⟨rfl, _, rfl⟩ := e2
    subst e3
    have k2 := hc2 q (by simp; exact hlt)
    have k3 := hc3 q (by omega)
    have hmm : (L.map mw).getD q 0 = mw (L.getD q 0) := by simp [List.getD_eq_getElem?_getD, hlt]
    rw [hmm] at k2
    have hA := HA.out (L.getD q 0) (by rw [List.getD_eq_getElem?_getD, List.getElem?_eq_getElem hlt]; exact List.getElem_mem hlt)
    have hX := HL.out (l.getD q 0) (by rw [List.getD_eq_getElem?_getD, List.getElem?_eq_getElem (by omega)]; exact List.getElem_mem (by omega))
    have HFQ := hid (fit_iff hA hX.1)
    obtain ⟨x, hx2⟩ : ∃ x, l.getD q 0 = x := ⟨_, rfl⟩
    obtain ⟨y, hy2⟩ : ∃ y, mw (L.getD q 0) = y := ⟨_, rfl⟩
    rw [hx2] at k3 HFQ
    rw [hy2] at k2 HFQ
    have hl1 : (q : Int) < (l.length : Int) := by omega
    have hl2 : q < l.length := by omega
    have HXX := hid hx2
    clear hc2 hc3 hA hX hmm hx2 hy2
    go_upto_region 7 with fail
    go_cut [47] (fun c wx => ∃ b : Bool, c = .bool b ∧ (b = true ↔ ¬ fitK (L.getD q 0) x = true) ∧ Below w1.heap.size w1 wx)
    case first =>
     by_cases hxy : x = y
     ·have hxf : (x != y) = false := by simpa using hxy
      go_quiet (fail)
      go_wp2_with fail
      go_meet
      case rel => exact ⟨false, rfl, ⟨(fun h => by cases h), fun h => absurd (HFQ.out.2 (fun hh => hh.1 hxy)) h⟩, below_drewN HBR.out _⟩
     ·have hxf : (x != y) = true := by simpa using hxy
      by_cases hy0 : y = 0
      ·subst hy0
       have hyf : ((0 : Int) != 0) = false := rfl
       cases hii : isI x
       ·have HII : Hid (isI x = false) := hii
        have HCI : Hid (∀ W, Calls Tryz.prog 109 #[.int .i64 x] W fun e w' => e = .returned (.bool false) ∧ w' = W) := fun W => by
         have h9 := l10Integer_c x W
         rw [hii] at h9
         exact h9
        clear hii
        go_quiet ((go_at_call 109; exact Calls.quiet_of_same (HCI.out _)))
        go_wp2_with fail
        go_meet
        case rel => exact ⟨true, rfl, ⟨fun _ h => (HFQ.out.1 h) ⟨hxy, .inr HII.out⟩, fun _ => rfl⟩, below_drewN HBR.out _⟩
       ·have HII : Hid (isI x = true) := hii
        have HCI : Hid (∀ W, Calls Tryz.prog 109 #[.int .i64 x] W fun e w' => e = .returned (.bool true) ∧ w' = W) := fun W => by
         have h9 := l10Integer_c x W
         rw [hii] at h9
         exact h9
        clear hii
        go_quiet ((go_at_call 109; exact Calls.quiet_of_same (HCI.out _)))
        go_wp2_with fail
        go_meet
        case rel => exact ⟨false, rfl, ⟨(fun h => by cases h), fun h => absurd (HFQ.out.2 (fun hh => hh.2.elim (fun k => k (by trivial)) (fun k => by rw [HII.out] at k; cases k))) h⟩, below_drewN HBR.out _⟩
      ·have hyf : (y != 0) = true := by simpa using hy0
       go_quiet (fail)
       go_wp2_with fail
       go_meet
       case rel => exact ⟨true, rfl, ⟨fun _ h => (HFQ.out.1 h) ⟨hxy, .inl hy0⟩, fun _ => rfl⟩, below_drewN HBR.out _⟩
    case rest =>
     obtain ⟨b, rfl, hbi, hb2⟩ := hcut
     have HB2 := hid hb2
     have HBI := hid hbi
     clear hb2 hbi
     cases b
     ·have HFT : Hid (fitK (L.getD q 0) x = true) := by
       show fitK (L.getD q 0) x = true
       exact Decidable.byContradiction fun h => by
        have h9 := HBI.out.2 h
        cases h9
      go_wp2
      go_roundw
      case rel =>
       refine ⟨q + 1, by omega, by go_num, HB2.out, fun i hi => ?_⟩
       by_cases e : i = q
       ·subst e; rw [HXX.out]; exact HFT.out
       ·exact HFI.out i (by omega)
      case measure => simp [intOf]; omega
     ·have HFF : Hid (¬ fitK (L.getD q 0) x = true) := HBI.out.1 rfl
      go_wp2
      go_ret
      refine ⟨ret_int ?_, HB1.out.trans (HB2.out.mono HB1.out.size)⟩
      rw [HG.out, if_neg]
      intro h
      have := ((fitL_iff L l).1 h).2 q hlt
      rw [HXX.out] at this
      exact HFF.out this
   ·obtain rfl : q = L.length := by omega
    go_wp2
    go_ret
    exact ⟨ret_int (by rw [HG.out, if_pos ((fitL_iff L l).2 ⟨hle, HFI.out⟩)]), HB1.out.trans (HBR.out.mono HB1.out.size)⟩
 ·have hlf : ((L.length : Int) != (l.length : Int)) = true := by simp; omega
  go_wp2
  go_ret
  exact ⟨ret_int (by rw [HG.out, if_neg]; intro h; exact hle ((fitL_iff L l).1 h).1), HB1.out⟩
theorem cell_new_row (W : World) (cs : Array Value) (t : TypeId) (j : Nat) : (W.alloc (.cells cs t)).cell? ⟨W.heap.size, j, none⟩ = cs[j]? := cell_hp (heap_alloc_new W _) j
def tp (sk : List Int) : Int := sk.getLastD 0
def bw (sk : List Int) : Int := sk.dropLast.getLastD 0
theorem tp_at {sk : List Int} (h : 0 < sk.length) : sk.getD (sk.length - 1) 0 = tp sk := by
 unfold tp
 cases sk with
 | nil => simp at h
 | cons a r => simp [List.getD_eq_getElem?_getD, List.getLast?_eq_getElem?, List.getLastD_eq_getLast?]
theorem bw_at {sk : List Int} (h : 1 < sk.length) : sk.getD (sk.length - 2) 0 = bw sk := by
 unfold bw
 have hd : sk.dropLast.length = sk.length - 1 := by simp
 have := tp_at (sk := sk.dropLast) (by omega)
 unfold tp at this
 rw [← this, hd]
 simp only [List.getD_eq_getElem?_getD]
 have e : sk.length - 1 - 1 = sk.length - 2 := by omega
 rw [e, List.getElem?_dropLast, if_pos (by omega)]
theorem tp_none {sk : List Int} (h : ¬ 0 < sk.length) : tp sk = 0 := by
 have : sk = [] := List.eq_nil_of_length_eq_zero (by omega)
 rw [this]; rfl
theorem bw_none {sk : List Int} (h : ¬ 1 < sk.length) : bw sk = 0 := by
 have : sk.dropLast = [] := List.eq_nil_of_length_eq_zero (by simp; omega)
 unfold bw; rw [this]; rfl
theorem drop1 {sk : List Int} (h : 1 ≤ sk.length) : (sk.drop (sk.length - 1)).getD 0 0 = tp sk := by
 rw [← tp_at (by omega)]
 simp [List.getD_eq_getElem?_getD]
theorem drop2 {sk : List Int} (h : 2 ≤ sk.length) : (sk.drop (sk.length - 2)).getD 0 0 = bw sk ∧ (sk.drop (sk.length - 2)).getD 1 0 = tp sk := by
 rw [← tp_at (by omega), ← bw_at (by omega)]
 have e : sk.length - 2 + 1 = sk.length - 1 := by omega
 simp [List.getD_eq_getElem?_getD, e]
theorem sig_len (a : Int) : (sig a).1.length ≤ 3 := by unfold sig; (repeat' split) <;> simp
theorem part_tail {W : World} {g q c : Nat} {sk : List Int} (h : q ≤ sk.length) (hg : g < W.heap.size) (hc : ∀ j, j < sk.length → W.cell? ⟨g, j, none⟩ = some (.int .i64 (sk.getD j 0))) : IntPart W (.slice (some ⟨g, sk.length - q, none⟩) q c) (sk.drop (sk.length - q)) := by
 have hl : (sk.drop (sk.length - q)).length = q := by simp; omega
 refine ⟨_, c, by rw [hl], .inr ⟨g, _, rfl, hg, fun i hi => ?_⟩⟩
 rw [hl] at hi
 rw [hc _ (by omega)]
 simp [List.getD_eq_getElem?_getD]
theorem part_tail2 {W : World} {g q c : Nat} {sk : List Int} (h : q ≤ sk.length) (hg : g < W.heap.size) (hlc : sk.length ≤ c) (hc : ∀ j, j < sk.length → W.cell? ⟨g, j, none⟩ = some (.int .i64 (sk.getD j 0))) : IntPart W (.slice (if c = sk.length - q then some ⟨g, 0, none⟩ else some ⟨g, sk.length - q, none⟩) (sk.length - (sk.length - q)) (c - (sk.length - q))) (sk.drop (sk.length - q)) := by
 have e : sk.length - (sk.length - q) = q := by omega
 rw [e]
 split
 ·obtain rfl : q = 0 := by omega
  rw [show sk.drop (sk.length - 0) = [] by simp]
  exact ⟨_, _, rfl, .inl rfl⟩
 ·exact part_tail h hg hc
theorem built_none {a : Int} {l : List Int} (h : builtG a l = 0) : whn (fitL (sig a).1 l = true) [(sig a).2] = none := by
 unfold builtG at h
 split at h
 ·have := sig_range a; omega
 ·rename_i hf; exact if_neg hf
theorem built_some {a z : Int} {l : List Int} (h : builtG a l = z) (hz : ¬ z = 0) : whn (fitL (sig a).1 l = true) [(sig a).2] = some [z] := by
 unfold builtG at h
 split at h
 ·rename_i hf; rw [← h]; exact if_pos hf
 ·exact absurd h.symm hz
theorem part_none {l : List Int} (h : l = []) (W : World) {ad : Option Addr} {m : Nat} (c : Nat) (hm : m = 0) : IntPart W (.slice ad m c) l := by
 subst h hm
 exact ⟨ad, c, rfl, .inl rfl⟩
theorem drop_eq {sk P : List Int} (h : P.length ≤ sk.length) (hs : ∀ i, i < P.length → sk.getD (sk.length - P.length + i) 0 = P.getD i 0) : sk.drop (sk.length - P.length) = P := by
 apply List.ext_getElem (by simp; omega)
 intro i h1 h2
 have := hs i h2
 simp only [List.getD_eq_getElem?_getD, List.getElem?_eq_getElem h2, List.getElem?_eq_getElem (show sk.length - P.length + i < sk.length by omega), Option.getD_some] at this
 simpa using this
theorem drop_at {sk P : List Int} (h : sk.drop (sk.length - P.length) = P) (i : Nat) : sk.getD (sk.length - P.length + i) 0 = P.getD i 0 := by
 have h2 : (sk.drop (sk.length - P.length)).getD i 0 = P.getD i 0 := by rw [h]
 rw [← h2]
 simp [List.getD_eq_getElem?_getD]
def GvEnd (fns : List Fn) (f : Fn) (i : In) (sl sk : List Int) (w : World) (e : Ending) (w' : World) : Prop :=
 Below w.heap.size w w' ∧ ∃ (k : Nat) (ad : Option Addr) (m c : Nat) (ok : Bool), e = .returned (.tuple #[.int .i64 k, .slice ad m c, .bool ok]) ∧ k ≤ 1000 ∧
  (((ok = false ∨ sk.length < k) ∧ (takesN fns i ≤ sk.length → eff fns f i sl (sk.drop (sk.length - takesN fns i)) = none)) ∨
   (ok = true ∧ k = takesN fns i ∧ k ≤ sk.length ∧ ∃ l, eff fns f i sl (sk.drop (sk.length - takesN fns i)) = some l ∧ IntRow w' (.slice ad m c) l))
theorem gv_bad {fns : List Fn} {f : Fn} {i : In} {sl sk : List Int} {w w' : World} {k : Nat} {ad : Option Addr} {m c : Nat} {ok : Bool} (hb : Below w.heap.size w w') (hk : k ≤ 1000) (h1 : ok = false ∨ sk.length < k) (h2 : takesN fns i ≤ sk.length → eff fns f i sl (sk.drop (sk.length - takesN fns i)) = none) : GvEnd fns f i sl sk w (.returned (.tuple #[.int .i64 k, .slice ad m c, .bool ok])) w' :=
 ⟨hb, k, ad, m, c, ok, rfl, hk, .inl ⟨h1, h2⟩⟩
theorem gv_ok {fns : List Fn} {f : Fn} {i : In} {sl sk l : List Int} {w w' : World} {k : Nat} {ad : Option Addr} {m c : Nat} (hb : Below w.heap.size w w') (hk : k ≤ 1000) (h1 : k = takesN fns i) (h2 : k ≤ sk.length) (h3 : eff fns f i sl (sk.drop (sk.length - takesN fns i)) = some l) (h4 : IntRow w' (.slice ad m c) l) : GvEnd fns f i sl sk w (.returned (.tuple #[.int .i64 k, .slice ad m c, .bool true])) w' :=
 ⟨hb, k, ad, m, c, true, rfl, hk, .inr ⟨rfl, h1, h2, l, h3, h4⟩⟩
theorem row1 (W : World) (x : Int) : IntRow (W.alloc (.cells #[.int .i64 x] 3)) (.slice (some ⟨W.heap.size, 0, none⟩) 1 1) [x] := IntRow.lit W [x] (by simp)
theorem row0 (W : World) : IntRow (W.alloc (.cells #[] 3)) (.slice (some ⟨W.heap.size, 0, none⟩) 0 0) [] := IntRow.lit W [] (by simp)
structure Gx (fns : List Fn) (f : Fn) (i : In) (sl sk : List Int) (w : World) (cv pv iv av bv : Value) (b0 b1 b2 b3 : Nat) (W : World) : Prop where
 lo : Below w.heap.size w W
 c0 : W.cell? ⟨b0, 0, none⟩ = some cv
 f0 : W.cell? ⟨b1, 0, none⟩ = some (.string f.name)
 f1 : W.cell? ⟨b1, 1, none⟩ = some pv
 f2 : W.cell? ⟨b1, 2, none⟩ = some (.int .i64 f.result)
 f3 : W.cell? ⟨b1, 3, none⟩ = some (.int .i64 f.slots)
 f4 : W.cell? ⟨b1, 4, none⟩ = some iv
 i0 : W.cell? ⟨b2, 0, none⟩ = some (.int .i64 i.op)
 i1 : W.cell? ⟨b2, 1, none⟩ = some (.int .i64 i.a)
 i2 : W.cell? ⟨b2, 2, none⟩ = some (.int .i64 i.n)
 i3 : W.cell? ⟨b2, 3, none⟩ = some (.string i.text)
 s0 : W.cell? ⟨b3, 0, none⟩ = some (.int .i64 1)
 s1 : W.cell? ⟨b3, 1, none⟩ = some av
 s2 : W.cell? ⟨b3, 2, none⟩ = some bv
 bl : b0 < W.heap.size ∧ b1 < W.heap.size ∧ b2 < W.heap.size ∧ b3 < W.heap.size
 code : FnsRow W cv fns
 params : IntRow W pv f.params
 ins : InsRow W iv f.ins
 sl_ : IntRow W av sl
 sk_ : IntRow W bv sk
theorem Gx.next {fns : List Fn} {f : Fn} {i : In} {sl sk : List Int} {w : World} {cv pv iv av bv : Value} {b0 b1 b2 b3 : Nat} {W V : World} (h : Gx fns f i sl sk w cv pv iv av bv b0 b1 b2 b3 W) (hb : Below W.heap.size W V) : Gx fns f i sl sk w cv pv iv av bv b0 b1 b2 b3 V := by
 have hz := hb.size
 obtain ⟨z0, z1, z2, z3⟩ := h.bl
 have k0 : ∀ j, V.cell? ⟨b0, j, none⟩ = W.cell? ⟨b0, j, none⟩ := fun j => hb.cell (p := ⟨b0, j, none⟩) z0
 have k1 : ∀ j, V.cell? ⟨b1, j, none⟩ = W.cell? ⟨b1, j, none⟩ := fun j => hb.cell (p := ⟨b1, j, none⟩) z1
 have k2 : ∀ j, V.cell? ⟨b2, j, none⟩ = W.cell? ⟨b2, j, none⟩ := fun j => hb.cell (p := ⟨b2, j, none⟩) z2
 have k3 : ∀ j, V.cell? ⟨b3, j, none⟩ = W.cell? ⟨b3, j, none⟩ := fun j => hb.cell (p := ⟨b3, j, none⟩) z3
 exact ⟨h.lo.trans (hb.mono h.lo.size), (k0 _).trans h.c0, (k1 _).trans h.f0, (k1 _).trans h.f1, (k1 _).trans h.f2, (k1 _).trans h.f3, (k1 _).trans h.f4, (k2 _).trans h.i0, (k2 _).trans h.i1, (k2 _).trans h.i2, (k2 _).trans h.i3, (k3 _).trans h.s0, (k3 _).trans h.s1, (k3 _).trans h.s2, ⟨by omega, by omega, by omega, by omega⟩, h.code.next hb, h.params.next hb, h.ins.next hb, h.sl_.next hb, h.sk_.next hb⟩
theorem boxes {fns : List Fn} {f : Fn} {i : In} {sl sk : List Int} {w : World} {cv pv iv av bv : Value} (h1 : FnsRow w cv fns) (h2 : IntRow w pv f.params) (h3 : InsRow w iv f.ins) (h4 : IntRow w av sl) (h5 : IntRow w bv sk) :
  Gx fns f i sl sk w cv pv iv av bv w.heap.size (w.heap.size + 1) (w.heap.size + 1 + 1) (w.heap.size + 1 + 1 + 1)
   ((((w.alloc (.cells #[cv] 29)).alloc (.cells #[.string f.name, pv, .int .i64 f.result, .int .i64 f.slots, iv] 57)).alloc (.cells #[.int .i64 i.op, .int .i64 i.a, .int .i64 i.n, .string i.text] 84)).alloc (.cells #[.int .i64 1, av, bv] 125)) := by
 obtain ⟨W1, e1⟩ : ∃ W, w.alloc (.cells #[cv] 29) = W := ⟨_, rfl⟩
 obtain ⟨W2, e2⟩ : ∃ W, W1.alloc (.cells #[.string f.name, pv, .int .i64 f.result, .int .i64 f.slots, iv] 57) = W := ⟨_, rfl⟩
 obtain ⟨W3, e3⟩ : ∃ W, W2.alloc (.cells #[.int .i64 i.op, .int .i64 i.a, .int .i64 i.n, .string i.text] 84) = W := ⟨_, rfl⟩
 obtain ⟨W4, e4⟩ : ∃ W, W3.alloc (.cells #[.int .i64 1, av, bv] 125) = W := ⟨_, rfl⟩
 rw [e1, e2, e3, e4]
 have z1 : W1.heap.size = w.heap.size + 1 := by rw [← e1]; simp
 have z2 : W2.heap.size = w.heap.size + 1 + 1 := by rw [← e2]; simp [z1]
 have z3 : W3.heap.size = w.heap.size + 1 + 1 + 1 := by rw [← e3]; simp [z2]
 have z4 : W4.heap.size = w.heap.size + 1 + 1 + 1 + 1 := by rw [← e4]; simp [z3]
 have q1 : Below w.heap.size w W1 := by rw [← e1]; exact (Below.refl _ _).alloc (Nat.le_refl _) _
 have q2 : Below W1.heap.size W1 W2 := by rw [← e2]; exact (Below.refl _ _).alloc (Nat.le_refl _) _
 have q3 : Below W2.heap.size W2 W3 := by rw [← e3]; exact (Below.refl _ _).alloc (Nat.le_refl _) _
 have q4 : Below W3.heap.size W3 W4 := by rw [← e4]; exact (Below.refl _ _).alloc (Nat.le_refl _) _
 have r3 := q3.trans (q4.mono q3.size)
 have r2 := q2.trans (r3.mono q2.size)
 have r1 := q1.trans (r2.mono q1.size)
 have k0 : ∀ j, W4.cell? ⟨w.heap.size, j, none⟩ = #[cv][j]? := fun j => by
  rw [r2.cell (p := ⟨w.heap.size, j, none⟩) (by show w.heap.size < _; omega), ← e1, cell_new_row]
 have k1 : ∀ j, W4.cell? ⟨w.heap.size + 1, j, none⟩ = #[.string f.name, pv, .int .i64 f.result, .int .i64 f.slots, iv][j]? := fun j => by
  rw [← z1, r3.cell (p := ⟨W1.heap.size, j, none⟩) (by show W1.heap.size < _; omega), ← e2, cell_new_row]
 have k2 : ∀ j, W4.cell? ⟨w.heap.size + 1 + 1, j, none⟩ = #[.int .i64 i.op, .int .i64 i.a, .int .i64 i.n, .string i.text][j]? := fun j => by
  rw [← z2, q4.cell (p := ⟨W2.heap.size, j, none⟩) (by show W2.heap.size < _; omega), ← e3, cell_new_row]
 have k3 : ∀ j, W4.cell? ⟨w.heap.size + 1 + 1 + 1, j, none⟩ = #[.int .i64 1, av, bv][j]? := fun j => by
  rw [← z3, ← e4, cell_new_row]
 exact ⟨r1, k0 0, k1 0, k1 1, k1 2, k1 3, k1 4, k2 0, k2 1, k2 2, k2 3, k3 0, k3 1, k3 2, ⟨by omega, by omega, by omega, by omega⟩, h1.next r1, h2.next r1, h3.next r1, h4.next r1, h5.next r1⟩
end Go.Proofs.YtcjgcipacfcjnaaGreatDoor.C
