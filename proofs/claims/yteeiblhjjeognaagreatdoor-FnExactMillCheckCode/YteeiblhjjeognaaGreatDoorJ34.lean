import Derived.Laws.StructEq
import Derived.Test.YteeiblhjjeognaaGreatDoorJ27
import Derived.Test.YteeiblhjjeognaaGreatDoorJ33
/-! Sizes. -/
namespace Go.Proofs.YteeiblhjjeognaaGreatDoor.R
open Go.RowKit
set_option maxRecDepth 20000
set_option maxHeartbeats 2000000 in
theorem szIn_any (x : C.In) (l : Int) (w : World) (hl : 0 ≤ l) (hl2 : l ≤ 1048576) (hx : OkIn x) :
    Calls Tryz.prog 91 #[.agg #[.int .i64 x.op, .int .i64 x.a, .int .i64 x.n, .string x.text], .int .i64 l] w (SzEnd l (wIn x) w) := by
  have HX := hid hx
  obtain ⟨hx0, hx1, hx2, hx3⟩ := hx
  have HB0 := hid (B1.start w (.cells #[.int .i64 x.op, .int .i64 x.a, .int .i64 x.n, .string x.text] 155))
  have hs_text := small hx3
  by_cases c3 : l - (x.text.size : Int) < 0
  · go_enter Tryz.func91, Tryz.ntmps91
    go_wp2
    go_ret
    exact ⟨⟨_, rfl, by omega, by omega, fun h => by omega⟩, HB0.out.lo⟩
  · go_enter Tryz.func91, Tryz.ntmps91
    go_wp2
    go_ret
    refine ⟨⟨_, rfl, by omega, by omega, fun h => ?_⟩, HB0.out.lo⟩
    simp only [wIn]
    omega
set_option maxHeartbeats 2000000 in
theorem szSIn_any (l : List C.In) {v : Value} (m : Int) (w : World) (hl : 0 ≤ m) (hl2 : m ≤ 1048576) (hx : OkInS l) (k0 : SInA w v l) :
    Calls Tryz.prog 60 #[v, .int .i64 m] w (SzEnd m (wSIn l l.length) w) := by
  have HX := hid hx.2
  have hN := small hx.1
  have HK := hid k0
  obtain ⟨ad, cap, rfl⟩ := k0.sl
  clear hx k0
  by_cases h1 : m - (l.length : Int) < 0
  · go_enter Tryz.func60, Tryz.ntmps60
    go_wp2
    go_ret
    exact ⟨⟨_, rfl, by omega, by omega, fun h => by omega⟩, Below.refl _ _⟩
  · go_enter Tryz.func60, Tryz.ntmps60
    go_wp2
    go_loopw [1, 5] (fun q i wr => ∃ (j : Nat) (r : Int), j ≤ l.length ∧ i = .int .i64 j ∧ q = .int .i64 r ∧ 0 ≤ r ∧ r ≤ m ∧ (Hid (r + (l.length : Int) + (wSIn l j : Int) = m + (j : Int))) ∧ Below w.heap.size w wr) (fun _ i _ => l.length - (intOf i).toNat)
    case atStart => exact ⟨0, _, Nat.zero_le _, rfl, rfl, by omega, by omega, (by show _ = _; simp [wSIn]), Below.refl _ _⟩
    case round =>
      obtain ⟨j, r, hj, rfl, rfl, hr0, hr1, HS, hbw⟩ := hrel
      have HBW := hid hbw
      clear hbw
      by_cases hlt : j < l.length
      · obtain ⟨a, c, e9, hal, ⟨c0, c1, c2, c3⟩⟩ := (HK.out.next HBW.out).at hlt
        injection e9 with ea en ec
        clear en
        subst ea ec
        obtain ⟨x, hx⟩ : ∃ x, l.getD j C.in0 = x := ⟨_, rfl⟩
        have HXE := hid hx
        have HOK := hid (HX.out j hlt)
        rw [hx] at HOK c0 c1 c2 c3
        clear hx
        go_wp2_with fail
        refine (szIn_any x _ _ (by omega) (by omega) HOK.out).mono ?_
        rintro e w1 ⟨⟨r2, rfl, hr3, hr4, hr5⟩, hb1⟩
        have HB1 := hid (HBW.out.trans (hb1.mono HBW.out.size))
        have HR5 := hid hr5
        clear hb1 hr5 c0 c1 c2 c3
        by_cases hs : r2 < 0
        · go_wp2
          go_ret
          exact ⟨⟨-1, rfl, by omega, by omega, fun h => by omega⟩, HB1.out⟩
        · have HS2 : Hid (r2 + (l.length : Int) + (wSIn l (j + 1) : Int) = m + ((j + 1 : Nat) : Int)) := by
            show _ = _
            have := HS.out
            have := HR5.out (by omega)
            simp only [wSIn, HXE.out]
            omega
          go_wp2
          go_roundw
          case rel => exact ⟨j + 1, r2, by omega, by go_num, rfl, by omega, by omega, HS2, HB1.out⟩
          case measure => simp [intOf]; omega
      · obtain rfl : j = l.length := by omega
        go_wp2
        go_ret
        exact ⟨⟨r, rfl, by omega, hr1, fun _ => by have := HS.out; omega⟩, HBW.out⟩
end Go.Proofs.YteeiblhjjeognaaGreatDoor.R
/-! What comes to a place, in the program: what the walk starts from. -/
namespace Go.Proofs.YteeiblhjjeognaaGreatDoor.C
open Go.RowKit
set_option maxRecDepth 20000
def eqLB (k k' : Int) (t t' u u' : ByteArray) : Bool := k == k' && t.toList == t'.toList && u.toList == u'.toList
theorem eqL (k k' : Int) (t t' u u' : ByteArray) (w : World) : (Op.equalIn 10000 64 (.agg #[.int .i64 k, .string t, .string u]) (.agg #[.int .i64 k', .string t', .string u'])).run Tryz.prog w = .ok (eqLB k k' t t' u u') w := by
  have u3 := Tryz.underlying3
  have u9 := Tryz.underlying9
  have hS : Tryz.prog.underlying 64 = some (.struct (Tryz.prog.fieldsOf 64)) := by kernel_rfl
  have hp : Tryz.prog.stoodInHeld 64 = false := by kernel_rfl
  rw [show (10000 : Nat) = 9999 + 1 from rfl, run_equalIn_agg w 9999 64 _ _ hS hp]
  simp only [Program.fieldsOf, Tryz.underlying64]
  go_simp
  unfold eqLB
  by_cases h1 : k = k' <;> by_cases h2 : t.toList = t'.toList <;> by_cases h3 : u.toList = u'.toList <;> simp [h1, h2, h3]
theorem eqLBin (k k' : Int) (t t' u u' : ByteArray) (w : World) : (binOp .eql 64 (.agg #[.int .i64 k, .string t, .string u]) (.agg #[.int .i64 k', .string t', .string u'])).run Tryz.prog w = .ok (.bool (eqLB k k' t t' u u')) w := by
  rw [run_eql_struct, eqL]; rfl
theorem eqLB_sh {S : Nat} {a b : Sh} (ha : OkSh S a) (hb : OkSh S b) : eqLB (a.st : Nat) (b.st : Nat) (kt a.sl) (kt b.sl) (kt a.sk) (kt b.sk) = decide (a = b) := by
  rw [Bool.eq_iff_iff, decide_eq_true_iff, ← lv_inj ha hb]
  unfold eqLB
  rw [Bool.and_eq_true, Bool.and_eq_true, str_eq2, str_eq2, beq_iff_eq]
  constructor
  · rintro ⟨⟨h1, h2⟩, h3⟩; exact ⟨by omega, h2, h3⟩
  · rintro ⟨h1, h2, h3⟩; exact ⟨⟨by omega, h2⟩, h3⟩
/-! The work list. -/
theorem desc_get {wk : List Nat} (h : wk.Pairwise (· > ·)) {p q : Nat} (hp : p < q) (hq : q < wk.length) : wk.getD q 0 < wk.getD p 0 := by
  have h2 := List.pairwise_iff_getElem.1 h p q (by omega) hq hp
  simpa [List.getD_eq_getElem?_getD, hq, show p < wk.length by omega] using h2
theorem nums_getD (wk : List Nat) {q : Nat} (h : q < wk.length) : (nums wk).getD q 0 = (wk.getD q 0 : Int) := by
  unfold nums
  rw [List.getD_eq_getElem?_getD, List.getElem?_map, List.getElem?_eq_getElem h, List.getD_eq_getElem?_getD, List.getElem?_eq_getElem h]
  rfl
theorem wk_lt {wk : List Nat} {n q : Nat} (h : ∀ x ∈ wk, x < n) (hq : q < wk.length) : wk.getD q 0 < n := by
  rw [List.getD_eq_getElem?_getD, List.getElem?_eq_getElem hq]
  exact h _ (List.getElem_mem hq)
theorem filt_split {wk : List Nat} {i g : Nat} (h1 : ∀ q, q < i → g < wk.getD q 0) (h2 : ∀ q, i ≤ q → q < wk.length → wk.getD q 0 ≤ g) (hi : i ≤ wk.length) : wk.filter (fun q => decide (g < q)) = wk.take i ∧ wk.filter (fun q => decide (q < g)) = (wk.drop i).filter (fun q => decide (q < g)) := by
  have ha : ∀ x ∈ wk.take i, g < x := fun x hx => by
    obtain ⟨q, hq, e⟩ := List.getElem_of_mem hx
    have hq2 : q < i := by rw [List.length_take] at hq; omega
    have := h1 q hq2
    rw [List.getElem_take] at e
    have hql : q < wk.length := by omega
    simpa [List.getD_eq_getElem?_getD, hql, e] using this
  have hb : ∀ x ∈ wk.drop i, x ≤ g := fun x hx => by
    obtain ⟨q, hq, e⟩ := List.getElem_of_mem hx
    rw [List.length_drop] at hq
    rw [List.getElem_drop] at e
    have := h2 (i + q) (by omega) (by omega)
    have hql : i + q < wk.length := by omega
    simpa [List.getD_eq_getElem?_getD, hql, e] using this
  constructor
  · conv => lhs; rw [← List.take_append_drop i wk]
    rw [List.filter_append, List.filter_eq_self.2 (fun x hx => by simpa using ha x hx), List.filter_eq_nil_iff.2 (fun x hx => by have := hb x hx; simp; omega), List.append_nil]
  · conv => lhs; rw [← List.take_append_drop i wk]
    rw [List.filter_append, List.filter_eq_nil_iff.2 (fun x hx => by have := ha x hx; simp; omega), List.nil_append]
theorem drop_desc {wk : List Nat} (h : wk.Pairwise (· > ·)) {i g : Nat} (hi : i < wk.length) (hg : wk.getD i 0 = g) : wk.drop i = g :: wk.drop (i + 1) ∧ (wk.drop i).filter (fun q => decide (q < g)) = wk.drop (i + 1) := by
  have e1 : wk.drop i = g :: wk.drop (i + 1) := by
    rw [List.drop_eq_getElem_cons hi]
    congr 1
    simpa [List.getD_eq_getElem?_getD, hi] using hg
  refine ⟨e1, ?_⟩
  rw [e1, List.filter_cons]
  simp only [Nat.lt_irrefl, decide_false, Bool.false_eq_true, if_false]
  refine List.filter_eq_self.2 fun x hx => ?_
  obtain ⟨q, hq, e⟩ := List.getElem_of_mem hx
  rw [List.length_drop] at hq
  rw [List.getElem_drop] at e
  have := desc_get h (p := i) (q := i + 1 + q) (by omega) (by omega)
  rw [hg] at this
  have hql : i + 1 + q < wk.length := by omega
  simpa [List.getD_eq_getElem?_getD, hql, e] using this
/-- Found: the list stays. -/
theorem ins1_in {wk : List Nat} (h : wk.Pairwise (· > ·)) {i g : Nat} (h1 : ∀ q, q < i → g < wk.getD q 0) (h2 : ∀ q, i ≤ q → q < wk.length → wk.getD q 0 ≤ g) (hi : i < wk.length) (hg : wk.getD i 0 = g) : ins1 wk g = wk := by
  obtain ⟨e1, e2⟩ := filt_split h1 h2 (by omega)
  obtain ⟨d1, d2⟩ := drop_desc h hi hg
  unfold ins1
  rw [e1, e2, d2, ← d1, List.take_append_drop]
/-- Not found: it is put in. -/
theorem ins1_new {wk : List Nat} (h : wk.Pairwise (· > ·)) {i g : Nat} (h1 : ∀ q, q < i → g < wk.getD q 0) (h2 : ∀ q, i ≤ q → q < wk.length → wk.getD q 0 ≤ g) (hi : i ≤ wk.length) (hn : ¬ (i < wk.length ∧ wk.getD i 0 = g)) : nums (ins1 wk g) = insAt (nums wk) i g := by
  obtain ⟨e1, e2⟩ := filt_split h1 h2 hi
  have e3 : (wk.drop i).filter (fun q => decide (q < g)) = wk.drop i := List.filter_eq_self.2 fun x hx => by
    obtain ⟨q, hq, e⟩ := List.getElem_of_mem hx
    rw [List.length_drop] at hq
    rw [List.getElem_drop] at e
    have hql : i + q < wk.length := by omega
    have hx2 : wk.getD (i + q) 0 = x := by simpa [List.getD_eq_getElem?_getD, hql] using e
    have a1 := h2 (i + q) (by omega) hql
    have a2 := h2 i (Nat.le_refl _) (by omega)
    have a3 : ¬ wk.getD i 0 = g := fun e => hn ⟨by omega, e⟩
    by_cases hq0 : q = 0
    · subst hq0
      rw [Nat.add_zero] at hx2
      rw [decide_eq_true_iff]
      omega
    · have := desc_get h (p := i) (q := i + q) (by omega) hql
      rw [decide_eq_true_iff]
      omega
  unfold ins1 insAt nums
  rw [e1, e2, e3]
  simp [List.map_take, List.map_drop]
/-- The shaper at work. -/
structure SP (fns : List Fn) (f : Fn) (w : World) (b gL : Nat) (cv pv iv : Value) (A : Nat → Sh) (wk : List Nat) (wv : Value) (W : World) : Prop where
  lo : Below w.heap.size w W
  e : W.heap[b]? = some (.cells #[cv, .string f.name, pv, .int .i64 f.result, .int .i64 f.slots, iv, .slice (some ⟨gL, 0, none⟩) f.ins.length f.ins.length, wv] 60)
  ly : LyRow W gL f.ins.length A
  own : W.ownsRow w.heap.size 3 1 wv wk.length ((nums wk).map fun x => Value.int .i64 x)
  nb : w.heap.size ≤ b
  ng : w.heap.size ≤ gL
  ne : ¬ b = gL
theorem SP.next {fns : List Fn} {f : Fn} {w : World} {b gL : Nat} {cv pv iv : Value} {A : Nat → Sh} {wk : List Nat} {wv : Value} {W V : World} (h : SP fns f w b gL cv pv iv A wk wv W) (hb : Below W.heap.size W V) : SP fns f w b gL cv pv iv A wk wv V :=
  ⟨h.lo.trans (hb.mono h.lo.size), hp_next h.e hb, h.ly.next hb, own_next h.own hb, h.nb, h.ng, h.ne⟩
/-- What the shaper was given. -/
structure SG (fns : List Fn) (f : Fn) (w : World) (cv pv iv : Value) : Prop where
  fr : FnsRow w cv fns
  pr : IntRow w pv f.params
  ir : InsRow w iv f.ins
  en : EnvI w
theorem SP.ms {fns : List Fn} {f : Fn} {w : World} {b gL : Nat} {cv pv iv : Value} {A : Nat → Sh} {wk : List Nat} {wv : Value} {W : World} (h : SP fns f w b gL cv pv iv A wk wv W) (g : SG fns f w cv pv iv) : MS fns f b cv pv iv (.slice (some ⟨gL, 0, none⟩) f.ins.length f.ins.length) wv W := ⟨h.e, g.fr.next h.lo, g.pr.next h.lo, g.ir.next h.lo⟩
/-- One place is written. -/
theorem SP.put {fns : List Fn} {f : Fn} {w : World} {b gL : Nat} {cv pv iv : Value} {A : Nat → Sh} {wk : List Nat} {wv : Value} {W : World} (h : SP fns f w b gL cv pv iv A wk wv W) {i : Nat} (hi : i < f.ins.length) (s : Sh) : SP fns f w b gL cv pv iv (upd A i s) wk wv (((W.setCell ⟨gL, i * 3, none⟩ (.int .i64 (s.st : Nat))).setCell ⟨gL, i * 3 + 1, none⟩ (.string (kt s.sl))).setCell ⟨gL, i * 3 + 2, none⟩ (.string (kt s.sk))) := by
  have hng := h.ng
  refine ⟨set_lo (set_lo (set_lo h.lo _ _ hng _) _ _ hng _) _ _ hng _, by rw [set3_other h.ne]; exact h.e, h.ly.set hi s, ?_, h.nb, h.ng, h.ne⟩
  obtain ⟨h1, h2 | ⟨k, cap, cur, e, hb, hc, r⟩⟩ := h.own
  · exact ⟨h1, .inl h2⟩
  · refine ⟨h1, .inr ⟨k, cap, cur, e, hb, ?_, r⟩⟩
    rw [set3_other (fun ek => by
      obtain ⟨cu, e2, _⟩ := h.ly
      rw [ek, e2] at hc
      simp at hc)]
    exact hc
/-- The work list is laid anew. -/
theorem SP.work {fns : List Fn} {f : Fn} {w : World} {b gL : Nat} {cv pv iv : Value} {A : Nat → Sh} {wk wk' : List Nat} {wv wv' : Value} {W V : World} (h : SP fns f w b gL cv pv iv A wk wv W) (hg : W.grownBy V wv.ownBlock) (ho : V.ownsRow w.heap.size 3 1 wv' wk'.length ((nums wk').map fun x => Value.int .i64 x)) : SP fns f w b gL cv pv iv A wk' wv' (V.setCell ⟨b, 7, none⟩ wv') := by
  have hnb := h.nb
  have kb : V.heap[b]? = W.heap[b]? := hg.block b (lt_hp h.e) (own_neS h.own (by decide) h.e)
  have kg : V.heap[gL]? = W.heap[gL]? := by
    obtain ⟨cu, e2, _⟩ := h.ly
    exact hg.block gL h.ly.lt (own_neS h.own (by decide) e2)
  have hlo : Below w.heap.size w V := ⟨hg.os.trans h.lo.os, hg.tape.trans h.lo.tape, hg.output.trans h.lo.output, Nat.le_trans h.lo.size hg.size, fun i hi => (hg.block i (Nat.lt_of_lt_of_le hi h.lo.size) (own_ne h.own hi)).trans (h.lo.block i hi)⟩
  refine ⟨set_lo hlo _ _ hnb _, ?_, h.ly.keep (by rw [set_other _ _ _ _ _ (fun e => h.ne e.symm)]; exact kg), ?_, h.nb, h.ng, h.ne⟩
  · have e := kb.trans h.e
    unfold World.setCell
    simp only [Array.getElem?_modify, e]
    simp
  · obtain ⟨h1, h2 | ⟨k, cap, cur, e, hb, hc, r⟩⟩ := ho
    · exact ⟨h1, .inl h2⟩
    · refine ⟨h1, .inr ⟨k, cap, cur, e, hb, ?_, r⟩⟩
      rw [set_other _ _ _ _ _ (fun ek => by
        rw [ek, kb, h.e] at hc
        simp at hc)]
      exact hc
/-- A box of one's own is written. -/
theorem SP.box3 {fns : List Fn} {f : Fn} {w : World} {b gL : Nat} {cv pv iv : Value} {A : Nat → Sh} {wk : List Nat} {wv : Value} {W : World} (h : SP fns f w b gL cv pv iv A wk wv W) {g : Nat} {st : Int} {x y : ByteArray} (e : W.heap[g]? = some (lbox st x y)) (hg : w.heap.size ≤ g) (hne : ¬ gL = g) (p q r : Value) : SP fns f w b gL cv pv iv A wk wv (((W.setCell ⟨g, 0, none⟩ p).setCell ⟨g, 1, none⟩ q).setCell ⟨g, 2, none⟩ r) := by
  have hb : ¬ b = g := fun eb => by
    have h9 := h.e
    rw [eb, e] at h9
    simp [lbox] at h9
  refine ⟨set_lo (set_lo (set_lo h.lo _ _ hg _) _ _ hg _) _ _ hg _, by rw [set3_other hb]; exact h.e, h.ly.keep (set3_other hne _ _ _ _ _ _), ?_, h.nb, h.ng, h.ne⟩
  obtain ⟨h1, h2 | ⟨k, cap, cur, ev, hbb, hc, r9⟩⟩ := h.own
  · exact ⟨h1, .inl h2⟩
  · refine ⟨h1, .inr ⟨k, cap, cur, ev, hbb, ?_, r9⟩⟩
    rw [set3_other (fun ek => by
      rw [ek, e] at hc
      simp [lbox] at hc)]
    exact hc
/-- What is left alone while something comes. -/
structure CK (b gL : Nat) (ob : Option Nat) (W V : World) : Prop where
  size : W.heap.size ≤ V.heap.size
  block : ∀ k, k < W.heap.size → ¬ k = b → ¬ k = gL → some k ≠ ob → V.heap[k]? = W.heap[k]?
theorem CK.of_below {b gL : Nat} {ob : Option Nat} {W V : World} (h : Below W.heap.size W V) : CK b gL ob W V := ⟨h.size, fun k hk _ _ _ => h.block k hk⟩
theorem CK.trans {b gL : Nat} {ob : Option Nat} {U V W : World} (h : CK b gL ob U V) (k : CK b gL ob V W) : CK b gL ob U W := ⟨Nat.le_trans h.size k.size, fun q hq h1 h2 h3 => (k.block q (Nat.lt_of_lt_of_le hq h.size) h1 h2 h3).trans (h.block q hq h1 h2 h3)⟩
theorem CK.of_grown {b gL : Nat} {ob : Option Nat} {W V : World} (h : W.grownBy V ob) : CK b gL ob W V := ⟨h.size, fun k hk _ _ h3 => h.block k hk h3⟩
theorem CK.set_b {b gL : Nat} {ob : Option Nat} (W : World) (j : Nat) (v : Value) : CK b gL ob W (W.setCell ⟨b, j, none⟩ v) := ⟨by rw [set_size]; exact Nat.le_refl _, fun k _ h1 _ _ => set_other _ _ _ _ _ h1⟩
theorem CK.set_g {b gL : Nat} {ob : Option Nat} (W : World) (j : Nat) (v : Value) : CK b gL ob W (W.setCell ⟨gL, j, none⟩ v) := ⟨by rw [set_size]; exact Nat.le_refl _, fun k _ _ h2 _ => set_other _ _ _ _ _ h2⟩
/-- What comes behind. -/
def OwnLater (W : World) (wv wv' : Value) : Prop := wv'.ownBlock = wv.ownBlock ∨ ∃ k, wv'.ownBlock = some k ∧ W.heap.size ≤ k
end Go.Proofs.YteeiblhjjeognaaGreatDoor.C
