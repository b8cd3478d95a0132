import Derived.Test.YtfndbnbnimhnaaaGreatDoorCards
import Derived.Test.YtfndbnbnimhnaaaGreatDoorTie
import Derived.ProofKit
import Derived.Deep.Slices
import Derived.OpenShut
import Derived.Shelf.Vars
import Derived.Deep.DeepHandedRow
import Derived.OpenVars
import Derived.LaidHandle
import Derived.Stop.LaidErr
import Derived.Lib.LaidTab
import Derived.Test.YtfndbnbnimhnaaaGreatDoorJ44
import Derived.Test.YtfndbnbnimhnaaaGreatDoorJ46
/-! The tables that the card lists. -/
namespace Go.Proofs.YtfndbnbnimhnaaaGreatDoor.C
open Go.ChangeShapes Go.WideShapes Go.ChangeAt Go.RowKit Go.Deep
set_option maxRecDepth 20000
theorem lits_inj {H : Type} {k : IntKind} : ∀ {l l' : List Int}, (lits k l : List (DataW H)) = lits k l' → l = l'
  | [], [], _ => rfl
  | [], _ :: _, h => by simp [lits] at h
  | _ :: _, [], h => by simp [lits] at h
  | x :: l, y :: l', h => by
    simp only [lits, List.map_cons, List.cons.injEq, DataW.lit.injEq, Lit.int.injEq, true_and] at h
    rw [h.1, lits_inj (k := k) (H := H) h.2]
def rowD {H : Type} (z : Option (List Int)) : DataW H := match z with | none => .nil | some l => .slice (lits .i64 l) []
/-- A row of numbers that the card lists. -/
theorem row_of {H : Type} {enc : TypeId × Value → H} {P : Program} {w : World} {base : Nat} {held : Bool} {fuel : Nat} {t ei : TypeId} {cl : List Value} {z : Option (List Int)} {p : DataW H × List MemPlace}
    (hsl : P.underlying t = some (.slice ei)) (hei : P.underlying ei = some (.int .i64)) (hcei : P.cellsOf ei = 1) (h : DataW.trod enc P w base (fun _ => true) held fuel t cl = some p) (hz : p.1 = rowD z) : ∃ v, cl = [v] ∧ PartA w v (z.getD []) := by
  rcases open_ints hsl hei hcei h with ⟨e2, h2⟩ | ⟨a, len, cap, ns, e2, _, hlc, _, hlen, h2, hcell, _⟩
  · rw [h2] at hz
    cases z with
    | none => exact ⟨_, e2, none, 0, rfl, .inl rfl⟩
    | some l => cases hz
  · rw [h2] at hz
    cases z with
    | none => cases hz
    | some l =>
      simp only [rowD, DataW.slice.injEq] at hz
      have h3 := lits_inj hz.1
      have h4 : ns.drop len = [] := by
        have := hz.2
        simpa [lits] using this
      simp only [if_true] at hlen
      have h5 : ns.length ≤ len := by simpa using h4
      have h6 : ns.take len = ns := List.take_of_length_le h5
      rw [h6] at h3
      subst h3
      obtain rfl : cap = ns.length := by omega
      obtain rfl : len = ns.length := by omega
      refine ⟨_, e2, some a, ns.length, rfl, ?_⟩
      by_cases h0 : ns = []
      · exact .inl h0
      · have hp : 0 < ns.length := List.length_pos_iff.2 h0
        refine .inr ⟨a, rfl, ?_, hcell⟩
        have h7 := hcell 0 hp
        unfold World.cell? at h7
        rcases Nat.lt_or_ge (a.add 0).block w.heap.size with hl | hl
        · rwa [add_block] at hl
        · rw [Array.getElem?_eq_none hl] at h7; cases h7
theorem cellsI : Tryz.prog.cellsOf 3 = 1 := by kernel_rfl
theorem cellsSg : Tryz.prog.cellsOf 54 = 1 := by kernel_rfl
theorem gSG : Tryz.prog.globalNamed "loop.example/kilnyard/impl.millBuiltSigns" = some 6 := by kernel_rfl
theorem gSGType : (Tryz.prog.globals[6]?).map (·.type) = some 229 := by kernel_rfl
theorem cellsSG : Tryz.prog.cellsOf 228 = 2 := by kernel_rfl
theorem gIR : Tryz.prog.globalNamed "loop.example/kilnyard/impl.millInsRows" = some 3 := by kernel_rfl
theorem gIRType : (Tryz.prog.globals[3]?).map (·.type) = some 138 := by kernel_rfl
theorem cellsIR : Tryz.prog.cellsOf 137 = 3 := by kernel_rfl
def sgD {H : Type} (z : Option (List Int) × Int) : DataW H := .agg [rowD z.1, .lit (.int .i64 z.2)]
def irD {H : Type} (z : Int × Option (List Int) × Int) : DataW H := .agg [.lit (.int .i64 z.1), rowD z.2.1, .lit (.int .i64 z.2.2)]
def signs : List (Option (List Int) × Int) := [(none, 0), (some [2], 2), (some [2], 1), (some [2], 2), (some [2, 2], 2), (none, 2), (some [2], 10), (some [2, 10], 3), (some [2, 10, 10], 2), (some [2, 2], 10), (some [3], 2), (some [-1], 2), (some [2], 10)]
def irows : List (Int × Option (List Int) × Int) := [(0, none, 0), (1, none, 1), (2, none, 2), (2, some [-2], 0), (0, some [-2], 0), (3, some [-2], 3), (4, some [-2, -2], 4), (5, some [-1], 1), (6, none, 5), (7, none, 6), (8, none, 0), (8, some [1], 0), (9, none, 0), (0, some [2], 0), (0, some [2, 2], 0), (0, some [2], 0), (0, none, 0)]
theorem var_cells {W : World} {n : String} {g : Nat} {cs : Array Value} (hg : Tryz.prog.globalNamed n = some g) (h : W.var? Tryz.prog n = some cs) : g < W.heap.size ∧ ∀ i, W.cell? ⟨g, i, none⟩ = cs[i]? := by
  unfold World.var? at h
  rw [hg] at h
  simp only [Option.bind_some] at h
  split at h
  · rename_i cs' t fr hh
    cases h
    refine ⟨(Array.getElem?_eq_some_iff.1 hh).1, fun i => ?_⟩
    unfold World.cell?
    rw [hh]; rfl
  · cases h
theorem sign_of {W : World} {r : List (String × DataW Unit)} (h : laidMet Tryz.prog (("loop.example/kilnyard/impl.millBuiltSigns", Rows.laid_loop_example_kilnyard_impl_millBuiltSigns) :: r) W) :
    6 < W.heap.size ∧ ∀ (i : Nat) (z : Option (List Int) × Int), signs[i]? = some z → ∃ v, W.cell? ⟨6, i * 2, none⟩ = some v ∧ W.cell? ⟨6, i * 2 + 1, none⟩ = some (.int .i64 z.2) ∧ PartA W v (z.1.getD []) := by
  obtain ⟨ps, ⟨g', t', cs, fuel, p, q, hg', ht', hvar, hd, _, _⟩, _⟩ := h
  obtain rfl := Option.some.inj (gSG.symm.trans hg')
  obtain rfl := Option.some.inj (gSGType.symm.trans ht')
  obtain ⟨hlt, hcell⟩ := var_cells gSG hvar
  refine ⟨hlt, fun i z hz => ?_⟩
  obtain ⟨xs, m, _, hx, _, hl, hel⟩ := DataW.trod_array Tryz.underlying229 hd
  have hxs : xs.map (·.1) = signs.map sgD := by
    have h9 := congrArg Prod.fst hx
    have h8 : Rows.laid_loop_example_kilnyard_impl_millBuiltSigns (H := Unit) = .agg (signs.map sgD) := rfl
    rw [h8] at h9
    simpa using h9.symm
  have hi : i < 13 := (List.getElem?_eq_some_iff.1 hz).1
  have e1 := hel i hi
  rw [cellsSG] at e1
  obtain ⟨b, hb⟩ : ∃ b, xs[i]? = some b := ⟨xs[i]'(by omega), List.getElem?_eq_getElem (by omega)⟩
  rw [hb] at e1
  have hb1 : b.1 = sgD z := by
    have := congrArg (·[i]?) hxs
    simpa [hb, hz] using this
  obtain ⟨ys, m2, _, hbx, _, hyl, hyf⟩ := DataW.trod_struct Tryz.underlying228 e1
  match ys, hyl with
  | [y0, y1], _ =>
    have g0 := hyf 0 _ rfl
    have g1 := hyf 1 _ rfl
    simp only [List.getElem?_cons_zero] at g0
    simp only [List.getElem?_cons_succ, List.getElem?_cons_zero] at g1
    obtain ⟨v, hv, hyv, _⟩ := DataW.trod_int Tryz.underlying3 g1
    rw [hbx] at hb1
    simp only [sgD, List.map_cons, List.map_nil, DataW.agg.injEq, List.cons.injEq, and_true] at hb1
    obtain ⟨v0, hv0, hp⟩ := row_of Tryz.underlying54 Tryz.underlying3 cellsI g0 hb1.1
    have hv2 : v = z.2 := by
      have := hb1.2
      rw [hyv] at this
      simpa using this
    subst hv2
    refine ⟨v0, ?_, ?_, hp⟩
    · rw [hcell]
      have := congrArg (·[0]?) hv0
      simpa [List.getElem?_take, List.getElem?_drop, cellsI, cellsSg] using this
    · rw [hcell]
      have := congrArg (·[0]?) hv
      simpa [List.getElem?_take, List.getElem?_drop, cellsI, cellsSg] using this
theorem irow_of {W : World} {r : List (String × DataW Unit)} (h : laidMet Tryz.prog (("loop.example/kilnyard/impl.millInsRows", Rows.laid_loop_example_kilnyard_impl_millInsRows) :: r) W) :
    3 < W.heap.size ∧ ∀ (i : Nat) (z : Int × Option (List Int) × Int), irows[i]? = some z → ∃ v, W.cell? ⟨3, i * 3, none⟩ = some (.int .i64 z.1) ∧ W.cell? ⟨3, i * 3 + 1, none⟩ = some v ∧ W.cell? ⟨3, i * 3 + 2, none⟩ = some (.int .i64 z.2.2) ∧ PartA W v (z.2.1.getD []) := by
  obtain ⟨ps, ⟨g', t', cs, fuel, p, q, hg', ht', hvar, hd, _, _⟩, _⟩ := h
  obtain rfl := Option.some.inj (gIR.symm.trans hg')
  obtain rfl := Option.some.inj (gIRType.symm.trans ht')
  obtain ⟨hlt, hcell⟩ := var_cells gIR hvar
  refine ⟨hlt, fun i z hz => ?_⟩
  obtain ⟨xs, m, _, hx, _, hl, hel⟩ := DataW.trod_array Tryz.underlying138 hd
  have hxs : xs.map (·.1) = irows.map irD := by
    have h9 := congrArg Prod.fst hx
    have h8 : Rows.laid_loop_example_kilnyard_impl_millInsRows (H := Unit) = .agg (irows.map irD) := rfl
    rw [h8] at h9
    simpa using h9.symm
  have hi : i < 17 := (List.getElem?_eq_some_iff.1 hz).1
  have e1 := hel i hi
  rw [cellsIR] at e1
  obtain ⟨b, hb⟩ : ∃ b, xs[i]? = some b := ⟨xs[i]'(by omega), List.getElem?_eq_getElem (by omega)⟩
  rw [hb] at e1
  have hb1 : b.1 = irD z := by
    have := congrArg (·[i]?) hxs
    simpa [hb, hz] using this
  obtain ⟨ys, m2, _, hbx, _, hyl, hyf⟩ := DataW.trod_struct Tryz.underlying137 e1
  match ys, hyl with
  | [y0, y1, y2], _ =>
    have g0 := hyf 0 _ rfl
    have g1 := hyf 1 _ rfl
    have g2 := hyf 2 _ rfl
    simp only [List.getElem?_cons_zero] at g0
    simp only [List.getElem?_cons_succ, List.getElem?_cons_zero] at g1
    simp only [List.getElem?_cons_succ, List.getElem?_cons_zero] at g2
    obtain ⟨u, hu, hyu, _⟩ := DataW.trod_int Tryz.underlying3 g0
    obtain ⟨v, hv, hyv, _⟩ := DataW.trod_int Tryz.underlying3 g2
    rw [hbx] at hb1
    simp only [irD, List.map_cons, List.map_nil, DataW.agg.injEq, List.cons.injEq, and_true] at hb1
    obtain ⟨v0, hv0, hp⟩ := row_of Tryz.underlying54 Tryz.underlying3 cellsI g1 hb1.2.1
    have hu2 : u = z.1 := by
      have := hb1.1
      rw [hyu] at this
      simpa using this
    have hv2 : v = z.2.2 := by
      have := hb1.2.2
      rw [hyv] at this
      simpa using this
    subst hu2 hv2
    refine ⟨v0, ?_, ?_, ?_, hp⟩
    · rw [hcell]
      have := congrArg (·[0]?) hu
      simpa [List.getElem?_take, List.getElem?_drop, cellsI, cellsSg] using this
    · rw [hcell]
      have := congrArg (·[0]?) hv0
      simpa [List.getElem?_take, List.getElem?_drop, cellsI, cellsSg] using this
    · rw [hcell]
      have := congrArg (·[0]?) hv
      simpa [List.getElem?_take, List.getElem?_drop, cellsI, cellsSg] using this
theorem envI_of {W : World} {r r' : List (String × DataW Unit)} (h : laidMet Tryz.prog (("loop.example/kilnyard/impl.millBuiltSigns", Rows.laid_loop_example_kilnyard_impl_millBuiltSigns) :: r) W) (h' : laidMet Tryz.prog (("loop.example/kilnyard/impl.millInsRows", Rows.laid_loop_example_kilnyard_impl_millInsRows) :: r') W) : EnvI W := by
  obtain ⟨l2, s2⟩ := sign_of h
  obtain ⟨l1, s1⟩ := irow_of h'
  refine ⟨l1, l2, fun o h1 h2 => ?_, fun k h1 h2 => ?_⟩
  · obtain rfl | rfl | rfl | rfl | rfl | rfl | rfl | rfl | rfl | rfl | rfl | rfl | rfl | rfl | rfl | rfl : o = 1 ∨ o = 2 ∨ o = 3 ∨ o = 4 ∨ o = 5 ∨ o = 6 ∨ o = 7 ∨ o = 8 ∨ o = 9 ∨ o = 10 ∨ o = 11 ∨ o = 12 ∨ o = 13 ∨ o = 14 ∨ o = 15 ∨ o = 16 := by omega
    · exact s1 1 _ rfl
    · exact s1 2 _ rfl
    · exact s1 3 _ rfl
    · exact s1 4 _ rfl
    · exact s1 5 _ rfl
    · exact s1 6 _ rfl
    · exact s1 7 _ rfl
    · exact s1 8 _ rfl
    · exact s1 9 _ rfl
    · exact s1 10 _ rfl
    · exact s1 11 _ rfl
    · exact s1 12 _ rfl
    · exact s1 13 _ rfl
    · exact s1 14 _ rfl
    · exact s1 15 _ rfl
    · exact s1 16 _ rfl
  · obtain rfl | rfl | rfl | rfl | rfl | rfl | rfl | rfl | rfl | rfl | rfl | rfl : k = 1 ∨ k = 2 ∨ k = 3 ∨ k = 4 ∨ k = 5 ∨ k = 6 ∨ k = 7 ∨ k = 8 ∨ k = 9 ∨ k = 10 ∨ k = 11 ∨ k = 12 := by omega
    · exact s2 1 _ rfl
    · exact s2 2 _ rfl
    · exact s2 3 _ rfl
    · exact s2 4 _ rfl
    · exact s2 5 _ rfl
    · exact s2 6 _ rfl
    · exact s2 7 _ rfl
    · exact s2 8 _ rfl
    · exact s2 9 _ rfl
    · exact s2 10 _ rfl
    · exact s2 11 _ rfl
    · exact s2 12 _ rfl
end Go.Proofs.YtfndbnbnimhnaaaGreatDoor.C
/-! A code written, by the program. -/
namespace Go.Proofs.YtfndbnbnimhnaaaGreatDoor.C
open Go.RowKit
set_option maxRecDepth 20000
theorem Wrote.trans {b a1 b1 a2 b2 : List UInt8} (h : Wrote b a1 b1) (k : Wrote b1 a2 b2) : Wrote b (a1 ++ a2) b2 := by
  obtain ⟨h1, h2⟩ := h
  obtain ⟨k1, k2⟩ := k
  simp only [List.length_append] at h1 k1 h2 k2
  refine ⟨by simp only [List.length_append]; omega, ?_⟩
  simp only [List.length_append]
  rcases h2 with rfl | ⟨h2, h3⟩
  · rcases k2 with rfl | ⟨k2, k3⟩
    · exact .inl (List.append_assoc _ _ _)
    · simp only [List.length_append] at k3
      exact .inr ⟨k2, by omega⟩
  · rcases k2 with rfl | ⟨k2, k3⟩
    · exact .inr ⟨by simp only [List.length_append]; omega, by omega⟩
    · exact .inr ⟨k2, by omega⟩
theorem chk_ops {fns : List Fn} (h : Chk fns 0 0 0) : ∀ j, j < fns.length → ∀ p, p < (fns.getD j fn0).ins.length → 1 ≤ ((fns.getD j fn0).ins.getD p in0).op ∧ ((fns.getD j fn0).ins.getD p in0).op ≤ 16 := by
  have hP : Plain fns 0 0 0 := by
    cases h with
    | plain _ _ _ h h0 => exact absurd rfl h0
    | ok h _ => exact h
  cases hP with
  | ok h h0 h1 j hj h2 => exact fun j hj p hp => (insB_R (h1 j hj p hp)).op
/-- While the program writes a code: its box, the writer. -/
structure IM (w : World) (cv : Value) (b : Nat) (l : List UInt8) (V : World) : Prop where
  lo : Below w.heap.size w V
  e0 : V.heap[w.heap.size]? = some (.cells #[cv] 29)
  wr : WrAt w.heap.size b l V
theorem IM.step {w : World} {cv : Value} {b : Nat} {l l' : List UInt8} {V U : World} (h : IM w cv b l V) (hw : WrAt w.heap.size b l' U) (hk : Wk w.heap.size b V U) : IM w cv b l' U :=
  ⟨h.lo.trans (hk.below h.wr.le h.lo.size), (hk.block _ (lt_hp h.e0) (h.wr.ne_of h.e0 (by decide)) (.inr (notB_of h.e0 (by decide)))).trans h.e0, hw⟩
theorem IM.next {w : World} {cv : Value} {b : Nat} {l : List UInt8} {V U : World} (h : IM w cv b l V) (hb : Below V.heap.size V U) : IM w cv b l U := h.step (h.wr.next hb) (Wk.of_below hb)
theorem IM.tab {w : World} {cv : Value} {b : Nat} {l : List UInt8} {V : World} (h : IM w cv b l V) (hE : EnvI w) : TabU w.heap.size V :=
  ⟨hE.lt1, fun o h1 h2 => by
    obtain ⟨v, a, _⟩ := hE.rows o h1 h2
    exact (h.lo.cell (p := ⟨3, _, none⟩) hE.lt1).trans a⟩
theorem fboxW_cells {f : Fn} {aP aI : Option Addr} {cP cI xb : Nat} {V : World} (e : V.heap[xb]? = some (fboxW f aP cP aI cI)) :
    V.cell? ⟨xb, 0, none⟩ = some (.string f.name) ∧ V.cell? ⟨xb, 1, none⟩ = some (.slice aP f.params.length cP) ∧ V.cell? ⟨xb, 2, none⟩ = some (.int .i64 f.result) ∧ V.cell? ⟨xb, 3, none⟩ = some (.int .i64 f.slots) ∧ V.cell? ⟨xb, 4, none⟩ = some (.slice aI f.ins.length cI) := by
  refine ⟨?_, ?_, ?_, ?_, ?_⟩ <;> simp [World.cell?, e, fboxW]
set_option maxHeartbeats 8000000 in
theorem implWrite_any {fns : List Fn} {w : World} {cv : Value} (h1 : FnsRow w cv fns) (hC : CodeS fns) (hE : EnvI w) (hW : R.wSFn fns fns.length ≤ 1048576) :
    Calls Tryz.prog 8 #[.agg #[cv]] w (WcEnd fns w) := by
  have HX0 := hid (PX.start w cv)
  have H1 := hid h1
  have HCO := hid (code_any (h1.next HX0.out.lo) hC (hE.next HX0.out.lo))
  have HE := hid hE
  have HWF := hid hW
  have HLF := hid (R.loFnS_of hW)
  have hll : fns.length ≤ 1048576 := HLF.out.1
  have HFL := hid (fnsF_len hW)
  obtain ⟨aF, cF, hcv⟩ := h1.sl
  subst hcv
  clear h1 hC hW hE HLF
  go_enter Tryz.func8, Tryz.ntmps8
  go_upto_region 1 with fail
  obtain ⟨W1, hW1⟩ : ∃ W, w.alloc (.cells #[.slice aF fns.length cF] 29) = W := ⟨_, rfl⟩
  rw [hW1] at HX0 HCO ⊢
  clear hW1
  have k0 := cx HX0.out.e0
  go_wp2_with fail
  refine HCO.out.mono ?_
  rintro e w2 ⟨hcs, hb2⟩
  have HX := hid (HX0.out.next hb2)
  clear hb2 k0 HX0 HCO
  rcases hcs with ⟨rfl, hp⟩ | ⟨c, k, i, hc0, rfl, hp⟩
  · have HCK := hid hp
    have HOP := hid (chk_ops hp)
    clear hp
    go_upto_region 4 with fail
    have HB3 := hid ((Below.refl w2.heap.size w2).alloc (Nat.le_refl _) (.cells #[.pointer none, .slice none 0 0] 50))
    have HX3 := hid (HX.out.next HB3.out)
    have HM3 : Hid (IM w (.slice aF fns.length cF) w2.heap.size [] (w2.alloc (.cells #[.pointer none, .slice none 0 0] 50))) := hid ⟨HX3.out.lo, HX3.out.e0, _, _, .inl rfl, HX.out.lo.size, heap_alloc_new _ _, rfl, .inl ⟨rfl, rfl⟩⟩
    obtain ⟨b, hb⟩ : ∃ b, w2.heap.size = b := ⟨_, rfl⟩
    obtain ⟨W3, hW3⟩ : ∃ W, w2.alloc (.cells #[.pointer none, .slice none 0 0] 50) = W := ⟨_, rfl⟩
    rw [hW3, hb] at HM3
    rw [hb, hW3]
    clear hW3 hb HB3 HX3 HX
    go_wp2_with fail
    refine (writeString_any w.heap.size b [] ⟨#[109, 105, 108, 108, 49]⟩ _ HM3.out.wr (by decide)).mono ?_
    rintro e w4 ⟨rfl, hw4, hk4⟩
    have HM4 : Hid (IM w (.slice aF fns.length cF) b begF w4) := hid (HM3.out.step hw4 hk4)
    clear hw4 hk4 HM3
    have k0 := cx HM4.out.e0
    go_wp2_with fail
    refine (size_nat w.heap.size b begF fns.length _ (by omega) HM4.out.wr (by decide)).mono ?_
    rintro e w5 ⟨rfl, hw5, hk5⟩
    have HM5 := hid (HM4.out.step hw5 hk5)
    clear hw5 hk5 HM4 k0
    have HBL : Hid ((begF ++ nb fns.length).length ≤ 15) := hid (push_len (by decide) (nb_10 (by omega)))
    have HFF : Hid (formF fns = begF ++ nb fns.length ++ fnsF fns) := hid (by unfold formF; rw [List.append_assoc])
    obtain ⟨Q, hQ⟩ : ∃ Q, begF ++ nb fns.length = Q := ⟨_, rfl⟩
    rw [hQ] at HM5 HBL HFF
    have HQ0 : Hid (Q ≠ []) := hid (by rw [← hQ]; simp [begF])
    clear hQ
    have HW5 : Hid (Wrote Q (fnsF (fns.take 0)) Q) := hid (by
      have h := Wrote.all Q (fnsF (fns.take 0))
      have e : Q ++ fnsF (fns.take 0) = Q := by simp [fnsF]
      rw [e] at h
      exact h)
    have k0 := cx HM5.out.e0
    go_wp2
    clear k0
    go_loopw [5, 23] (fun _ i wr => ∃ (j : Nat) (l : List UInt8), j ≤ fns.length ∧ i = .int .i64 j ∧ Wrote Q (fnsF (fns.take j)) l ∧ IM w (.slice aF fns.length cF) b l wr) (fun _ i _ => fns.length - (intOf i).toNat)
    case atStart => exact ⟨0, Q, Nat.zero_le _, rfl, HW5.out, HM5.out⟩
    case round =>
      obtain ⟨j, l, hj, rfl, hwl, hm⟩ := hrel
      have HM := hid hm
      have HWL := hid hwl
      clear hwl hm HW5 HM5
      by_cases hlt : j < fns.length
      · have hlti : (j : Int) < (fns.length : Int) := by omega
        have HNX := hid (fnsF_next hlt)
        have HWK : Hid (R.wFn (fns.getD j fn0) ≤ 1048576) := hid (by have := R.wSFn_at fns hlt; have := HWF.out; omega)
        have HLL : Hid (l.length ≤ 500000000) := hid (by
          have h1 := HWL.out.1
          have h2 := HFL.out j hj
          have h3 := Nat.le_trans (R.wSFn_mono fns hj) HWF.out
          have h4 := HBL.out
          rw [List.length_append] at h1
          omega)
        have HOJ := hid (HOP.out j hlt)
        obtain ⟨gF, cF2, e9, hgF, pv, iv, n0, n1, n2, n3, n4, hpv, hiv⟩ := (H1.out.next HM.out.lo).at hlt
        injection e9 with ea _ ec
        subst ea ec
        obtain ⟨f, hf⟩ : ∃ f, fns.getD j fn0 = f := ⟨_, rfl⟩
        rw [hf] at n0 n2 n3 hpv hiv HWK HNX HOJ
        clear hf
        have HPV := hid hpv
        have HIV := hid hiv
        obtain ⟨aP, cP, rfl⟩ := hpv.sl
        obtain ⟨aI, cI, rfl⟩ := hiv.sl
        clear hpv hiv
        go_upto_region 9 with fail
        have HB6 := hid ((Below.refl wr.heap.size wr).alloc (Nat.le_refl _) (.cells #[.string f.name, .slice aP f.params.length cP, .int .i64 f.result, .int .i64 f.slots, .slice aI f.ins.length cI] 57))
        have HC6 : Hid ((wr.alloc (.cells #[.string f.name, .slice aP f.params.length cP, .int .i64 f.result, .int .i64 f.slots, .slice aI f.ins.length cI] 57)).heap[wr.heap.size]? = some (fboxW f aP cP aI cI)) := hid (heap_alloc_new _ _)
        have HM6 := hid (HM.out.next HB6.out)
        have HV6 : Hid (FnV (wr.alloc (.cells #[.string f.name, .slice aP f.params.length cP, .int .i64 f.result, .int .i64 f.slots, .slice aI f.ins.length cI] 57)) (.agg #[.string f.name, .slice aP f.params.length cP, .int .i64 f.result, .int .i64 f.slots, .slice aI f.ins.length cI]) f) := hid ⟨_, _, rfl, HPV.out.next HB6.out, HIV.out.next HB6.out⟩
        obtain ⟨yb, hyb⟩ : ∃ b, wr.heap.size = b := ⟨_, rfl⟩
        obtain ⟨W6, hW6⟩ : ∃ W, wr.alloc (.cells #[.string f.name, .slice aP f.params.length cP, .int .i64 f.result, .int .i64 f.slots, .slice aI f.ins.length cI] 57) = W := ⟨_, rfl⟩
        rw [hW6] at HM6 HC6 HV6 ⊢
        rw [hyb] at HC6 ⊢
        clear hW6 hyb n0 n1 n2 n3 n4 HB6 HPV HIV HM
        obtain ⟨j0, j1, j2, j3, j4⟩ := fboxW_cells HC6.out
        go_wp2_with fail
        refine (fnW_any w.heap.size b l f _ _ HM6.out.wr (HM6.out.tab HE.out) HV6.out HOJ.out HLL.out HWK.out).mono ?_
        rintro e w7 ⟨rfl, ⟨l7, hl7, hw7⟩, hk7⟩
        have HM7 := hid (HM6.out.step hw7 hk7)
        have HW7 : Hid (Wrote Q (fnsF (fns.take (j + 1))) l7) := hid (by rw [HNX.out]; exact HWL.out.trans hl7)
        clear hw7 hk7 hl7 HM6 HC6 HV6 j0 j1 j2 j3 j4 HNX HWL HOJ HWK HLL
        go_wp2
        go_roundw
        case rel => exact ⟨j + 1, l7, by omega, by go_num, HW7.out, HM7.out⟩
        case measure => simp [intOf]; omega
      · obtain rfl : j = fns.length := by omega
        have hlti : ¬ (fns.length : Int) < (fns.length : Int) := by omega
        rw [List.take_length] at HWL
        go_wp2_with fail
        refine (isFull_any w.heap.size b l _ HM.out.wr).mono ?_
        rintro e w8 ⟨rfl, hw⟩
        have hw9 := hw.symm
        clear hw
        subst hw9
        by_cases hfull : 200000 < l.length
        · have HA : Hid (WcAns fns ⟨#[]⟩) := hid ⟨0, 0, 0, HCK.out, by
            have h := HWL.out.1
            rw [← HFF.out] at h
            rw [if_neg (by omega)]⟩
          rw [decide_eq_true hfull]
          clear hfull
          go_wp2
          go_ret
          exact ⟨_, rfl, HA.out, HM.out.lo⟩
        · have HLE : Hid (l = formF fns) := hid (by
            rcases HWL.out.2 with h | ⟨h, _⟩
            · rw [h, HFF.out]
            · exact absurd h hfull)
          have HA : Hid (WcAns fns ⟨l.toArray⟩) := hid ⟨0, 0, 0, HCK.out, by
            rw [← HLE.out, if_pos (by omega)]⟩
          have HL0 : Hid (l ≠ []) := hid (by
            rw [HLE.out, HFF.out]
            intro h
            exact HQ0.out (List.append_eq_nil_iff.1 h).1)
          rw [decide_eq_false hfull]
          clear hfull
          go_wp2_with fail
          refine (string_any w.heap.size b l _ HM.out.wr HL0.out).mono ?_
          rintro e w9 ⟨rfl, hb9⟩
          have HLO := hid (HM.out.lo.trans hb9)
          clear hb9
          go_wp2
          go_ret
          exact ⟨_, rfl, HA.out, HLO.out⟩
  · have HA : Hid (WcAns fns ⟨#[]⟩) := hid ⟨c, k, i, hp, by rw [if_neg (by omega)]⟩
    clear hc0 hp
    unfold flaw
    go_wp2
    go_ret
    exact ⟨_, rfl, HA.out, HX.out.lo⟩
end Go.Proofs.YtfndbnbnimhnaaaGreatDoor.C
