import Derived.Deep.RegionHeld3
import Derived.Deep.MidRow
import Derived.Test.YtlopcjhipajdcaaGreatDoorJ37
import Derived.Test.YtlopcjhipajdcaaGreatDoorJ34
/-! Whether a target could be one of orders, by the program: the whole. -/
namespace Go.Proofs.YtlopcjhipajdcaaGreatDoor.Y
open Go.RowKit R
open Go.Proofs.YtlopcjhipajdcaaGreatDoor.J (FileOk BegOk RepOk ltB Says says_t says_f JobOk OutOk)
set_option maxRecDepth 20000
theorem tgOk_iff (t : Tg) : TgOk t ↔ t.outs.length ≠ 0 ∧ t.ins.length ≤ 200 ∧ OrdOk t ∧ UpT t.ins := by
  constructor
  · rintro ⟨h1, h2, h3, h4, h5, h6, h7, h8, h9, h10⟩
    refine ⟨h8, h7, ⟨⟨h3, h4, fun i hi => ⟨h6 i hi, fun h0 => ?_⟩⟩, fun j hj => ?_⟩, h9⟩
    · have := h10 (i - 1) (by omega)
      rwa [Nat.sub_add_cancel h0] at this
    · rcases j with _ | _ | j
      · exact h1
      · exact h2
      · exact h5 j (by simpa using hj)
  · rintro ⟨h8, h7, ⟨⟨h3, h4, h6⟩, h5⟩, h9⟩
    refine ⟨h5 0 (by simp), h5 1 (by simp), h3, h4, fun i hi => h5 (i + 2) (by simpa using hi), fun i hi => (h6 i hi).1, h7, h8, h9, fun i hi => ?_⟩
    have := (h6 (i + 1) hi).2 (by omega)
    rwa [Nat.add_sub_cancel] at this
set_option maxHeartbeats 4000000 in
theorem couldOrder_any (t : Tg) {v0 v1 : Value} (w : World) (ht : SmTg t) (k0 : SStrA w v0 t.ins) (k1 : SStrA w v1 t.outs) :
    Calls Tryz.prog 121 #[.agg #[.string t.name, .string t.tool, .string t.arg, v0, v1]] w fun e w' => Says e (TgOk t) ∧ Below w.heap.size w w' := by
  have HT := hid ht
  have HIF := hid (tgOk_iff t)
  obtain ⟨_, _, _, ⟨hi, _⟩, ho, _⟩ := ht
  have K0 := hid k0
  have K1 := hid k1
  obtain ⟨ad0, cp0, rfl⟩ := k0.sl
  obtain ⟨ad1, cp1, rfl⟩ := k1.sl
  clear k0 k1
  have HB0 := hid (B1.start w (.cells #[.string t.name, .string t.tool, .string t.arg, .slice ad0 t.ins.length cp0, .slice ad1 t.outs.length cp1] 35))
  obtain ⟨W0, hW0⟩ : ∃ W, w.alloc (.cells #[.string t.name, .string t.tool, .string t.arg, .slice ad0 t.ins.length cp0, .slice ad1 t.outs.length cp1] 35) = W := ⟨_, rfl⟩
  rw [hW0] at HB0
  have a0 : W0.cell? ⟨w.heap.size, 0, none⟩ = some (.string t.name) := row_cell HB0.out.e 0
  have a1 : W0.cell? ⟨w.heap.size, 1, none⟩ = some (.string t.tool) := row_cell HB0.out.e 1
  have a2 : W0.cell? ⟨w.heap.size, 2, none⟩ = some (.string t.arg) := row_cell HB0.out.e 2
  have a3 : W0.cell? ⟨w.heap.size, 3, none⟩ = some (.slice ad0 t.ins.length cp0) := row_cell HB0.out.e 3
  have a4 : W0.cell? ⟨w.heap.size, 4, none⟩ = some (.slice ad1 t.outs.length cp1) := row_cell HB0.out.e 4
  go_enter Tryz.func121, Tryz.ntmps121
  go_upto_region 1 with fail
  clear hW0
  by_cases c1 : t.outs.length = 0
  · have q1 : ((t.outs.length : Int) == 0) = true := by simp [c1]
    have C1 := hid c1
    clear c1
    go_wp2
    go_ret
    exact ⟨says_f fun h => (HIF.out.1 h).1 C1.out, HB0.out.lo⟩
  have q1 : ((t.outs.length : Int) == 0) = false := by rw [beq_eq_false_iff_ne]; omega
  by_cases c2 : ¬ t.ins.length ≤ 200
  · have q2 : (200 : Int) < (t.ins.length : Int) := by omega
    have C2 := hid c2
    clear c2
    go_wp2
    go_ret
    exact ⟨says_f fun h => C2.out (HIF.out.1 h).2.1, HB0.out.lo⟩
  have c2 := Classical.not_not.1 c2
  have q2 : ¬ (200 : Int) < (t.ins.length : Int) := by omega
  have C1 := hid c1
  have C2 := hid c2
  clear c1 c2
  go_wp2_with fail
  refine (isOrder_any t _ HT.out (K0.out.next HB0.out.lo) (K1.out.next HB0.out.lo)).mono ?_
  rintro e W1 ⟨hs, hb⟩
  have HB1 := hid (HB0.out.next hb)
  clear hb a0 a1 a2 a3 a4
  by_cases cF : ¬ OrdOk t
  · have CF := hid cF
    have hq := hs.neg cF
    obtain rfl := hq
    clear hs cF
    go_wp2
    go_ret
    exact ⟨says_f fun h => CF.out (HIF.out.1 h).2.2.1, HB1.out.lo⟩
  have CF := hid (Classical.not_not.1 cF)
  have hq := hs.pos CF.out
  obtain rfl := hq
  clear hs cF
  have a3 : W1.cell? ⟨w.heap.size, 3, none⟩ = some (.slice ad0 t.ins.length cp0) := row_cell HB1.out.e 3
  go_wp2
  clear a3
  go_loopw [3, 22] (fun _ i wr => ∃ j : Nat, j ≤ t.ins.length ∧ i = .int .i64 j ∧ (∀ i, i + 1 < j → ltB (t.ins.getD i ⟨#[]⟩) (t.ins.getD (i + 1) ⟨#[]⟩) = true) ∧ B1 w (.cells #[.string t.name, .string t.tool, .string t.arg, .slice ad0 t.ins.length cp0, .slice ad1 t.outs.length cp1] 35) wr) (fun _ i _ => t.ins.length - (intOf i).toNat)
  case atStart => exact ⟨0, Nat.zero_le _, rfl, fun i h => absurd h (by omega), HB1.out⟩
  case round =>
    obtain ⟨j, hj, rfl, hr, hbw⟩ := hrel
    have HBW := hid hbw
    have HR := hid hr
    clear hr hbw
    have a3 : wr.cell? ⟨w.heap.size, 3, none⟩ = some (.slice ad0 t.ins.length cp0) := row_cell HBW.out.e 3
    by_cases hlt : j < t.ins.length
    · rcases Nat.eq_zero_or_pos j with h0 | h0
      · subst h0
        go_upto_region 6 with fail
        go_quiet (fail)
        go_wp2
        go_roundw
        case rel => exact ⟨0 + 1, by omega, by go_num, fun i h => absurd h (by omega), HBW.out.next (below_drewN (Below.refl _ _) nq)⟩
        case measure => simp [intOf]; omega
      · obtain ⟨p, rfl⟩ : ∃ p, j = p + 1 := ⟨j - 1, by omega⟩
        obtain ⟨a, c, e9, hal, c0⟩ := (K0.out.next HBW.out.lo).at (show p < t.ins.length by omega)
        injection e9 with ea en ec
        subst ea ec
        obtain ⟨b, d, e8, hbl, d0⟩ := (K0.out.next HBW.out.lo).at hlt
        injection e8 with eb en2 ed
        injection eb with eb2
        subst eb2
        clear en en2 ed
        have NX : Hid (Go.Op.bytesLess (t.ins.getD p ⟨#[]⟩).toList (t.ins.getD (p + 1) ⟨#[]⟩).toList = true → ∀ i, i + 1 < p + 1 + 1 → ltB (t.ins.getD i ⟨#[]⟩) (t.ins.getD (i + 1) ⟨#[]⟩) = true) := fun h i hi => by
          by_cases hip : i = p
          · subst hip; exact h
          · exact HR.out i (by omega)
        have NO : Hid (Go.Op.bytesLess (t.ins.getD p ⟨#[]⟩).toList (t.ins.getD (p + 1) ⟨#[]⟩).toList = false → ¬ TgOk t) := fun h h2 => by
          have h3 := h2.2.2.2.2.2.2.2.2.1 p hlt
          unfold ltB at h3
          rw [h] at h3
          cases h3
        obtain ⟨x, hx⟩ : ∃ x, t.ins.getD p ⟨#[]⟩ = x := ⟨_, rfl⟩
        obtain ⟨y, hy⟩ : ∃ y, t.ins.getD (p + 1) ⟨#[]⟩ = y := ⟨_, rfl⟩
        rw [hx] at c0 NX NO
        rw [hy] at d0 NX NO
        clear hx hy
        unfold StrA at c0 d0
        have d1 : wr.cell? ⟨a.block, a.off + (p + 1), none⟩ = some (.string y) := by rw [← add_one a (p + 1) (by omega)]; exact d0
        have hp1 : p < t.ins.length := by omega
        have hw1 : IntKind.i64.wrap (p : Int) = (p : Int) := by rw [IntKind.wrap_i64]; omega
        have hb1 : (p : Int) + 1 < (t.ins.length : Int) := by omega
        have hb2 : (0 : Int) ≤ (p : Int) + 1 := by omega
        have hb3 : ((p : Int) + 1).toNat = p + 1 := by omega
        have hb4 : (0 : Int) < (p : Int) + 1 := by omega
        cases hL : Go.Op.bytesLess x.toList y.toList
        · have N2 := hid (NO.out hL)
          go_upto_region 6 with fail
          go_quiet (fail)
          go_wp2
          go_ret
          exact ⟨says_f N2.out, below_drewN HBW.out.lo nq⟩
        · have N2 := hid (NX.out hL)
          go_upto_region 6 with fail
          go_quiet (fail)
          go_wp2
          go_roundw
          case rel => exact ⟨p + 1 + 1, by omega, by go_num, N2.out, HBW.out.next (below_drewN (Below.refl _ _) nq)⟩
          case measure => simp [intOf]; omega
    · obtain rfl : j = t.ins.length := by omega
      have HUins : Hid (UpT t.ins) := fun i hi => HR.out i hi
      go_wp2
      go_ret
      exact ⟨says_t (HIF.out.2 ⟨C1.out, C2.out, CF.out, HUins.out⟩), HBW.out.lo⟩
end Go.Proofs.YtlopcjhipajdcaaGreatDoor.Y
/-! Regions that draw their order, over wide structs: a step at a time. -/
namespace Go.Proofs.YtlopcjhipajdcaaGreatDoor.Y
open Go.RowKit R
set_option maxRecDepth 20000
/-- The only operation that may come up is a call of a Go function. -/
theorem held_call {P : Program} {md : Region.Mode} {ops : Array Oper} {Q : Exit → Act → World → Prop} {S : World → Prop} {i fuel : Nat} {listed : Array Bool} {a : Act} {w : World} {o : Oper} (hr : Region.ready md ops listed = [i]) (ho : ops[i]? = some o) (hg : o.guard = none)
    {f : FuncId} {vals : Array Value} (hx : (execOp a.eval o).run P w = .ok (.enter f vals) w) {Q' : Ending → World → Prop} (hc : Calls P f vals w Q')
    (h : ∀ e w', Q' e w' → ∃ v, e = .returned v ∧ S w' ∧ wpAnyH P md ops Q S fuel (listed.setIfInBounds i true) (a.put o.dst v) w') : wpAnyH P md ops Q S (fuel + 1) listed a w := by
  refine wpAnyH_all (rs := [i]) hr (by simp) fun j hj => ?_
  obtain rfl : j = i := by simpa using hj
  unfold wpOp
  rw [ho]
  have hw : Region.wanted o (yielded ops a.tmps) = true := by simp [Region.wanted, hg]
  simp only [hw, if_true]
  refine .inl ?_
  unfold Oper.wp
  rw [hx, Oper.upon_enter]
  refine hc.mono fun e w' hq => ?_
  obtain ⟨v, rfl, hk⟩ := h e w' hq
  exact hk
/-- The only operation that may come up is the store of a whole row. -/
theorem held_store_row {P : Program} {md : Region.Mode} {ops : Array Oper} {Q : Exit → Act → World → Prop} {S : World → Prop} {i fuel : Nat} {listed : Array Bool} {a : Act} {w : World} {o : Oper} (hr : Region.ready md ops listed = [i]) (ho : ops[i]? = some o) (hg : o.guard = none) (ty : TypeId) (x y : Operand) (hop : o.op = .store ty x y)
    (g : Nat) (cells : Array Value) (hx : a.eval x = .pointer (some ⟨g, 0, none⟩)) (hy : a.eval y = .agg cells) (t : TypeId) (old : Array Value) (hh : w.heap[g]? = some (.cells old t (0, 0))) (hi : (P.info? ty).map (·.size) = some cells.size)
    (hold : old.size = cells.size) (h1 : cells.all (·.oneCell') = true) (hS : S (w.setRow g cells)) (h : wpAnyH P md ops Q S fuel (listed.setIfInBounds i true) (a.put o.dst undef) (w.setRow g cells)) : wpAnyH P md ops Q S (fuel + 1) listed a w := by
  refine wpAnyH_all (rs := [i]) hr (by simp) fun j hj => ?_
  obtain rfl : j = i := by simpa using hj
  unfold wpOp
  rw [ho]
  have hw : Region.wanted o (yielded ops a.tmps) = true := by simp [Region.wanted, hg]
  simp only [hw, if_true]
  exact .inl (wp_store_row ty x y hop g cells hx hy t old hh hi hold h1 ⟨hS, h⟩)
end Go.Proofs.YtlopcjhipajdcaaGreatDoor.Y
