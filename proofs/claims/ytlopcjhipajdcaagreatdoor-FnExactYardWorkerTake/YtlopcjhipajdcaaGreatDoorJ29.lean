import Derived.Deep.RegionHeld3
import Derived.Test.YtlopcjhipajdcaaGreatDoorJ28
/-! The lines of a target, by the model: only that there is something. -/
namespace Go.Proofs.YtlopcjhipajdcaaGreatDoor.Y
open Go.RowKit R
open Go.Proofs.YtlopcjhipajdcaaGreatDoor.J (FileOk BegOk RepOk ltB Says says_t says_f)
set_option maxRecDepth 20000
theorem wpList_app {ops : Array Oper} {rest : List Oper} {o : Oper} {a : Act} {w : World} {Q : Exit → Act → World → Prop} (hgd : o.guard = none) (sl x : Operand)
    (ho : o.op = .call { callee := .builtin .append, args := #[sl, x], argTypes := #[112, 9] })
    (B n : Nat) (v : Value) (hs : a.eval sl = v) (hown : OwnB B w v n) (s : ByteArray) (hx : a.eval x = .string s) (hB : B ≤ w.heap.size) (hn : n + s.size ≤ 100000000000)
    (h : ∀ v' w', OwnB B w' v' (n + s.size) → w.grownBy w' v.ownBlock → wpList Tryz.prog ops Q rest (a.put o.dst v') w') : wpList Tryz.prog ops Q (o :: rest) a w := by
  refine wpList_plain hgd fun K hK => ?_
  obtain ⟨v', w', hr, h2, h3⟩ := hown.app s o.type hB hn
  unfold Oper.wp execOp
  simp only [ho, resolve, invoke, builtin, Sem.run_bind, Sem.run_pure, Result.andThen_ok, List.map_toArray, List.map_cons, List.map_nil, hs, hx, hr]
  exact hK _ _ (h v' w' h2 h3)
theorem step_app {ops : Array Oper} {o : Oper} {a : Act} {w : World} {K : Act → World → Prop} {Q : Exit → Act → World → Prop} {E : Prop} (hg : o.guard = none) (sl x : Operand)
    (ho : o.op = .call { callee := .builtin .append, args := #[sl, x], argTypes := #[112, 9] })
    (B n : Nat) (v : Value) (hs : a.eval sl = v) (hown : OwnB B w v n) (s : ByteArray) (hx : a.eval x = .string s) (hB : B ≤ w.heap.size) (hn : n + s.size ≤ 100000000000)
    (h : ∀ v' w', OwnB B w' v' (n + s.size) → w.grownBy w' v.ownBlock → K (a.put o.dst v') w') :
    if Region.wanted o (yielded ops a.tmps) = true then Oper.wp Tryz.prog o a w K Q else E := by
  have hw : Region.wanted o (yielded ops a.tmps) = true := by simp [Region.wanted, hg]
  rw [if_pos hw]
  obtain ⟨v', w', hr, h2, h3⟩ := hown.app s o.type hB hn
  unfold Oper.wp
  simp [execOp, ho, resolve, invoke, builtin, hs, hx, hr, Result.andThen]
  exact h v' w' h2 h3
/-- A box that lies apart from the bytes stays. -/
theorem b1_app {w W V : World} {o : Obj} {v : Value} {n : Nat} (h : B1 w o W) (ho : OwnB (w.heap.size + 1) W v n) (hg : W.grownBy V v.ownBlock) : B1 w o V := by
  refine ⟨h.lo.grown hg h.lo.size (fun k e => Nat.le_trans (Nat.le_succ _) (ho.lt k e).1), ?_⟩
  rw [hg.block _ (lt_hp h.e) (fun e => by have := (ho.lt _ e.symm).1; omega)]
  exact h.e
theorem lines_size (d a b c : ByteArray) : (d ++ ⟨#[32]⟩ ++ a ++ ⟨#[32]⟩ ++ b ++ ⟨#[32]⟩ ++ c ++ ⟨#[10]⟩ : ByteArray).size = d.size + 1 + a.size + 1 + b.size + 1 + c.size + 1 := by
  simp only [ByteArray.size_append]
  rfl
set_option maxHeartbeats 8000000 in
theorem lines_any (d : ByteArray) (t : Tg) {v0 v1 : Value} (w : World) (hd : d.size ≤ 1000) (ht : TgOk t) (k0 : SStrA w v0 t.ins) (k1 : SStrA w v1 t.outs) :
    Calls Tryz.prog 47 #[.string d, .agg #[.string t.name, .string t.tool, .string t.arg, v0, v1]] w fun e w' => ∃ s : ByteArray, e = .returned (.string s) ∧ 1 ≤ s.size ∧ s.size ≤ 100000 ∧ Below w.heap.size w w' := by
  obtain ⟨⟨_, hn, _⟩, ⟨_, ht2, _⟩, ha, ho, hfi, hfo, hi, _⟩ := ht
  have HFI : Hid (∀ i, i < t.ins.length → (t.ins.getD i ⟨#[]⟩).size ≤ 60) := fun i h => (hfi i h).2.1
  have HFO : Hid (∀ i, i < t.outs.length → (t.outs.getD i ⟨#[]⟩).size ≤ 60) := fun i h => (hfo i h).2.1
  clear hfi hfo
  have K0 := hid k0
  have K1 := hid k1
  obtain ⟨ad0, cp0, rfl⟩ := k0.sl
  obtain ⟨ad1, cp1, rfl⟩ := k1.sl
  clear k0 k1
  obtain ⟨BX, hBX⟩ : ∃ BX, (Obj.cells #[.string t.name, .string t.tool, .string t.arg, .slice ad0 t.ins.length cp0, .slice ad1 t.outs.length cp1] 35 (0, 0)) = BX := ⟨_, rfl⟩
  have HBX := hid hBX
  have HB0 := hid (B1.start w BX)
  have HCL : Hid (∀ W, B1 w BX W → W.cell? ⟨w.heap.size, 0, none⟩ = some (.string t.name) ∧ W.cell? ⟨w.heap.size, 1, none⟩ = some (.string t.tool) ∧ W.cell? ⟨w.heap.size, 2, none⟩ = some (.string t.arg) ∧ W.cell? ⟨w.heap.size, 3, none⟩ = some (.slice ad0 t.ins.length cp0) ∧ W.cell? ⟨w.heap.size, 4, none⟩ = some (.slice ad1 t.outs.length cp1)) := fun W h => by
    have e := h.e
    rw [← HBX.out] at e
    exact ⟨row_cell e 0, row_cell e 1, row_cell e 2, row_cell e 3, row_cell e 4⟩
  have hs2 : t.arg.size ≤ 1048576 := by omega
  obtain ⟨cp, cw, hcv⟩ := conv_fun
  have HCV := hid fun s w => (hcv s w).2
  have kc := fun s w => (hcv s w).1
  clear hcv
  go_enter Tryz.func47, Tryz.ntmps47
  go_upto_region 1 with fail
  obtain ⟨W0, hW0⟩ : ∃ W, w.alloc BX = W := ⟨_, rfl⟩
  rw [hW0] at HB0 ⊢
  clear hW0 hBX
  obtain ⟨a0, a1, a2, a3, a4⟩ := HCL.out _ HB0.out
  have g1 : ¬ (9223372036854775807 < d.size + 1) := by omega
  have g2 : ¬ (9223372036854775807 < d.size + 1 + t.name.size) := by omega
  have g3 : ¬ (9223372036854775807 < d.size + 1 + t.name.size + 1) := by omega
  have g4 : ¬ (9223372036854775807 < d.size + 1 + t.name.size + 1 + t.tool.size) := by omega
  have g5 : ¬ (9223372036854775807 < d.size + 1 + t.name.size + 1 + t.tool.size + 1) := by omega
  go_cut [5] (fun v wx => ∃ n : Nat, OwnB (w.heap.size + 1) wx v n ∧ 1 ≤ n ∧ n ≤ 40000 ∧ B1 w BX wx)
  case first =>
    have HSZ : Hid (∀ (y : ByteArray) (W : World), y.size ≤ 9002 → B1 w BX W → ∃ n : Nat, OwnB (w.heap.size + 1) (cw (d ++ ⟨#[32]⟩ ++ t.name ++ ⟨#[32]⟩ ++ t.tool ++ ⟨#[32]⟩ ++ y ++ ⟨#[10]⟩) W) (.slice (some ⟨W.heap.size, 0, none⟩) (d.size + 1 + t.name.size + 1 + t.tool.size + 1 + y.size + 1) (cp (d ++ ⟨#[32]⟩ ++ t.name ++ ⟨#[32]⟩ ++ t.tool ++ ⟨#[32]⟩ ++ y ++ ⟨#[10]⟩) W)) n ∧ 1 ≤ n ∧ n ≤ 40000 ∧ B1 w BX (cw (d ++ ⟨#[32]⟩ ++ t.name ++ ⟨#[32]⟩ ++ t.tool ++ ⟨#[32]⟩ ++ y ++ ⟨#[10]⟩) W)) := fun y W hy hb => by
      have hS := lines_size d t.name t.tool y
      obtain ⟨h1, h2⟩ := HCV.out (d ++ ⟨#[32]⟩ ++ t.name ++ ⟨#[32]⟩ ++ t.tool ++ ⟨#[32]⟩ ++ y ++ ⟨#[10]⟩) W
      have h3 := (h2 (by omega)).mono (B' := w.heap.size + 1) (lt_hp hb.e)
      rw [hS] at h3
      exact ⟨_, h3, by omega, by omega, hb.next h1⟩
    go_wp2_with fail
    go_region_with (go_at_call 52; refine (quote_sz t.arg _ hs2).mono ?_; rintro e w1 ⟨y1, rfl, hy1, hb1⟩; have HC1 := hid (HB0.out.next ((Below.refl _ _).drew.trans hb1)); obtain ⟨b0, b1, b2, _, _⟩ := HCL.out _ HC1.out; have k1 : ¬ (9223372036854775807 < d.size + 1 + t.name.size + 1 + t.tool.size + 1 + y1.size) := (by omega); have k2 : ¬ (9223372036854775807 < d.size + 1 + t.name.size + 1 + t.tool.size + 1 + y1.size + 1) := (by omega); clear hb1)
    all_goals
      have HK := hid (HSZ.out y1 w1 (by omega) HC1.out)
      go_wp2_with fail
      go_meet
      case rel => exact HK.out
  case rest =>
    obtain ⟨n0, ho, hn1, hn2, hx⟩ := hcut
    have HO := hid ho
    have HX2 := hid hx
    obtain ⟨gs, cs, rfl, _, _⟩ := HO.out.sl
    obtain ⟨_, _, _, b3, b4⟩ := HCL.out _ HX2.out
    clear ho hx kc HCV a0 a1 a2 a3 a4 g1 g2 g3 g4 g5
    go_wp2
    clear b3 b4
    go_loopw [5, 6] (fun v i wr => ∃ (j n : Nat), j ≤ t.ins.length ∧ i = .int .i64 j ∧ OwnB (w.heap.size + 1) wr v n ∧ 1 ≤ n ∧ n ≤ 40000 + j * 70 ∧ B1 w BX wr) (fun _ i _ => t.ins.length - (intOf i).toNat)
    case atStart => exact ⟨0, _, Nat.zero_le _, rfl, HO.out, by omega, by omega, HX2.out⟩
    case round =>
      obtain ⟨j, n, hj, rfl, hown, hn1, hn2, hbx⟩ := hrel
      have OWN := hid hown
      have HX := hid hbx
      clear hown hbx
      obtain ⟨_, _, _, b3, b4⟩ := HCL.out _ HX.out
      clear b4
      obtain ⟨gg, cc, rfl, _, _⟩ := OWN.out.sl
      have hB : w.heap.size + 1 ≤ wr.heap.size := lt_hp HX.out.e
      by_cases hlt : j < t.ins.length
      · obtain ⟨a, c, e9, hal, c0⟩ := (K0.out.next HX.out.lo).at hlt
        injection e9 with ea en ec
        subst ea ec
        clear en
        have hsz := HFI.out j hlt
        obtain ⟨x, hx⟩ : ∃ x, t.ins.getD j ⟨#[]⟩ = x := ⟨_, rfl⟩
        rw [hx] at c0 hsz
        clear hx
        unfold StrA at c0
        have hxs : (⟨#[105, 110, 32]⟩ ++ x ++ ⟨#[10]⟩ : ByteArray).size = 3 + x.size + 1 := by simp only [ByteArray.size_append]; rfl
        have k1 : ¬ (9223372036854775807 < 3 + x.size) := by omega
        have k2 : ¬ (9223372036854775807 < 3 + x.size + 1) := by omega
        go_wp2_with (at_builtin; refine wpList_app rfl (.tmp 31) (.tmp 38) rfl (w.heap.size + 1) n _ rfl OWN.out (⟨#[105, 110, 32]⟩ ++ x ++ ⟨#[10]⟩) rfl hB (by rw [hxs]; omega) ?_; intro v' w4 o4 g4)
        rw [hxs] at o4
        have HO4 := hid o4
        have HX4 := hid (b1_app HX.out OWN.out g4)
        obtain ⟨g2, c2, rfl, _, _⟩ := o4.sl
        clear o4 g4 hxs k1 k2 c0
        go_wp2
        go_roundw
        case rel => exact ⟨j + 1, _, by omega, by go_num, HO4.out, by omega, by omega, HX4.out⟩
        case measure => simp [intOf]; omega
      · obtain rfl : j = t.ins.length := by omega
        have HP0 : Hid (OwnB (w.heap.size + 1) wr (.slice (some ⟨gg, 0, none⟩) n cc) n ∧ 1 ≤ n ∧ n ≤ 60000 + 0 * 70 ∧ B1 w BX wr) := ⟨OWN.out, hn1, by omega, HX.out⟩
        go_wp2
        clear b3 hn1 hn2
        go_loopw [5, 7] (fun v i wr => ∃ (j n : Nat), j ≤ t.outs.length ∧ i = .int .i64 j ∧ OwnB (w.heap.size + 1) wr v n ∧ 1 ≤ n ∧ n ≤ 60000 + j * 70 ∧ B1 w BX wr) (fun _ i _ => t.outs.length - (intOf i).toNat)
        case atStart => exact ⟨0, _, Nat.zero_le _, rfl, HP0.out.1, HP0.out.2.1, HP0.out.2.2.1, HP0.out.2.2.2⟩
        case round =>
          obtain ⟨j, n, hj, rfl, hown, hn1, hn2, hbx⟩ := hrel
          have OWN := hid hown
          have HX := hid hbx
          clear hown hbx
          obtain ⟨_, _, _, b3, b4⟩ := HCL.out _ HX.out
          clear b3
          obtain ⟨gg, cc, rfl, _, _⟩ := OWN.out.sl
          have hB : w.heap.size + 1 ≤ wr.heap.size := lt_hp HX.out.e
          by_cases hlt : j < t.outs.length
          · obtain ⟨a, c, e9, hal, c0⟩ := (K1.out.next HX.out.lo).at hlt
            injection e9 with ea en ec
            subst ea ec
            clear en
            have hsz := HFO.out j hlt
            obtain ⟨x, hx⟩ : ∃ x, t.outs.getD j ⟨#[]⟩ = x := ⟨_, rfl⟩
            rw [hx] at c0 hsz
            clear hx
            unfold StrA at c0
            have hxs : (⟨#[111, 117, 116, 32]⟩ ++ x ++ ⟨#[10]⟩ : ByteArray).size = 4 + x.size + 1 := by simp only [ByteArray.size_append]; rfl
            have k1 : ¬ (9223372036854775807 < 4 + x.size) := by omega
            have k2 : ¬ (9223372036854775807 < 4 + x.size + 1) := by omega
            go_wp2_with (at_builtin; refine wpList_app rfl (.tmp 47) (.tmp 54) rfl (w.heap.size + 1) n _ rfl OWN.out (⟨#[111, 117, 116, 32]⟩ ++ x ++ ⟨#[10]⟩) rfl hB (by rw [hxs]; omega) ?_; intro v' w4 o4 g4)
            rw [hxs] at o4
            have HO4 := hid o4
            have HX4 := hid (b1_app HX.out OWN.out g4)
            obtain ⟨g2, c2, rfl, _, _⟩ := o4.sl
            clear o4 g4 hxs k1 k2 c0
            go_wp2
            go_roundw
            case rel => exact ⟨j + 1, _, by omega, by go_num, HO4.out, by omega, by omega, HX4.out⟩
            case measure => simp [intOf]; omega
          · obtain rfl : j = t.outs.length := by omega
            obtain ⟨s, hs, hcs⟩ := OWN.out.str
            have HS := hid hs
            clear hs
            go_wp2
            go_ret
            exact ⟨s, rfl, by have := HS.out; omega, by have := HS.out; omega, HX.out.lo⟩
end Go.Proofs.YtlopcjhipajdcaaGreatDoor.Y
