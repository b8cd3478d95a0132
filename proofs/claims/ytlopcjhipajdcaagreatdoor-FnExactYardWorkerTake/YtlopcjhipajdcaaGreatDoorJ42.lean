import Derived.Shelf.Strconv.Clone
import Derived.Deep.RegionHeld3
import Derived.Laws.EntriesVeiled
import Derived.Deep.DeepCutAuto
import Derived.Deep.MidRow
import Derived.Test.YtlopcjhipajdcaaGreatDoorJ41
import Derived.Test.YtlopcjhipajdcaaGreatDoorJ39
import Derived.Test.YtlopcjhipajdcaaGreatDoorJ36
import Derived.Test.YtlopcjhipajdcaaGreatDoorJ34
/-! strings.Clone, by the shelf. Printed by gen_yrow.py. -/
namespace Go.Proofs.YtlopcjhipajdcaaGreatDoor.Y
open Go.RowKit R
open Go.Proofs.YtlopcjhipajdcaaGreatDoor.J (FileOk BegOk RepOk ltB Says says_t says_f)
set_option maxRecDepth 20000
open Go.Shelf
def cl_ren : Go.Shelf.Ren := ⟨fun | 316 => 135 | n => n, fun | 5 => 5 | 9 => 9 | 3 => 3 | 4 => 4 | 37 => 112 | 127 => 195 | n => n, fun n => n⟩
theorem laysCl : Go.Proofs.LaysM.n316 Tryz.prog cl_ren where
  mixed := by kernel_rfl
  f316 := Tryz.func135.trans (congrArg some (by kernel_rfl))
  t0 := Tryz.underlying0
  a0 := Tryz.isAgg0
  z0 := Tryz.sizeOf0
  v0 := Tryz.zeroValue0
  t3 := Tryz.underlying3
  a3 := Tryz.isAgg3
  z3 := Tryz.sizeOf3
  v3 := Tryz.zeroValue3
  t4 := Tryz.underlying4
  a4 := Tryz.isAgg4
  z4 := Tryz.sizeOf4
  v4 := Tryz.zeroValue4
  t9 := Tryz.underlying9
  a9 := Tryz.isAgg9
  z9 := Tryz.sizeOf9
  v9 := Tryz.zeroValue9
  t37 := Tryz.underlying112
  a37 := Tryz.isAgg112
  z37 := Tryz.sizeOf112
  v37 := Tryz.zeroValue112
  t127 := Tryz.underlying195
  a127 := Tryz.isAgg195
  z127 := Tryz.sizeOf195
  v127 := Tryz.zeroValue195
  t5 := Tryz.underlying5
  a5 := Tryz.isAgg5
  z5 := Tryz.sizeOf5
  v5 := Tryz.zeroValue5
  i0 := by kernel_rfl
  i3 := by kernel_rfl
  i4 := by kernel_rfl
  i9 := by kernel_rfl
  i37 := by kernel_rfl
  i127 := by kernel_rfl
  i5 := by kernel_rfl
theorem clone_any (s : ByteArray) (w : World) (hs : s.size ≤ 1048576) :
    Calls Tryz.prog 115 #[.string s] w fun e w' => e = .returned (.string s) ∧ Below w.heap.size w w' := by
  have HC : Hid (∀ W, Calls Tryz.prog 135 #[.string s] W fun e w' => e = .returned (.string s) ∧ Below W.heap.size W w') := fun W => Any.stringslite_Clone laysCl s W (by omega)
  go_enter Tryz.func115, Tryz.ntmps115
  go_wp2_with fail
  refine (HC.out _).mono ?_
  rintro e w1 ⟨rfl, hb⟩
  have HB := hid hb
  clear hb
  go_wp2
  go_ret
  exact ⟨rfl, HB.out⟩
end Go.Proofs.YtlopcjhipajdcaaGreatDoor.Y
/-! yardIsMessage of an offer, by the program. Printed by gen_ywi.py. -/
namespace Go.Proofs.YtlopcjhipajdcaaGreatDoor.Y
open Go.RowKit R
open Go.Proofs.YtlopcjhipajdcaaGreatDoor.J (FileOk BegOk RepOk ltB Says says_t says_f)
set_option maxRecDepth 20000
theorem cell_keep {W V : World} {p : Addr} {v : Value} (h : W.cell? p = some v) (hb : Below W.heap.size W V) : V.cell? p = some v := (hb.cell (World.block_lt_of_cell? W _ h)).trans h
theorem zero_keep {W V : World} (hb : Below ((W.alloc (.cells #[.string ⟨#[]⟩, .nilFunc, .nilFunc, .nilFunc, .nilFunc, .nilFunc] 119)).drew).heap.size ((W.alloc (.cells #[.string ⟨#[]⟩, .nilFunc, .nilFunc, .nilFunc, .nilFunc, .nilFunc] 119)).drew) V) : V.heap[W.heap.size]? = some (.cells #[.string ⟨#[]⟩, .nilFunc, .nilFunc, .nilFunc, .nilFunc, .nilFunc] 119 (0, 0)) := by
  have h : ((W.alloc (.cells #[.string ⟨#[]⟩, .nilFunc, .nilFunc, .nilFunc, .nilFunc, .nilFunc] 119)).drew).heap[W.heap.size]? = some (.cells #[.string ⟨#[]⟩, .nilFunc, .nilFunc, .nilFunc, .nilFunc, .nilFunc] 119 (0, 0)) := heap_alloc_new W _
  exact hp_next h hb
theorem keep6 {W : World} {b g : Nat} {v x0 x1 x2 x3 x4 x5 : Value} (h : W.cell? ⟨b, 0, none⟩ = some v) (hne : b < g) : ((((((W.setCell ⟨g, 0, none⟩ x0).setCell ⟨g, 1, none⟩ x1).setCell ⟨g, 2, none⟩ x2).setCell ⟨g, 3, none⟩ x3).setCell ⟨g, 4, none⟩ x4).setCell ⟨g, 5, none⟩ x5).cell? ⟨b, 0, none⟩ = some v := by
  rw [← h]
  unfold World.cell?
  rw [set_other _ _ _ _ _ (by simp; omega), set_other _ _ _ _ _ (by simp; omega), set_other _ _ _ _ _ (by simp; omega), set_other _ _ _ _ _ (by simp; omega), set_other _ _ _ _ _ (by simp; omega), set_other _ _ _ _ _ (by simp; omega)]
theorem set6 {W : World} {g : Nat} {x0 x1 x2 x3 x4 x5 y0 y1 y2 y3 y4 y5 : Value} {t : TypeId} (h : W.heap[g]? = some (.cells #[y0, y1, y2, y3, y4, y5] t (0, 0))) : ((((((W.setCell ⟨g, 0, none⟩ x0).setCell ⟨g, 1, none⟩ x1).setCell ⟨g, 2, none⟩ x2).setCell ⟨g, 3, none⟩ x3).setCell ⟨g, 4, none⟩ x4).setCell ⟨g, 5, none⟩ x5).heap[g]? = some (.cells #[x0, x1, x2, x3, x4, x5] t (0, 0)) :=
  set_at x5 (set_at x4 (set_at x3 (set_at x2 (set_at x1 (set_at x0 h)))))
theorem lo6 {w W : World} {B g : Nat} {x0 x1 x2 x3 x4 x5 : Value} (h : Below B w W) (hg : B ≤ g) : Below B w ((((((W.setCell ⟨g, 0, none⟩ x0).setCell ⟨g, 1, none⟩ x1).setCell ⟨g, 2, none⟩ x2).setCell ⟨g, 3, none⟩ x3).setCell ⟨g, 4, none⟩ x4).setCell ⟨g, 5, none⟩ x5) :=
  below_set (below_set (below_set (below_set (below_set (below_set h _ _ hg _) _ _ hg _) _ _ hg _) _ _ hg _) _ _ hg _) _ _ hg _
/-- In a region that only reads, or calls what makes memory: a wide struct is loaded. -/
theorem quiet_load {P : Program} {C : World → Prop} {K : Act → Prop} {a : Act} {o : Oper} (ty : TypeId) (x : Operand) (ho : o.op = .load ty x) (b off : Nat) (hx : a.eval x = .pointer (some ⟨b, off, none⟩)) (cs : List Value) (d : TypeDesc)
    (hc : ∀ w, C w → w.rangeAt b off cs) (hu : P.underlying ty = some d) (hd : d.isRow = true) (hi : (P.info? ty).map (·.size) = some cs.length) (hk : K (a.put o.dst (.agg cs.toArray))) : o.quiet P a C K :=
  ⟨_, fun w hw => by
    unfold Oper.quietAt execOp
    simp only [ho, hx, Instr.loadAt, Instr.sureAddr, Sem.run_bind, Sem.run_pure, Result.andThen_ok, run_loadVar_mid w b off ty cs d (hc w hw) hu hd hi]
    exact ⟨rfl, rfl⟩, hk⟩
theorem mails_op (w : World) : Calls Tryz.prog 84 #[] w fun e w' => (∃ V, e = .returned V ∧ ∀ W, (Instr.index 120 V (.int .i64 1)).run Tryz.prog W = .ok (.agg #[.string ⟨#[111, 102, 102, 101, 114]⟩, .func (.func 100) #[] #[], .func (.func 101) #[] #[], .func (.func 102) #[] #[], .func (.func 103) #[] #[], .func (.func 104) #[] #[]]) W) ∧ Below w.heap.size w w' :=
  (mails_any w).mono fun _ _ h => ⟨⟨_, h.1, mails_ix⟩, h.2⟩
theorem six_z {W : World} {g : Nat} (h : W.heap[g]? = some (.cells #[.string ⟨#[]⟩, .nilFunc, .nilFunc, .nilFunc, .nilFunc, .nilFunc] 119 (0, 0))) : W.cell? ⟨g, 0, none⟩ = some (.string ⟨#[]⟩) ∧ W.cell? ⟨g, 1, none⟩ = some (.nilFunc) ∧ W.cell? ⟨g, 2, none⟩ = some (.nilFunc) ∧ W.cell? ⟨g, 3, none⟩ = some (.nilFunc) ∧ W.cell? ⟨g, 4, none⟩ = some (.nilFunc) ∧ W.cell? ⟨g, 5, none⟩ = some (.nilFunc) := ⟨row_cell h 0, row_cell h 1, row_cell h 2, row_cell h 3, row_cell h 4, row_cell h 5⟩
theorem six_f {W : World} {g : Nat} (h : W.heap[g]? = some (.cells #[.string ⟨#[]⟩, .nilFunc, .nilFunc, .nilFunc, .nilFunc, .nilFunc] 119 (0, 0))) : W.frozen? ⟨g, 0, none⟩ = false ∧ W.frozen? ⟨g, 1, none⟩ = false ∧ W.frozen? ⟨g, 2, none⟩ = false ∧ W.frozen? ⟨g, 3, none⟩ = false ∧ W.frozen? ⟨g, 4, none⟩ = false ∧ W.frozen? ⟨g, 5, none⟩ = false := ⟨(row_room (i := 0) h (by simp)).2, (row_room (i := 1) h (by simp)).2, (row_room (i := 2) h (by simp)).2, (row_room (i := 3) h (by simp)).2, (row_room (i := 4) h (by simp)).2, (row_room (i := 5) h (by simp)).2⟩
set_option maxHeartbeats 8000000 in
theorem isMsg_any (m : Ms) {v0 v1 v2 v3 v4 : Value} (w : World) (hk : m.kind = 1) (hm : SmMs m) (k0 : SStrA w v0 m.target.ins) (k1 : SStrA w v1 m.target.outs) (k2 : SSnA w v2 m.seen) (k3 : SFlA w v3 m.turn.files) (k4 : SStrA w v4 m.turn.said) :
    Calls Tryz.prog 57 #[.agg #[.int .i64 m.kind, .int .i64 m.to, .int .i64 m.sender, .int .i64 m.epoch, .int .i64 m.edit, .string m.target.name, .string m.target.tool, .string m.target.arg, v0, v1, v2, .int .i64 m.count, .bool m.turn.over, .int .i64 m.turn.code, .string m.turn.text, .int .i64 m.turn.kind, .string m.turn.name, .int .i64 m.turn.steps, v3, v4]] w fun e w' => Says e (OfOk m) ∧ Below w.heap.size w w' := by
  have HM := hid hm
  have K0 := hid k0
  obtain ⟨ad0, cp0, rfl⟩ := k0.sl
  have K1 := hid k1
  obtain ⟨ad1, cp1, rfl⟩ := k1.sl
  have K2 := hid k2
  obtain ⟨ad2, cp2, rfl⟩ := k2.sl
  have K3 := hid k3
  obtain ⟨ad3, cp3, rfl⟩ := k3.sl
  have K4 := hid k4
  obtain ⟨ad4, cp4, rfl⟩ := k4.sl
  clear k0 k1 k2 k3 k4
  have HB0 := hid (B1.start w (.cells #[.int .i64 m.kind, .int .i64 m.to, .int .i64 m.sender, .int .i64 m.epoch, .int .i64 m.edit, .string m.target.name, .string m.target.tool, .string m.target.arg, .slice ad0 m.target.ins.length cp0, .slice ad1 m.target.outs.length cp1, .slice ad2 m.seen.length cp2, .int .i64 m.count, .bool m.turn.over, .int .i64 m.turn.code, .string m.turn.text, .int .i64 m.turn.kind, .string m.turn.name, .int .i64 m.turn.steps, .slice ad3 m.turn.files.length cp3, .slice ad4 m.turn.said.length cp4] 41))
  obtain ⟨W0, hW0⟩ : ∃ W, w.alloc (.cells #[.int .i64 m.kind, .int .i64 m.to, .int .i64 m.sender, .int .i64 m.epoch, .int .i64 m.edit, .string m.target.name, .string m.target.tool, .string m.target.arg, .slice ad0 m.target.ins.length cp0, .slice ad1 m.target.outs.length cp1, .slice ad2 m.seen.length cp2, .int .i64 m.count, .bool m.turn.over, .int .i64 m.turn.code, .string m.turn.text, .int .i64 m.turn.kind, .string m.turn.name, .int .i64 m.turn.steps, .slice ad3 m.turn.files.length cp3, .slice ad4 m.turn.said.length cp4] 41) = W := ⟨_, rfl⟩
  rw [hW0] at HB0
  have HK := hid hk
  clear hk hm
  go_enter Tryz.func57, Tryz.ntmps57
  go_upto_region 1 with fail
  clear hW0
  have a0 : W0.cell? ⟨w.heap.size, 0, none⟩ = some (.int .i64 1) := by rw [← HK.out]; exact row_cell HB0.out.e 0
  go_upto_region 3 with (refine (within_any 1 1 3 _).mono ?_; rintro e W1 ⟨hs, hW⟩; obtain rfl := hW.symm; have hq := hs.pos (by omega); obtain rfl := hq; clear hs)
  go_cut [3] (fun v W => ∃ g, v = .pointer (some ⟨g, 0, none⟩) ∧ W.heap[g]? = some (.cells #[.string ⟨#[111, 102, 102, 101, 114]⟩, .func (.func 100) #[] #[], .func (.func 101) #[] #[], .func (.func 102) #[] #[], .func (.func 103) #[] #[], .func (.func 104) #[] #[]] 119 (0, 0)) ∧ B1 w (.cells #[.int .i64 m.kind, .int .i64 m.to, .int .i64 m.sender, .int .i64 m.epoch, .int .i64 m.edit, .string m.target.name, .string m.target.tool, .string m.target.arg, .slice ad0 m.target.ins.length cp0, .slice ad1 m.target.outs.length cp1, .slice ad2 m.seen.length cp2, .int .i64 m.count, .bool m.turn.over, .int .i64 m.turn.code, .string m.turn.text, .int .i64 m.turn.kind, .string m.turn.name, .int .i64 m.turn.steps, .slice ad3 m.turn.files.length cp3, .slice ad4 m.turn.said.length cp4] 41) W)
  case first =>
    have HS0 : Hid (∀ V, Below W0.heap.size W0 V → V.cell? ⟨w.heap.size, 0, none⟩ = some (.int .i64 1)) := hid fun V h => cell_keep a0 h
    go_region_held3 (fun V => V.cell? ⟨w.heap.size, 0, none⟩ = some (.int .i64 1)) (first | (with_reducible refine keep6 (W := W2) ?_ ?_; exact HS0.out _ HB2.out; exact World.block_lt_of_cell? W0 _ a0) | (with_reducible exact HS0.out _ HB2.out) | (with_reducible exact HS0.out _ (HB2.out.alloc HB2.out.size _)) | (with_reducible exact HS0.out _ (Below.refl _ _).drew) | (with_reducible exact HS0.out _ ((Below.refl _ _).alloc (Nat.le_refl _) _).drew)| fail) (first
      | (go_at_call 84; (with_reducible show Calls _ _ _ (World.drew W0) _); refine (mails_op W0.drew).mono ?_; rintro e W2 ⟨⟨V, rfl, hix⟩, hb⟩; have HB2 := hid ((show Below W0.heap.size W0 W0.drew from (Below.refl _ _).drew).trans hb); clear hb)
      | (go_at_call 84; (with_reducible show Calls _ _ _ (World.drew (World.alloc _ _)) _); refine (mails_op ((W0.alloc (.cells #[.string ⟨#[]⟩, .nilFunc, .nilFunc, .nilFunc, .nilFunc, .nilFunc] 119)).drew)).mono ?_; rintro e W2 ⟨⟨V, rfl, hix⟩, hb⟩; have hz := zero_keep (W := W0) hb; have HZ := hid hz; have HB2 := hid ((show Below W0.heap.size W0 ((W0.alloc (.cells #[.string ⟨#[]⟩, .nilFunc, .nilFunc, .nilFunc, .nilFunc, .nilFunc] 119)).drew) from ((Below.refl _ _).alloc (Nat.le_refl _) _).drew).trans (hb.mono (show W0.heap.size ≤ ((W0.alloc (.cells #[.string ⟨#[]⟩, .nilFunc, .nilFunc, .nilFunc, .nilFunc, .nilFunc] 119)).drew).heap.size by simp))); obtain ⟨z0, z1, z2, z3, z4, z5⟩ := six_z hz; obtain ⟨y0, y1, y2, y3, y4, y5⟩ := six_f hz; clear hb hz) | fail)
    all_goals go_wp2_with fail
    all_goals go_meet
    all_goals first
      | (have hz9 := HZ.out; refine ⟨_, rfl, set6 hz9, ?_⟩; have hl9 := lo6 (g := W0.heap.size) (x0 := .string ⟨#[111, 102, 102, 101, 114]⟩) (x1 := .func (.func 100) #[] #[]) (x2 := .func (.func 101) #[] #[]) (x3 := .func (.func 102) #[] #[]) (x4 := .func (.func 103) #[] #[]) (x5 := .func (.func 104) #[] #[]) HB2.out (Nat.le_refl _); exact HB0.out.next hl9)
      | (exact ⟨_, rfl, heap_alloc_new _ _, (HB0.out.next HB2.out).next ((Below.refl _ _).alloc (Nat.le_refl _) _)⟩)
  case rest =>
    obtain ⟨g, rfl, hg, hb1⟩ := hcut
    obtain ⟨W1, hW1⟩ : ∃ W', wc = W' := ⟨_, rfl⟩
    rw [hW1] at hg hb1 ⊢
    have HB1 := hid hb1
    have HG := hid hg
    clear hW1 hg hb1 a0
    have HRG : Hid (∀ V, Below W1.heap.size W1 V → V.rangeAt w.heap.size 0 [.int .i64 1, .int .i64 m.to, .int .i64 m.sender, .int .i64 m.epoch, .int .i64 m.edit, .string m.target.name, .string m.target.tool, .string m.target.arg, .slice ad0 m.target.ins.length cp0, .slice ad1 m.target.outs.length cp1, .slice ad2 m.seen.length cp2, .int .i64 m.count, .bool m.turn.over, .int .i64 m.turn.code, .string m.turn.text, .int .i64 m.turn.kind, .string m.turn.name, .int .i64 m.turn.steps, .slice ad3 m.turn.files.length cp3, .slice ad4 m.turn.said.length cp4]) := hid fun V h => range_mid [] _ [] (by have h9 := (HB1.out.next h).e; rw [HK.out] at h9; exact h9) rfl
    have c1 := fun p : J.Gr W1 => (row_cell (hp_next HG.out p.h) 1 : p.W.cell? ⟨g, 1, none⟩ = some (.func (.func 100) #[] #[]))
    have c2 := fun p : J.Gr W1 => (row_cell (hp_next HG.out p.h) 2 : p.W.cell? ⟨g, 2, none⟩ = some (.func (.func 101) #[] #[]))
    have HT : Hid (∀ V, Below W1.heap.size W1 V → Below w.heap.size w V) := hid fun V h => (HB1.out.next h).lo
    have HF1 : Hid (∀ V, Below W1.heap.size W1 V → Calls Tryz.prog 101 #[.agg #[.int .i64 1, .int .i64 m.to, .int .i64 m.sender, .int .i64 m.epoch, .int .i64 m.edit, .string m.target.name, .string m.target.tool, .string m.target.arg, .slice ad0 m.target.ins.length cp0, .slice ad1 m.target.outs.length cp1, .slice ad2 m.seen.length cp2, .int .i64 m.count, .bool m.turn.over, .int .i64 m.turn.code, .string m.turn.text, .int .i64 m.turn.kind, .string m.turn.name, .int .i64 m.turn.steps, .slice ad3 m.turn.files.length cp3, .slice ad4 m.turn.said.length cp4]] V fun e w' => Says e ((1 ≤ m.to ∧ m.to ≤ 4) ∧ ((1 ≤ m.epoch ∧ m.epoch ≤ 200) ∧ 0 ≤ m.edit ∧ m.edit ≤ 1000) ∧ TgOk m.target ∧ SnsOk m.target.ins.length m.seen) ∧ Below V.heap.size V w') := hid fun V h => by
      have h8 := offerSo_any m V HM.out (K0.out.next (HT.out V h)) (K1.out.next (HT.out V h)) (K2.out.next (HT.out V h)) (K3.out.next (HT.out V h)) (K4.out.next (HT.out V h))
      rw [HK.out] at h8
      exact h8
    by_cases hS : (1 ≤ m.to ∧ m.to ≤ 4) ∧ ((1 ≤ m.epoch ∧ m.epoch ≤ 200) ∧ 0 ≤ m.edit ∧ m.edit ≤ 1000) ∧ TgOk m.target ∧ SnsOk m.target.ins.length m.seen
    · have CS := hid hS
      clear hS
      have HG1 : Hid (∀ V, Below W1.heap.size W1 V → Calls Tryz.prog 101 #[.agg #[.int .i64 1, .int .i64 m.to, .int .i64 m.sender, .int .i64 m.epoch, .int .i64 m.edit, .string m.target.name, .string m.target.tool, .string m.target.arg, .slice ad0 m.target.ins.length cp0, .slice ad1 m.target.outs.length cp1, .slice ad2 m.seen.length cp2, .int .i64 m.count, .bool m.turn.over, .int .i64 m.turn.code, .string m.turn.text, .int .i64 m.turn.kind, .string m.turn.name, .int .i64 m.turn.steps, .slice ad3 m.turn.files.length cp3, .slice ad4 m.turn.said.length cp4]] V fun e w' => e = .returned (.bool true) ∧ Below V.heap.size V w') := hid fun V h => (HF1.out V h).mono fun e w' hh => ⟨hh.1.pos CS.out, hh.2⟩
      have HG2 : Hid (∀ V, Below W1.heap.size W1 V → Calls Tryz.prog 100 #[.agg #[.int .i64 1, .int .i64 m.to, .int .i64 m.sender, .int .i64 m.epoch, .int .i64 m.edit, .string m.target.name, .string m.target.tool, .string m.target.arg, .slice ad0 m.target.ins.length cp0, .slice ad1 m.target.outs.length cp1, .slice ad2 m.seen.length cp2, .int .i64 m.count, .bool m.turn.over, .int .i64 m.turn.code, .string m.turn.text, .int .i64 m.turn.kind, .string m.turn.name, .int .i64 m.turn.steps, .slice ad3 m.turn.files.length cp3, .slice ad4 m.turn.said.length cp4]] V fun e w' => e = .returned (.agg #[.int .i64 1, .int .i64 m.to, .int .i64 0, .int .i64 m.epoch, .int .i64 m.edit, .string m.target.name, .string m.target.tool, .string m.target.arg, .slice ad0 m.target.ins.length cp0, .slice ad1 m.target.outs.length cp1, .slice ad2 m.seen.length cp2, .int .i64 0, .bool false, .int .i64 0, .string ⟨#[]⟩, .int .i64 0, .string ⟨#[]⟩, .int .i64 0, .slice none 0 0, .slice none 0 0]) ∧ Below V.heap.size V w') := hid fun V h => by
        have h8 := offerUsed_any m V (K0.out.next (HT.out V h)) (K1.out.next (HT.out V h)) (K2.out.next (HT.out V h)) (K3.out.next (HT.out V h)) (K4.out.next (HT.out V h))
        rw [HK.out] at h8
        exact h8
      have HF3 : Hid (∀ V, Below W1.heap.size W1 V → Calls Tryz.prog 22 #[.agg #[.int .i64 1, .int .i64 m.to, .int .i64 0, .int .i64 m.epoch, .int .i64 m.edit, .string m.target.name, .string m.target.tool, .string m.target.arg, .slice ad0 m.target.ins.length cp0, .slice ad1 m.target.outs.length cp1, .slice ad2 m.seen.length cp2, .int .i64 0, .bool false, .int .i64 0, .string ⟨#[]⟩, .int .i64 0, .string ⟨#[]⟩, .int .i64 0, .slice none 0 0, .slice none 0 0], .agg #[.int .i64 1, .int .i64 m.to, .int .i64 m.sender, .int .i64 m.epoch, .int .i64 m.edit, .string m.target.name, .string m.target.tool, .string m.target.arg, .slice ad0 m.target.ins.length cp0, .slice ad1 m.target.outs.length cp1, .slice ad2 m.seen.length cp2, .int .i64 m.count, .bool m.turn.over, .int .i64 m.turn.code, .string m.turn.text, .int .i64 m.turn.kind, .string m.turn.name, .int .i64 m.turn.steps, .slice ad3 m.turn.files.length cp3, .slice ad4 m.turn.said.length cp4]] V fun e w' => Says e (m.sender = 0 ∧ m.count = 0 ∧ True ∧ True ∧ TuNone m.turn) ∧ Below V.heap.size V w') := hid fun V h => by
        have h8 := sameMs_used m V HM.out HK.out (K0.out.next (HT.out V h)) (K1.out.next (HT.out V h)) (K2.out.next (HT.out V h)) (K3.out.next (HT.out V h)) (K4.out.next (HT.out V h))
        rw [HK.out] at h8
        exact h8
      by_cases h2 : m.sender = 0 ∧ m.count = 0 ∧ True ∧ True ∧ TuNone m.turn
      · have C2 := hid h2
        clear h2
        have HG3 : Hid (∀ V, Below W1.heap.size W1 V → Calls Tryz.prog 22 #[.agg #[.int .i64 1, .int .i64 m.to, .int .i64 0, .int .i64 m.epoch, .int .i64 m.edit, .string m.target.name, .string m.target.tool, .string m.target.arg, .slice ad0 m.target.ins.length cp0, .slice ad1 m.target.outs.length cp1, .slice ad2 m.seen.length cp2, .int .i64 0, .bool false, .int .i64 0, .string ⟨#[]⟩, .int .i64 0, .string ⟨#[]⟩, .int .i64 0, .slice none 0 0, .slice none 0 0], .agg #[.int .i64 1, .int .i64 m.to, .int .i64 m.sender, .int .i64 m.epoch, .int .i64 m.edit, .string m.target.name, .string m.target.tool, .string m.target.arg, .slice ad0 m.target.ins.length cp0, .slice ad1 m.target.outs.length cp1, .slice ad2 m.seen.length cp2, .int .i64 m.count, .bool m.turn.over, .int .i64 m.turn.code, .string m.turn.text, .int .i64 m.turn.kind, .string m.turn.name, .int .i64 m.turn.steps, .slice ad3 m.turn.files.length cp3, .slice ad4 m.turn.said.length cp4]] V fun e w' => e = .returned (.bool true) ∧ Below V.heap.size V w') := hid fun V h => (HF3.out V h).mono fun e w' hh => ⟨hh.1.pos C2.out, hh.2⟩
        go_wp2_with fail
        have hne2 : Nonempty (J.Gr W1) := ⟨⟨W1, Below.refl _ _⟩⟩
        refine J.wp_region_gr (by kernel_rfl) (by kernel_rfl) ?_
        repeat (first | go_big_quiet_skip | (go_big_quiet_want; refine quiet_load 41 _ rfl w.heap.size 0 rfl [.int .i64 1, .int .i64 m.to, .int .i64 m.sender, .int .i64 m.epoch, .int .i64 m.edit, .string m.target.name, .string m.target.tool, .string m.target.arg, .slice ad0 m.target.ins.length cp0, .slice ad1 m.target.outs.length cp1, .slice ad2 m.seen.length cp2, .int .i64 m.count, .bool m.turn.over, .int .i64 m.turn.code, .string m.turn.text, .int .i64 m.turn.kind, .string m.turn.name, .int .i64 m.turn.steps, .slice ad3 m.turn.files.length cp3, .slice ad4 m.turn.said.length cp4] _ (fun W hW => by obtain ⟨p, rfl⟩ := hW; exact HRG.out _ p.h) Tryz.underlying41 rfl (by kernel_rfl) ?_; simp only [Act.put, List.setIfInBounds_toArray, List.set_cons_zero, List.set_cons_succ]; go_big_quiet_on) | go_big_quiet_step (first | (go_at_call 101; refine J.Calls.gr_of (v := .bool true) fun hpw => ?_; exact HG1.out _ hpw) | (go_at_call 100; refine J.Calls.gr_of (v := .agg #[.int .i64 1, .int .i64 m.to, .int .i64 0, .int .i64 m.epoch, .int .i64 m.edit, .string m.target.name, .string m.target.tool, .string m.target.arg, .slice ad0 m.target.ins.length cp0, .slice ad1 m.target.outs.length cp1, .slice ad2 m.seen.length cp2, .int .i64 0, .bool false, .int .i64 0, .string ⟨#[]⟩, .int .i64 0, .string ⟨#[]⟩, .int .i64 0, .slice none 0 0, .slice none 0 0]) fun hpw => ?_; exact HG2.out _ hpw) | (go_at_call 22; refine J.Calls.gr_of (v := .bool true) fun hpw => ?_; exact HG3.out _ hpw)))
        refine wpQuiet_nil ?_
        intro _ hw'
        obtain ⟨pw, rfl⟩ := hw'
        have HB4 := hid (HB1.out.next pw.h)
        clear c1 c2 hne2
        go_wp2
        go_ret
        exact ⟨says_t ⟨C2.out.1, CS.out.1, CS.out.2.1, CS.out.2.2.1, CS.out.2.2.2, C2.out.2.1, C2.out.2.2.2.2⟩, HB4.out.lo⟩
      · have C2 := hid h2
        clear h2
        have HG3 : Hid (∀ V, Below W1.heap.size W1 V → Calls Tryz.prog 22 #[.agg #[.int .i64 1, .int .i64 m.to, .int .i64 0, .int .i64 m.epoch, .int .i64 m.edit, .string m.target.name, .string m.target.tool, .string m.target.arg, .slice ad0 m.target.ins.length cp0, .slice ad1 m.target.outs.length cp1, .slice ad2 m.seen.length cp2, .int .i64 0, .bool false, .int .i64 0, .string ⟨#[]⟩, .int .i64 0, .string ⟨#[]⟩, .int .i64 0, .slice none 0 0, .slice none 0 0], .agg #[.int .i64 1, .int .i64 m.to, .int .i64 m.sender, .int .i64 m.epoch, .int .i64 m.edit, .string m.target.name, .string m.target.tool, .string m.target.arg, .slice ad0 m.target.ins.length cp0, .slice ad1 m.target.outs.length cp1, .slice ad2 m.seen.length cp2, .int .i64 m.count, .bool m.turn.over, .int .i64 m.turn.code, .string m.turn.text, .int .i64 m.turn.kind, .string m.turn.name, .int .i64 m.turn.steps, .slice ad3 m.turn.files.length cp3, .slice ad4 m.turn.said.length cp4]] V fun e w' => e = .returned (.bool false) ∧ Below V.heap.size V w') := hid fun V h => (HF3.out V h).mono fun e w' hh => ⟨hh.1.neg C2.out, hh.2⟩
        go_wp2_with fail
        have hne2 : Nonempty (J.Gr W1) := ⟨⟨W1, Below.refl _ _⟩⟩
        refine J.wp_region_gr (by kernel_rfl) (by kernel_rfl) ?_
        repeat (first | go_big_quiet_skip | (go_big_quiet_want; refine quiet_load 41 _ rfl w.heap.size 0 rfl [.int .i64 1, .int .i64 m.to, .int .i64 m.sender, .int .i64 m.epoch, .int .i64 m.edit, .string m.target.name, .string m.target.tool, .string m.target.arg, .slice ad0 m.target.ins.length cp0, .slice ad1 m.target.outs.length cp1, .slice ad2 m.seen.length cp2, .int .i64 m.count, .bool m.turn.over, .int .i64 m.turn.code, .string m.turn.text, .int .i64 m.turn.kind, .string m.turn.name, .int .i64 m.turn.steps, .slice ad3 m.turn.files.length cp3, .slice ad4 m.turn.said.length cp4] _ (fun W hW => by obtain ⟨p, rfl⟩ := hW; exact HRG.out _ p.h) Tryz.underlying41 rfl (by kernel_rfl) ?_; simp only [Act.put, List.setIfInBounds_toArray, List.set_cons_zero, List.set_cons_succ]; go_big_quiet_on) | go_big_quiet_step (first | (go_at_call 101; refine J.Calls.gr_of (v := .bool true) fun hpw => ?_; exact HG1.out _ hpw) | (go_at_call 100; refine J.Calls.gr_of (v := .agg #[.int .i64 1, .int .i64 m.to, .int .i64 0, .int .i64 m.epoch, .int .i64 m.edit, .string m.target.name, .string m.target.tool, .string m.target.arg, .slice ad0 m.target.ins.length cp0, .slice ad1 m.target.outs.length cp1, .slice ad2 m.seen.length cp2, .int .i64 0, .bool false, .int .i64 0, .string ⟨#[]⟩, .int .i64 0, .string ⟨#[]⟩, .int .i64 0, .slice none 0 0, .slice none 0 0]) fun hpw => ?_; exact HG2.out _ hpw) | (go_at_call 22; refine J.Calls.gr_of (v := .bool false) fun hpw => ?_; exact HG3.out _ hpw)))
        refine wpQuiet_nil ?_
        intro _ hw'
        obtain ⟨pw, rfl⟩ := hw'
        have HB4 := hid (HB1.out.next pw.h)
        clear c1 c2 hne2
        go_wp2
        go_ret
        exact ⟨says_f fun h => C2.out ⟨h.1, h.2.2.2.2.2.1, trivial, trivial, h.2.2.2.2.2.2⟩, HB4.out.lo⟩
    · have CS := hid hS
      clear hS
      have HG1 : Hid (∀ V, Below W1.heap.size W1 V → Calls Tryz.prog 101 #[.agg #[.int .i64 1, .int .i64 m.to, .int .i64 m.sender, .int .i64 m.epoch, .int .i64 m.edit, .string m.target.name, .string m.target.tool, .string m.target.arg, .slice ad0 m.target.ins.length cp0, .slice ad1 m.target.outs.length cp1, .slice ad2 m.seen.length cp2, .int .i64 m.count, .bool m.turn.over, .int .i64 m.turn.code, .string m.turn.text, .int .i64 m.turn.kind, .string m.turn.name, .int .i64 m.turn.steps, .slice ad3 m.turn.files.length cp3, .slice ad4 m.turn.said.length cp4]] V fun e w' => e = .returned (.bool false) ∧ Below V.heap.size V w') := hid fun V h => (HF1.out V h).mono fun e w' hh => ⟨hh.1.neg CS.out, hh.2⟩
      go_wp2_with fail
      have hne2 : Nonempty (J.Gr W1) := ⟨⟨W1, Below.refl _ _⟩⟩
      refine J.wp_region_gr (by kernel_rfl) (by kernel_rfl) ?_
      repeat (first | go_big_quiet_skip | (go_big_quiet_want; refine quiet_load 41 _ rfl w.heap.size 0 rfl [.int .i64 1, .int .i64 m.to, .int .i64 m.sender, .int .i64 m.epoch, .int .i64 m.edit, .string m.target.name, .string m.target.tool, .string m.target.arg, .slice ad0 m.target.ins.length cp0, .slice ad1 m.target.outs.length cp1, .slice ad2 m.seen.length cp2, .int .i64 m.count, .bool m.turn.over, .int .i64 m.turn.code, .string m.turn.text, .int .i64 m.turn.kind, .string m.turn.name, .int .i64 m.turn.steps, .slice ad3 m.turn.files.length cp3, .slice ad4 m.turn.said.length cp4] _ (fun W hW => by obtain ⟨p, rfl⟩ := hW; exact HRG.out _ p.h) Tryz.underlying41 rfl (by kernel_rfl) ?_; simp only [Act.put, List.setIfInBounds_toArray, List.set_cons_zero, List.set_cons_succ]; go_big_quiet_on) | go_big_quiet_step (first | (go_at_call 101; refine J.Calls.gr_of (v := .bool false) fun hpw => ?_; exact HG1.out _ hpw)))
      refine wpQuiet_nil ?_
      intro _ hw'
      obtain ⟨pw, rfl⟩ := hw'
      have HB4 := hid (HB1.out.next pw.h)
      clear c1 c2 hne2
      go_wp2
      go_ret
      exact ⟨says_f fun h => CS.out ⟨h.2.1, h.2.2.1, h.2.2.2.1, h.2.2.2.2.1⟩, HB4.out.lo⟩
end Go.Proofs.YtlopcjhipajdcaaGreatDoor.Y
/-! The program's copies: files, looks. Printed by gen_yrow.py. -/
namespace Go.Proofs.YtlopcjhipajdcaaGreatDoor.Y
open Go.RowKit R
open Go.Proofs.YtlopcjhipajdcaaGreatDoor.J (FileOk BegOk RepOk ltB Says says_t says_f)
set_option maxRecDepth 20000
set_option maxHeartbeats 4000000 in
theorem fileCopied_any (x : Fl) (w : World) (h0 : x.name.size ≤ 1048576) (h1 : x.text.size ≤ 1048576) :
    Calls Tryz.prog 119 #[.agg #[.string x.name, .string x.text]] w fun e w' => e = .returned (.agg #[.string x.name, .string x.text]) ∧ Below w.heap.size w w' := by
  have HX0 := hid (Q2.start w #[.string x.name, .string x.text] #[.string ⟨#[]⟩, .string ⟨#[]⟩] 114)
  obtain ⟨W0, hW0⟩ : ∃ W, (w.alloc (.cells #[.string x.name, .string x.text] 114)).alloc (.cells #[.string ⟨#[]⟩, .string ⟨#[]⟩] 114) = W := ⟨_, rfl⟩
  rw [hW0] at HX0
  have HE : Hid (∀ V, Below W0.heap.size W0 V → V.heap[w.heap.size]? = some (.cells #[.string x.name, .string x.text] 114 (0, 0))) := hid fun V h => (HX0.out.next h).e
  go_enter Tryz.func119, Tryz.ntmps119
  go_upto_region 1 with fail
  clear hW0
  have HRB0 := hid ((Below.refl W0.heap.size W0).drew)
  refine wp_region_until (fun V => V.heap[w.heap.size]? = some (.cells #[.string x.name, .string x.text] 114 (0, 0))) 7 (by kernel_rfl) ?_
  refine wpAnyU_take (i := 0) (v := .pointer (some ⟨w.heap.size, 0, none⟩)) rfl (by kernel_rfl) (by kernel_rfl) (by kernel_rfl) (fun _ _ _ h => h) (by kernel_rfl) (by kernel_rfl) (by kernel_rfl) (Or.inl ⟨by rfl, fun V _ => by kernel_rfl⟩) (HE.out _ HRB0.out) ?_
  simp only [Act.put, List.getElem_toArray, List.getElem_cons_zero, List.setIfInBounds_toArray, List.set_cons_zero, List.set_cons_succ]
  refine wpAnyU_take (i := 1) (v := .string x.name) rfl (by kernel_rfl) (by kernel_rfl) (by kernel_rfl) (fun _ _ _ h => h) (by kernel_rfl) (by kernel_rfl) (by kernel_rfl) (Or.inl ⟨by rfl, fun V hV => by have hc : V.cell? ⟨w.heap.size, 0, none⟩ = some (.string x.name) := row_cell hV 0; go_simp⟩) (HE.out _ HRB0.out) ?_
  simp only [Act.put, List.getElem_toArray, List.getElem_cons_zero, List.getElem_cons_succ, List.setIfInBounds_toArray, List.set_cons_zero, List.set_cons_succ]
  refine wpAnyU_take (i := 3) (v := .pointer (some ⟨w.heap.size, 1, none⟩)) rfl (by kernel_rfl) (by kernel_rfl) (by kernel_rfl) (fun _ _ _ h => h) (by kernel_rfl) (by kernel_rfl) (by kernel_rfl) (Or.inl ⟨by rfl, fun V _ => by kernel_rfl⟩) (HE.out _ HRB0.out) ?_
  simp only [Act.put, List.getElem_toArray, List.getElem_cons_zero, List.getElem_cons_succ, List.setIfInBounds_toArray, List.set_cons_zero, List.set_cons_succ]
  refine wpAnyU_take (i := 4) (v := .string x.text) rfl (by kernel_rfl) (by kernel_rfl) (by kernel_rfl) (fun _ _ _ h => h) (by kernel_rfl) (by kernel_rfl) (by kernel_rfl) (Or.inl ⟨by rfl, fun V hV => by have hc : V.cell? ⟨w.heap.size, 1, none⟩ = some (.string x.text) := row_cell hV 1; go_simp⟩) (HE.out _ HRB0.out) ?_
  simp only [Act.put, List.getElem_toArray, List.getElem_cons_zero, List.getElem_cons_succ, List.setIfInBounds_toArray, List.set_cons_zero, List.set_cons_succ]
  refine until_call (i := 2) (by kernel_rfl) rfl rfl (by kernel_rfl) (clone_any x.name _ h0) ?_
  rintro e y1 ⟨rfl, hb⟩
  have HRB1 := hid (show Below W0.heap.size W0 y1 from (HRB0.out).trans (hb.mono (HRB0.out).size))
  clear hb
  refine ⟨_, rfl, HE.out _ HRB1.out, ?_⟩
  simp only [Act.put, List.getElem_toArray, List.getElem_cons_zero, List.getElem_cons_succ, List.setIfInBounds_toArray, List.set_cons_zero, List.set_cons_succ]
  refine until_call (i := 5) (by kernel_rfl) rfl rfl (by kernel_rfl) (clone_any x.text _ h1) ?_
  rintro e y2 ⟨rfl, hb⟩
  have HRB2 := hid (show Below W0.heap.size W0 y2 from (HRB1.out).trans (hb.mono (HRB1.out).size))
  clear hb
  refine ⟨_, rfl, HE.out _ HRB2.out, ?_⟩
  simp only [Act.put, List.getElem_toArray, List.getElem_cons_zero, List.getElem_cons_succ, List.setIfInBounds_toArray, List.set_cons_zero, List.set_cons_succ]
  refine until_value (i := 6) (by kernel_rfl) rfl rfl (.agg #[.string x.name, .string x.text]) (by kernel_rfl) (fun _ => HE.out _ HRB2.out) ?_
  simp only [Act.put, List.getElem_toArray, List.getElem_cons_zero, List.getElem_cons_succ, List.setIfInBounds_toArray, List.set_cons_zero, List.set_cons_succ]
  have HXe := hid (HX0.out.next HRB2.out)
  have HSR := hid (setRow_heap y2 (w.heap.size + 1) _ #[.string x.name, .string x.text] _ _ HXe.out.r)
  refine until_store_row (i := 7) (by kernel_rfl) rfl rfl 114 _ _ rfl (w.heap.size + 1) #[.string x.name, .string x.text] rfl rfl 114 _ (HXe.out.r) (by kernel_rfl) rfl (by simp [Value.oneCell']) (by kernel_rfl) ?_
  simp only [Act.put, List.getElem_toArray, List.getElem_cons_zero, List.getElem_cons_succ]
  refine until_done (by kernel_rfl) ?_ _
  go_wp2
  refine bodyPost_ret (v := .agg #[.string x.name, .string x.text]) ?_ rfl ⟨rfl, below_setRow HXe.out.lo (by omega) _⟩
  exact results_cell_row Tryz.results119 _ _ (w.heap.size + 1) 114 #[.string x.name, .string x.text] (0, 0) _ rfl HSR.out Tryz.underlying114 rfl (by kernel_rfl)
set_option maxHeartbeats 4000000 in
theorem replyCopied_any (x : Ry) (w : World) (h1 : x.text.size ≤ 1048576) :
    Calls Tryz.prog 117 #[.agg #[.int .i64 x.code, .string x.text]] w fun e w' => e = .returned (.agg #[.int .i64 x.code, .string x.text]) ∧ Below w.heap.size w w' := by
  have HX0 := hid (Q2.start w #[.int .i64 x.code, .string x.text] #[.int .i64 0, .string ⟨#[]⟩] 86)
  obtain ⟨W0, hW0⟩ : ∃ W, (w.alloc (.cells #[.int .i64 x.code, .string x.text] 86)).alloc (.cells #[.int .i64 0, .string ⟨#[]⟩] 86) = W := ⟨_, rfl⟩
  rw [hW0] at HX0
  have HE : Hid (∀ V, Below W0.heap.size W0 V → V.heap[w.heap.size]? = some (.cells #[.int .i64 x.code, .string x.text] 86 (0, 0))) := hid fun V h => (HX0.out.next h).e
  go_enter Tryz.func117, Tryz.ntmps117
  go_upto_region 1 with fail
  clear hW0
  have HRB0 := hid ((Below.refl W0.heap.size W0).drew)
  refine wp_region_until (fun V => V.heap[w.heap.size]? = some (.cells #[.int .i64 x.code, .string x.text] 86 (0, 0))) 6 (by kernel_rfl) ?_
  refine wpAnyU_take (i := 0) (v := .pointer (some ⟨w.heap.size, 0, none⟩)) rfl (by kernel_rfl) (by kernel_rfl) (by kernel_rfl) (fun _ _ _ h => h) (by kernel_rfl) (by kernel_rfl) (by kernel_rfl) (Or.inl ⟨by rfl, fun V _ => by kernel_rfl⟩) (HE.out _ HRB0.out) ?_
  simp only [Act.put, List.getElem_toArray, List.getElem_cons_zero, List.setIfInBounds_toArray, List.set_cons_zero, List.set_cons_succ]
  refine wpAnyU_take (i := 1) (v := .int .i64 x.code) rfl (by kernel_rfl) (by kernel_rfl) (by kernel_rfl) (fun _ _ _ h => h) (by kernel_rfl) (by kernel_rfl) (by kernel_rfl) (Or.inl ⟨by rfl, fun V hV => by have hc : V.cell? ⟨w.heap.size, 0, none⟩ = some (.int .i64 x.code) := row_cell hV 0; go_simp⟩) (HE.out _ HRB0.out) ?_
  simp only [Act.put, List.getElem_toArray, List.getElem_cons_zero, List.getElem_cons_succ, List.setIfInBounds_toArray, List.set_cons_zero, List.set_cons_succ]
  refine wpAnyU_take (i := 2) (v := .pointer (some ⟨w.heap.size, 1, none⟩)) rfl (by kernel_rfl) (by kernel_rfl) (by kernel_rfl) (fun _ _ _ h => h) (by kernel_rfl) (by kernel_rfl) (by kernel_rfl) (Or.inl ⟨by rfl, fun V _ => by kernel_rfl⟩) (HE.out _ HRB0.out) ?_
  simp only [Act.put, List.getElem_toArray, List.getElem_cons_zero, List.getElem_cons_succ, List.setIfInBounds_toArray, List.set_cons_zero, List.set_cons_succ]
  refine wpAnyU_take (i := 3) (v := .string x.text) rfl (by kernel_rfl) (by kernel_rfl) (by kernel_rfl) (fun _ _ _ h => h) (by kernel_rfl) (by kernel_rfl) (by kernel_rfl) (Or.inl ⟨by rfl, fun V hV => by have hc : V.cell? ⟨w.heap.size, 1, none⟩ = some (.string x.text) := row_cell hV 1; go_simp⟩) (HE.out _ HRB0.out) ?_
  simp only [Act.put, List.getElem_toArray, List.getElem_cons_zero, List.getElem_cons_succ, List.setIfInBounds_toArray, List.set_cons_zero, List.set_cons_succ]
  refine until_call (i := 4) (by kernel_rfl) rfl rfl (by kernel_rfl) (clone_any x.text _ h1) ?_
  rintro e y1 ⟨rfl, hb⟩
  have HRB1 := hid (show Below W0.heap.size W0 y1 from (HRB0.out).trans (hb.mono (HRB0.out).size))
  clear hb
  refine ⟨_, rfl, HE.out _ HRB1.out, ?_⟩
  simp only [Act.put, List.getElem_toArray, List.getElem_cons_zero, List.getElem_cons_succ, List.setIfInBounds_toArray, List.set_cons_zero, List.set_cons_succ]
  refine until_value (i := 5) (by kernel_rfl) rfl rfl (.agg #[.int .i64 x.code, .string x.text]) (by kernel_rfl) (fun _ => HE.out _ HRB1.out) ?_
  simp only [Act.put, List.getElem_toArray, List.getElem_cons_zero, List.getElem_cons_succ, List.setIfInBounds_toArray, List.set_cons_zero, List.set_cons_succ]
  have HXe := hid (HX0.out.next HRB1.out)
  have HSR := hid (setRow_heap y1 (w.heap.size + 1) _ #[.int .i64 x.code, .string x.text] _ _ HXe.out.r)
  refine until_store_row (i := 6) (by kernel_rfl) rfl rfl 86 _ _ rfl (w.heap.size + 1) #[.int .i64 x.code, .string x.text] rfl rfl 86 _ (HXe.out.r) (by kernel_rfl) rfl (by simp [Value.oneCell']) (by kernel_rfl) ?_
  simp only [Act.put, List.getElem_toArray, List.getElem_cons_zero, List.getElem_cons_succ]
  refine until_done (by kernel_rfl) ?_ _
  go_wp2
  refine bodyPost_ret (v := .agg #[.int .i64 x.code, .string x.text]) ?_ rfl ⟨rfl, below_setRow HXe.out.lo (by omega) _⟩
  exact results_cell_row Tryz.results117 _ _ (w.heap.size + 1) 86 #[.int .i64 x.code, .string x.text] (0, 0) _ rfl HSR.out Tryz.underlying86 rfl (by kernel_rfl)
set_option maxHeartbeats 4000000 in
theorem seenCopied_any (x : Sn) (w : World) (h0 : x.name.size ≤ 1048576) (h1 : x.reply.text.size ≤ 1048576) :
    Calls Tryz.prog 91 #[.agg #[.int .i64 x.kind, .string x.name, .int .i64 x.reply.code, .string x.reply.text]] w fun e w' => e = .returned (.agg #[.int .i64 x.kind, .string x.name, .int .i64 x.reply.code, .string x.reply.text]) ∧ Below w.heap.size w w' := by
  have HX0 := hid (Q2.start w #[.int .i64 x.kind, .string x.name, .int .i64 x.reply.code, .string x.reply.text] #[.int .i64 0, .string ⟨#[]⟩, .int .i64 0, .string ⟨#[]⟩] 88)
  obtain ⟨W0, hW0⟩ : ∃ W, (w.alloc (.cells #[.int .i64 x.kind, .string x.name, .int .i64 x.reply.code, .string x.reply.text] 88)).alloc (.cells #[.int .i64 0, .string ⟨#[]⟩, .int .i64 0, .string ⟨#[]⟩] 88) = W := ⟨_, rfl⟩
  rw [hW0] at HX0
  have HE : Hid (∀ V, Below W0.heap.size W0 V → V.heap[w.heap.size]? = some (.cells #[.int .i64 x.kind, .string x.name, .int .i64 x.reply.code, .string x.reply.text] 88 (0, 0))) := hid fun V h => (HX0.out.next h).e
  go_enter Tryz.func91, Tryz.ntmps91
  go_upto_region 1 with fail
  clear hW0
  have HRB0 := hid ((Below.refl W0.heap.size W0).drew)
  refine wp_region_until (fun V => V.heap[w.heap.size]? = some (.cells #[.int .i64 x.kind, .string x.name, .int .i64 x.reply.code, .string x.reply.text] 88 (0, 0))) 9 (by kernel_rfl) ?_
  refine wpAnyU_take (i := 0) (v := .pointer (some ⟨w.heap.size, 0, none⟩)) rfl (by kernel_rfl) (by kernel_rfl) (by kernel_rfl) (fun _ _ _ h => h) (by kernel_rfl) (by kernel_rfl) (by kernel_rfl) (Or.inl ⟨by rfl, fun V _ => by kernel_rfl⟩) (HE.out _ HRB0.out) ?_
  simp only [Act.put, List.getElem_toArray, List.getElem_cons_zero, List.setIfInBounds_toArray, List.set_cons_zero, List.set_cons_succ]
  refine wpAnyU_take (i := 1) (v := .int .i64 x.kind) rfl (by kernel_rfl) (by kernel_rfl) (by kernel_rfl) (fun _ _ _ h => h) (by kernel_rfl) (by kernel_rfl) (by kernel_rfl) (Or.inl ⟨by rfl, fun V hV => by have hc : V.cell? ⟨w.heap.size, 0, none⟩ = some (.int .i64 x.kind) := row_cell hV 0; go_simp⟩) (HE.out _ HRB0.out) ?_
  simp only [Act.put, List.getElem_toArray, List.getElem_cons_zero, List.getElem_cons_succ, List.setIfInBounds_toArray, List.set_cons_zero, List.set_cons_succ]
  refine wpAnyU_take (i := 2) (v := .pointer (some ⟨w.heap.size, 1, none⟩)) rfl (by kernel_rfl) (by kernel_rfl) (by kernel_rfl) (fun _ _ _ h => h) (by kernel_rfl) (by kernel_rfl) (by kernel_rfl) (Or.inl ⟨by rfl, fun V _ => by kernel_rfl⟩) (HE.out _ HRB0.out) ?_
  simp only [Act.put, List.getElem_toArray, List.getElem_cons_zero, List.getElem_cons_succ, List.setIfInBounds_toArray, List.set_cons_zero, List.set_cons_succ]
  refine wpAnyU_take (i := 3) (v := .string x.name) rfl (by kernel_rfl) (by kernel_rfl) (by kernel_rfl) (fun _ _ _ h => h) (by kernel_rfl) (by kernel_rfl) (by kernel_rfl) (Or.inl ⟨by rfl, fun V hV => by have hc : V.cell? ⟨w.heap.size, 1, none⟩ = some (.string x.name) := row_cell hV 1; go_simp⟩) (HE.out _ HRB0.out) ?_
  simp only [Act.put, List.getElem_toArray, List.getElem_cons_zero, List.getElem_cons_succ, List.setIfInBounds_toArray, List.set_cons_zero, List.set_cons_succ]
  refine wpAnyU_take (i := 5) (v := .pointer (some ⟨w.heap.size, 2, none⟩)) rfl (by kernel_rfl) (by kernel_rfl) (by kernel_rfl) (fun _ _ _ h => h) (by kernel_rfl) (by kernel_rfl) (by kernel_rfl) (Or.inl ⟨by rfl, fun V _ => by kernel_rfl⟩) (HE.out _ HRB0.out) ?_
  simp only [Act.put, List.getElem_toArray, List.getElem_cons_zero, List.getElem_cons_succ, List.setIfInBounds_toArray, List.set_cons_zero, List.set_cons_succ]
  refine wpAnyU_take (i := 6) (v := .agg #[.int .i64 x.reply.code, .string x.reply.text]) rfl (by kernel_rfl) (by kernel_rfl) (by kernel_rfl) (fun _ _ _ h => h) (by kernel_rfl) (by kernel_rfl) (by kernel_rfl) (yieldsIf_load_mid (by rfl) 86 _ rfl (w.heap.size) 2 rfl [.int .i64 x.reply.code, .string x.reply.text] _ (fun V hV => range_mid [.int .i64 x.kind, .string x.name] _ [] hV rfl) Tryz.underlying86 rfl (by kernel_rfl)) (HE.out _ HRB0.out) ?_
  simp only [Act.put, List.getElem_toArray, List.getElem_cons_zero, List.getElem_cons_succ, List.setIfInBounds_toArray, List.set_cons_zero, List.set_cons_succ]
  refine until_call (i := 4) (by kernel_rfl) rfl rfl (by kernel_rfl) (clone_any x.name _ h0) ?_
  rintro e y1 ⟨rfl, hb⟩
  have HRB1 := hid (show Below W0.heap.size W0 y1 from (HRB0.out).trans (hb.mono (HRB0.out).size))
  clear hb
  refine ⟨_, rfl, HE.out _ HRB1.out, ?_⟩
  simp only [Act.put, List.getElem_toArray, List.getElem_cons_zero, List.getElem_cons_succ, List.setIfInBounds_toArray, List.set_cons_zero, List.set_cons_succ]
  refine until_call (i := 7) (by kernel_rfl) rfl rfl (by kernel_rfl) (replyCopied_any x.reply _ h1) ?_
  rintro e y2 ⟨rfl, hb⟩
  have HRB2 := hid (show Below W0.heap.size W0 y2 from (HRB1.out).trans (hb.mono (HRB1.out).size))
  clear hb
  refine ⟨_, rfl, HE.out _ HRB2.out, ?_⟩
  simp only [Act.put, List.getElem_toArray, List.getElem_cons_zero, List.getElem_cons_succ, List.setIfInBounds_toArray, List.set_cons_zero, List.set_cons_succ]
  refine until_value (i := 8) (by kernel_rfl) rfl rfl (.agg #[.int .i64 x.kind, .string x.name, .int .i64 x.reply.code, .string x.reply.text]) (by kernel_rfl) (fun _ => HE.out _ HRB2.out) ?_
  simp only [Act.put, List.getElem_toArray, List.getElem_cons_zero, List.getElem_cons_succ, List.setIfInBounds_toArray, List.set_cons_zero, List.set_cons_succ]
  have HXe := hid (HX0.out.next HRB2.out)
  have HSR := hid (setRow_heap y2 (w.heap.size + 1) _ #[.int .i64 x.kind, .string x.name, .int .i64 x.reply.code, .string x.reply.text] _ _ HXe.out.r)
  refine until_store_row (i := 9) (by kernel_rfl) rfl rfl 88 _ _ rfl (w.heap.size + 1) #[.int .i64 x.kind, .string x.name, .int .i64 x.reply.code, .string x.reply.text] rfl rfl 88 _ (HXe.out.r) (by kernel_rfl) rfl (by simp [Value.oneCell']) (by kernel_rfl) ?_
  simp only [Act.put, List.getElem_toArray, List.getElem_cons_zero, List.getElem_cons_succ]
  refine until_done (by kernel_rfl) ?_ _
  go_wp2
  refine bodyPost_ret (v := .agg #[.int .i64 x.kind, .string x.name, .int .i64 x.reply.code, .string x.reply.text]) ?_ rfl ⟨rfl, below_setRow HXe.out.lo (by omega) _⟩
  exact results_cell_row Tryz.results91 _ _ (w.heap.size + 1) 88 #[.int .i64 x.kind, .string x.name, .int .i64 x.reply.code, .string x.reply.text] (0, 0) _ rfl HSR.out Tryz.underlying88 rfl (by kernel_rfl)
end Go.Proofs.YtlopcjhipajdcaaGreatDoor.Y
