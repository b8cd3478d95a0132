import Derived.Laws.IdiomStrings
import Derived.Lib.BufferRead
import Derived.Lib.UnsafeStr
import Derived.Test.YtfndbnbnimhnaaaGreatDoorJ42
import Derived.Test.YtfndbnbnimhnaaaGreatDoorJ45
import Derived.Test.YtfndbnbnimhnaaaGreatDoorJ39
import Derived.Test.YtfndbnbnimhnaaaGreatDoorJ20
import Derived.Test.YtfndbnbnimhnaaaGreatDoorJ40
/-! A function of a form, by the program's writer. -/
namespace Go.Proofs.YtfndbnbnimhnaaaGreatDoor.C
open Go.RowKit
set_option maxRecDepth 20000
theorem WrAt.ne_of {B b : Nat} {l : List UInt8} {W : World} (hw : WrAt B b l W) {g : Nat} {cs : Array Value} {t : TypeId} {fr : Nat × Nat} (e : W.heap[g]? = some (.cells cs t fr)) (ht : t ≠ 50) : g ≠ b := by
  rintro rfl
  obtain ⟨p, v, _, h⟩ := hw
  rw [h.blk] at e
  injection e with e
  injection e with _ e
  exact ht e.symm
theorem IntRow.wk {B b : Nat} {l : List UInt8} {W V : World} {v : Value} {x : List Int} (h : IntRow W v x) (hw : WrAt B b l W) (hk : Wk B b W V) : IntRow V v x := h.keep fun g _ e => hk.block g (lt_hp e) (hw.ne_of e (by decide)) (.inr (notB_of e (by decide)))
theorem InsRow.wk {B b : Nat} {l : List UInt8} {W V : World} {v : Value} {x : List In} (h : InsRow W v x) (hw : WrAt B b l W) (hk : Wk B b W V) : InsRow V v x := h.keep fun g _ e => hk.block g (lt_hp e) (hw.ne_of e (by decide)) (.inr (notB_of e (by decide)))
def fboxW (f : Fn) (aP : Option Addr) (cP : Nat) (aI : Option Addr) (cI : Nat) : Obj := .cells #[.string f.name, .slice aP f.params.length cP, .int .i64 f.result, .int .i64 f.slots, .slice aI f.ins.length cI] 57
/-- A function while it is written: the writer, its box, its rows. -/
structure FN (B b xb : Nat) (f : Fn) (aP : Option Addr) (cP : Nat) (aI : Option Addr) (cI : Nat) (l : List UInt8) (W V : World) : Prop where
  ii : II B b xb (fboxW f aP cP aI cI) l W V
  p : IntRow V (.slice aP f.params.length cP) f.params
  i : InsRow V (.slice aI f.ins.length cI) f.ins
theorem FN.step {B b xb : Nat} {f : Fn} {aP aI : Option Addr} {cP cI : Nat} {l l' : List UInt8} {W V U : World} (h : FN B b xb f aP cP aI cI l W V) (hw : WrAt B b l' U) (hk : Wk B b V U) : FN B b xb f aP cP aI cI l' W U :=
  ⟨h.ii.step hw hk, h.p.wk h.ii.wr hk, h.i.wk h.ii.wr hk⟩
theorem FN.next {B b xb : Nat} {f : Fn} {aP aI : Option Addr} {cP cI : Nat} {l : List UInt8} {W V U : World} (h : FN B b xb f aP cP aI cI l W V) (hb : Below V.heap.size V U) : FN B b xb f aP cP aI cI l W U := h.step (h.ii.wr.next hb) (Wk.of_below hb)
theorem FN.cells {B b xb : Nat} {f : Fn} {aP aI : Option Addr} {cP cI : Nat} {l : List UInt8} {W V : World} (h : FN B b xb f aP cP aI cI l W V) :
    V.cell? ⟨xb, 0, none⟩ = some (.string f.name) ∧ V.cell? ⟨xb, 1, none⟩ = some (.slice aP f.params.length cP) ∧ V.cell? ⟨xb, 2, none⟩ = some (.int .i64 f.result) ∧ V.cell? ⟨xb, 3, none⟩ = some (.int .i64 f.slots) ∧ V.cell? ⟨xb, 4, none⟩ = some (.slice aI f.ins.length cI) := by
  have e := h.ii.bx
  refine ⟨?_, ?_, ?_, ?_, ?_⟩ <;> simp [World.cell?, e, fboxW]
theorem fnF_part (l : List UInt8) (f : Fn) (j : Nat) : (l ++ hdF f ++ inssF (f.ins.take j)).length ≤ (l ++ fnF f).length := by
  have e : inssF f.ins = inssF (f.ins.take j) ++ inssF (f.ins.drop j) := by
    unfold inssF
    rw [← List.flatMap_append, List.take_append_drop]
  unfold fnF
  rw [e]
  simp only [List.length_append]
  omega
theorem parW {f : Fn} (h : R.wFn f ≤ 1048576) : f.name.size ≤ 1048576 ∧ f.params.length ≤ 1048576 ∧ f.ins.length ≤ 1048576 := by
  have h2 := R.wSIn_ge f.ins f.ins.length
  simp only [R.wFn] at h
  omega
set_option maxHeartbeats 16000000 in
theorem fnW_any (B b : Nat) (l : List UInt8) (f : Fn) (v : Value) (w : World) (h : WrAt B b l w) (hT : TabU B w) (hv : FnV w v f) (hop : ∀ i, i < f.ins.length → 1 ≤ (f.ins.getD i in0).op ∧ (f.ins.getD i in0).op ≤ 16) (hl : l.length ≤ 500000000) (hW : R.wFn f ≤ 1048576) :
    Calls Tryz.prog 21 #[.pointer (some ⟨b, 0, none⟩), v] w fun e w' => e = .returned (.tuple #[]) ∧ (∃ l', Wrote l (fnF f) l' ∧ WrAt B b l' w') ∧ Wk B b w w' := by
  obtain ⟨pv, iv, rfl, hp, hi⟩ := hv
  obtain ⟨aP, cP, rfl⟩ := hp.sl
  obtain ⟨aI, cI, rfl⟩ := hi.sl
  have HLO : Hid (Below w.heap.size w (w.alloc (fboxW f aP cP aI cI))) := hid ((Below.refl _ _).alloc (Nat.le_refl _) _)
  have HN : (w.alloc (fboxW f aP cP aI cI)).heap[w.heap.size]? = some (fboxW f aP cP aI cI) := heap_alloc_new _ _
  have HF1 : Hid (FN B b w.heap.size f aP cP aI cI l w (w.alloc (fboxW f aP cP aI cI))) := hid ⟨⟨h.next HLO.out, HN, by have := h.lt; omega, NotB.of HN (by decide), Wk.of_below HLO.out, hT.wk h (Wk.of_below HLO.out)⟩, hp.next HLO.out, hi.next HLO.out⟩
  obtain ⟨hnm, hpn, hin⟩ := parW hW
  have HTX : Hid (∀ i, i < f.ins.length → (f.ins.getD i in0).text.size ≤ 1048576) := hid (wSIn_text (by have h := hW; simp only [R.wFn] at h; omega))
  have HOP := hid hop
  have HFL : Hid ((l ++ fnF f).length ≤ 600000000) := hid (by have := fnF_len hW; rw [List.length_append]; omega)
  clear hp hi HN HLO h hT hW hop
  go_enter Tryz.func21, Tryz.ntmps21
  go_upto_region 1 with fail
  obtain ⟨W1, hW1⟩ : ∃ W, w.alloc (fboxW f aP cP aI cI) = W := ⟨_, rfl⟩
  obtain ⟨xb, hxb⟩ : ∃ x, w.heap.size = x := ⟨_, rfl⟩
  rw [hW1, hxb] at HF1
  rw [hxb]
  unfold fboxW at hW1
  rw [hW1]
  clear hW1 hxb
  obtain ⟨j0, j1, j2, j3, j4⟩ := HF1.out.cells
  go_wp2_with fail
  refine (textW_any B b l f.name _ HF1.out.ii.wr (by omega) hnm).mono ?_
  rintro e w2 ⟨rfl, hw2, hk2⟩
  have HF2 := hid (HF1.out.step hw2 hk2)
  clear hw2 hk2 j0 j1 j2 j3 j4 HF1
  have HL2 : Hid ((l ++ tb f.name).length ≤ 502000000) := hid (by have := tb_len hnm; rw [List.length_append]; omega)
  obtain ⟨j0, j1, j2, j3, j4⟩ := HF2.out.cells
  go_wp2_with fail
  refine (size_nat B b _ f.params.length _ (by omega) HF2.out.ii.wr (by have := HL2.out; omega)).mono ?_
  rintro e w3 ⟨rfl, hw3, hk3⟩
  have HF3 := hid (HF2.out.step hw3 hk3)
  clear hw3 hk3 j0 j1 j2 j3 j4 HF2
  have HL3 : Hid ((l ++ tb f.name ++ nb f.params.length).length ≤ 502000010) := hid (push_len HL2.out (nb_10 (by omega)))
  obtain ⟨Q1, hQ1⟩ : ∃ Q, l ++ tb f.name ++ nb f.params.length = Q := ⟨_, rfl⟩
  have HQ1 := hid hQ1
  rw [hQ1] at HF3 HL3
  clear hQ1 HL2
  have HF4 : Hid (FN B b xb f aP cP aI cI (Q1 ++ parF (f.params.take 0)) w w3) := hid (by
    have e : Q1 ++ parF (f.params.take 0) = Q1 := by simp [parF]
    rw [e]
    exact HF3.out)
  clear HF3
  obtain ⟨j0, j1, j2, j3, j4⟩ := HF4.out.cells
  go_wp2
  clear j0 j1 j2 j3 j4
  go_loopw [5, 20] (fun _ i wr => ∃ j : Nat, j ≤ f.params.length ∧ i = .int .i64 j ∧ FN B b xb f aP cP aI cI (Q1 ++ parF (f.params.take j)) w wr) (fun _ i _ => f.params.length - (intOf i).toNat)
  case atStart => exact ⟨0, Nat.zero_le _, rfl, HF4.out⟩
  case round =>
    obtain ⟨j, hj, rfl, hf5⟩ := hrel
    have HF5 := hid hf5
    clear hf5 HF4
    by_cases hlt : j < f.params.length
    · obtain ⟨gP, cP2, e9, _, _, _, hcell⟩ := HF5.out.p.at hlt
      injection e9 with ea _ ec
      subst ea ec
      have hcj := hcell j hlt
      have HNP := hid (parF_next hlt)
      have HNL := hid (parF_take f.params j)
      obtain ⟨x, hx⟩ : ∃ x, f.params.getD j 0 = x := ⟨_, rfl⟩
      rw [hx] at hcj HNP
      clear hx hcell
      have hlti : (j : Int) < (f.params.length : Int) := by omega
      have HL5 : Hid ((Q1 ++ parF (f.params.take j)).length ≤ 600000000) := hid (by
        have h1 := HNL.out
        have h2 := HL3.out
        rw [List.length_append]
        omega)
      go_wp2_with fail
      refine (size_any B b _ x _ HF5.out.ii.wr (by have := HL5.out; omega)).mono ?_
      rintro e w6 ⟨rfl, hw6, hk6⟩
      rw [List.append_assoc, ← HNP.out] at hw6
      have HF6 := hid (HF5.out.step hw6 hk6)
      clear hw6 hk6 HF5 HNP hcj
      go_wp2
      go_roundw
      case rel => exact ⟨j + 1, by omega, by go_num, HF6.out⟩
      case measure => simp [intOf]; omega
    · obtain rfl : j = f.params.length := by omega
      have hlti : ¬ (f.params.length : Int) < (f.params.length : Int) := by omega
      rw [List.take_length] at HF5
      have HL6 : Hid ((Q1 ++ parF f.params).length ≤ 520000000) := hid (by
        have h1 := parF_len f.params
        have h2 := HL3.out
        rw [List.length_append]
        omega)
      obtain ⟨j0, j1, j2, j3, j4⟩ := HF5.out.cells
      go_wp2_with fail
      refine (size_any B b _ f.result _ HF5.out.ii.wr (by have := HL6.out; omega)).mono ?_
      rintro e w7 ⟨rfl, hw7, hk7⟩
      have HF7 := hid (HF5.out.step hw7 hk7)
      have HL7 := hid (push_len HL6.out (nb_10 (u64_lt f.result)))
      clear hw7 hk7 j0 j1 j2 j3 j4 HF5
      obtain ⟨j0, j1, j2, j3, j4⟩ := HF7.out.cells
      go_wp2_with fail
      refine (size_any B b _ f.slots _ HF7.out.ii.wr (by have := HL7.out; omega)).mono ?_
      rintro e w8 ⟨rfl, hw8, hk8⟩
      have HF8 := hid (HF7.out.step hw8 hk8)
      have HL8 := hid (push_len HL7.out (nb_10 (u64_lt f.slots)))
      clear hw8 hk8 j0 j1 j2 j3 j4 HF7
      obtain ⟨j0, j1, j2, j3, j4⟩ := HF8.out.cells
      go_wp2_with fail
      refine (size_nat B b _ f.ins.length _ (by omega) HF8.out.ii.wr (by have := HL8.out; omega)).mono ?_
      rintro e w9 ⟨rfl, hw9, hk9⟩
      have HF9 := hid (HF8.out.step hw9 hk9)
      clear hw9 hk9 j0 j1 j2 j3 j4 HF8
      have HF10 : Hid (FN B b xb f aP cP aI cI (l ++ hdF f ++ inssF (f.ins.take 0)) w w9) := hid (by
        have h := HF9.out
        rw [← HQ1.out, hdF_eq] at h
        have e : l ++ hdF f ++ inssF (f.ins.take 0) = l ++ hdF f := by simp [inssF]
        rw [e]
        exact h)
      clear HF9 HL8 HL7 HL6 HQ1 HL3
      obtain ⟨j0, j1, j2, j3, j4⟩ := HF10.out.cells
      go_wp2
      clear j0 j1 j2 j3 j4
      go_loopw [7, 44] (fun _ i wr2 => ∃ j : Nat, j ≤ f.ins.length ∧ i = .int .i64 j ∧ FN B b xb f aP cP aI cI (l ++ hdF f ++ inssF (f.ins.take j)) w wr2) (fun _ i _ => f.ins.length - (intOf i).toNat)
      case atStart => exact ⟨0, Nat.zero_le _, rfl, HF10.out⟩
      case round =>
        obtain ⟨j, hj2, rfl, hf11⟩ := hrel
        have HF11 := hid hf11
        clear hf11 HF10
        have HPL := hid (fnF_part l f j)
        by_cases hlt2 : j < f.ins.length
        · have hlt2i : (j : Int) < (f.ins.length : Int) := by omega
          obtain ⟨gI, cI2, e9, hgI, hcell⟩ := HF11.out.i.at hlt2
          injection e9 with ea _ ec
          subst ea ec
          obtain ⟨z0, z1, z2, z3⟩ := hcell j hlt2
          have HIN := hid (inssF_next hlt2)
          have htx := HTX.out j hlt2
          have HO := hid (HOP.out j hlt2)
          obtain ⟨⟨op, a, n, tx⟩, hx⟩ : ∃ x, f.ins.getD j in0 = x := ⟨_, rfl⟩
          rw [hx] at z0 z1 z2 z3 HIN htx HO
          clear hx hcell
          dsimp only at z0 z1 z2 z3 htx
          go_upto_region 14 with fail
          have HBX := hid ((Below.refl wr.heap.size wr).alloc (Nat.le_refl _) (.cells #[.int .i64 op, .int .i64 a, .int .i64 n, .string tx] 84))
          have HXX : Hid ((wr.alloc (.cells #[.int .i64 op, .int .i64 a, .int .i64 n, .string tx] 84)).heap[wr.heap.size]? = some (ibox ⟨op, a, n, tx⟩)) := hid (heap_alloc_new _ _)
          have HF12 := hid (HF11.out.next HBX.out)
          obtain ⟨yb, hyb⟩ : ∃ b, wr.heap.size = b := ⟨_, rfl⟩
          obtain ⟨W12, hW12⟩ : ∃ W, wr.alloc (.cells #[.int .i64 op, .int .i64 a, .int .i64 n, .string tx] 84) = W := ⟨_, rfl⟩
          rw [hW12] at HF12 HXX ⊢
          rw [hyb] at HXX ⊢
          clear hW12 hyb z0 z1 z2 z3 HBX HF11
          go_wp2_with fail
          refine (isFull_any B b _ _ HF12.out.ii.wr).mono ?_
          rintro e w13 ⟨rfl, hw⟩
          have hw9 := hw.symm
          clear hw
          subst hw9
          by_cases hfull : 200000 < (l ++ hdF f ++ inssF (f.ins.take j)).length
          · have hdec : decide (200000 < (l ++ hdF f ++ inssF (f.ins.take j)).length) = true := decide_eq_true hfull
            have HWr : Hid (Wrote l (fnF f) (l ++ hdF f ++ inssF (f.ins.take j))) := hid ⟨HPL.out, .inr ⟨hfull, Nat.lt_of_lt_of_le hfull HPL.out⟩⟩
            rw [hdec]
            clear hdec hfull
            go_wp2
            (try simp only [Exit.inBlock, Exit.then])
            refine bodyPost_ret (results_none rfl _ _ _) rfl ?_
            exact ⟨rfl, ⟨_, HWr.out, HF12.out.ii.wr⟩, HF12.out.ii.wk⟩
          · have hdec : decide (200000 < (l ++ hdF f ++ inssF (f.ins.take j)).length) = false := decide_eq_false hfull
            rw [hdec]
            clear hdec
            obtain ⟨y0, y1, y2, y3⟩ := ix HXX.out
            dsimp only at y0 y1 y2 y3
            go_wp2_with fail
            refine (ins_any B b _ ⟨op, a, n, tx⟩ _ HF12.out.ii.wr HF12.out.ii.tab HO.out (by omega) htx).mono ?_
            rintro e w14 ⟨rfl, hw14, hk14⟩
            rw [List.append_assoc, ← HIN.out] at hw14
            have HF14 := hid (HF12.out.step hw14 hk14)
            clear hw14 hk14 HF12 HXX HIN y0 y1 y2 y3 hfull HPL
            go_wp2
            go_roundw
            case rel => exact ⟨j + 1, by omega, by go_num, HF14.out⟩
            case measure => simp [intOf]; omega
        · obtain rfl : j = f.ins.length := by omega
          have hlt2i : ¬ (f.ins.length : Int) < (f.ins.length : Int) := by omega
          rw [List.take_length] at HF11
          have e : l ++ hdF f ++ inssF f.ins = l ++ fnF f := by unfold fnF; rw [List.append_assoc]
          rw [e] at HF11
          clear e
          go_wp2
          go_end0
          exact ⟨rfl, ⟨_, Wrote.all l (fnF f), HF11.out.ii.wr⟩, HF11.out.ii.wk⟩
end Go.Proofs.YtfndbnbnimhnaaaGreatDoor.C
/-! Codes that were copied, as the walks know them. -/
namespace Go.Proofs.YtfndbnbnimhnaaaGreatDoor.C
open Go.RowKit
set_option maxRecDepth 20000
theorem len_max {n : Nat} (h : n ≤ 1048576) : n ≤ maxLen := by unfold maxLen; omega
theorem intRow_of {B : Nat} {W : World} {v : Value} {l : List Int} (h : R.SIntR B W v l) (hl : l.length ≤ 1048576) : IntRow W v l := by
  obtain ⟨g, e, _, cur, h1, _, h3⟩ := h
  exact ⟨_, _, e, Nat.le_refl _, len_max hl, .inr ⟨g, cur, rfl, h1, h3⟩⟩
theorem insRow_of {B : Nat} {W : World} {v : Value} {l : List In} (h : R.SInR B W v l) (hl : R.LoInS l) : InsRow W v l := by
  obtain ⟨g, e, _, cur, h1, _, h3⟩ := h
  exact ⟨_, _, e, Nat.le_refl _, len_max hl.1, .inr ⟨g, cur, rfl, h1, h3⟩⟩
theorem fnsRow_of {B : Nat} {W : World} {v : Value} {l : List Fn} (h : R.SFnR B W v l) (hl : R.LoFnS l) : FnsRow W v l := by
  obtain ⟨g, e, _, cur, h1, _, h3⟩ := h
  refine ⟨_, _, e, Nat.le_refl _, len_max hl.1, .inr ⟨g, rfl, R.lt_hp h1, fun i hi => ?_⟩⟩
  obtain ⟨v0, v1, d0, d1, d2, d3, d4, r0, r1⟩ := h3 i hi
  have h2 := hl.2 i hi
  exact ⟨v0, v1, (R.row_cell h1 _).trans d0, (R.row_cell h1 _).trans d1, (R.row_cell h1 _).trans d2, (R.row_cell h1 _).trans d3, (R.row_cell h1 _).trans d4, intRow_of r0 h2.1, insRow_of r1 h2.2⟩
theorem codeS_of {l : List Fn} (h : R.OkFnS l) : CodeS l :=
  ⟨fun j hj => (h.2 j hj).1, fun j hj p hp => by
    obtain ⟨_, _, _, _, h5⟩ := h.2 j hj
    exact (h5.2 p hp).2.2.1⟩
end Go.Proofs.YtfndbnbnimhnaaaGreatDoor.C
/-! A code written, by the model. -/
namespace Go.Proofs.YtfndbnbnimhnaaaGreatDoor.C
open Go.RowKit
set_option maxRecDepth 20000
/-- 'string(b)' of a row that the call owns. -/
theorem conv_rowF (w : World) (base : Nat) (v : Value) (l : List UInt8) (h : OwnB base w v l) :
    (convert 39 9 v).run Tryz.prog w = .ok (.string ⟨l.toArray⟩) w := by
  obtain ⟨_, ⟨rfl, h0⟩ | ⟨g, cap, cur, rfl, _, hg, _, _, _, htk⟩⟩ := h
  · have e : l = [] := List.eq_nil_of_length_eq_zero h0
    subst e
    exact Lib.run_convert_nil_bytes w _ _ 5 0 Tryz.underlying39 Tryz.underlying5 Tryz.underlying9
  · exact run_convert_bytes_back w _ _ 5 _ cap l Tryz.underlying39 Tryz.underlying5 Tryz.underlying9 (Lib.bytes_of_row hg (by rw [Nat.mul_one] at htk; exact htk))
/-- What is answered: the form of a code in which nothing is wrong, if it is not too long. -/
def WcAns (fns : List Fn) (s : ByteArray) : Prop := ∃ c k i : Nat, Chk fns c k i ∧ s = if c = 0 ∧ (formF fns).length ≤ 200000 then ⟨(formF fns).toArray⟩ else ⟨#[]⟩
theorem WcAns.uniq {fns : List Fn} {s t : ByteArray} (h : WcAns fns s) (h' : WcAns fns t) : s = t := by
  obtain ⟨c, k, i, hc, rfl⟩ := h
  obtain ⟨c', k', i', hc', rfl⟩ := h'
  rw [(hc.uniq hc').1]
def WcEnd (fns : List Fn) (w : World) (e : Ending) (w' : World) : Prop := ∃ s, e = .returned (.string s) ∧ WcAns fns s ∧ Below w.heap.size w w'
set_option maxHeartbeats 2000000 in
theorem l16Ok_any {fns : List Fn} {w : World} {cv : Value} (h1 : FnsRow w cv fns) (hC : CodeS fns) :
    Calls Tryz.prog 15 #[.agg #[cv]] w fun e w' => ∃ c k i : Nat, e = .returned (.bool (decide (c = 0))) ∧ Chk fns c k i ∧ Below w.heap.size w w' := by
  have HX0 := hid (PX.start w cv)
  have HCO := hid (check_any (h1.next HX0.out.lo) hC)
  obtain ⟨aF, cF, hcv⟩ := h1.sl
  subst hcv
  clear h1 hC
  go_enter Tryz.func15, Tryz.ntmps15
  go_upto_region 1 with fail
  obtain ⟨W1, hW1⟩ : ∃ W, w.alloc (.cells #[.slice aF fns.length cF] 29) = W := ⟨_, rfl⟩
  rw [hW1] at HX0 HCO ⊢
  clear hW1
  have k0 := cx HX0.out.e0
  go_wp2_with fail
  refine HCO.out.mono ?_
  rintro e w2 ⟨c, k, i, rfl, hck, hb2⟩
  have HX := hid (HX0.out.next hb2)
  have HCK := hid hck
  clear hb2 hck k0 HX0 HCO
  by_cases hc : c = 0
  · subst hc
    go_wp2
    go_ret
    exact ⟨0, k, i, rfl, HCK.out, HX.out.lo⟩
  · have hcb : ((c : Int) == 0) = false := by simpa using hc
    have HD : Hid (decide (c = 0) = false) := hid (decide_eq_false hc)
    clear hc
    go_wp2
    go_ret
    exact ⟨c, k, i, by rw [HD.out]; rfl, HCK.out, HX.out.lo⟩
set_option maxHeartbeats 2000000 in
theorem specWrite_any {fns : List Fn} {w : World} {cv : Value} (h1 : FnsRow w cv fns) (hC : CodeS fns) (hW : R.wSFn fns fns.length ≤ 1048576) :
    Calls Tryz.prog 6 #[.agg #[cv]] w (WcEnd fns w) := by
  have HX0 := hid (PX.start w cv)
  have H1 := hid (h1.next HX0.out.lo)
  have HCO := hid (l16Ok_any H1.out hC)
  have HWF := hid hW
  obtain ⟨aF, cF, hcv⟩ := h1.sl
  subst hcv
  clear h1 hC hW
  go_enter Tryz.func6, Tryz.ntmps6
  go_upto_region 1 with fail
  obtain ⟨W1, hW1⟩ : ∃ W, w.alloc (.cells #[.slice aF fns.length cF] 29) = W := ⟨_, rfl⟩
  rw [hW1] at HX0 H1 HCO ⊢
  clear hW1
  have k0 := cx HX0.out.e0
  go_wp2_with fail
  refine HCO.out.mono ?_
  rintro e w2 ⟨c, k, i, rfl, hck, hb2⟩
  have HX := hid (HX0.out.next hb2)
  have H2 := hid (H1.out.next hb2)
  have HCK := hid hck
  clear hb2 hck k0 HX0 HCO H1
  by_cases hc : c = 0
  · subst hc
    have hd : decide ((0 : Nat) = 0) = true := rfl
    rw [hd]
    clear hd
    have k0 := cx HX.out.e0
    go_wp2_with fail
    refine (form_any H2.out HWF.out).mono ?_
    rintro e w3 ⟨v, rfl, ho, hb3⟩
    obtain ⟨F, hF⟩ : ∃ F, formF fns = F := ⟨_, rfl⟩
    have HFF := hid hF
    rw [hF] at ho
    clear hF
    have HX3 := hid (HX.out.next hb3)
    have HO := hid ho
    have HCV := hid (conv_rowF w3 _ _ _ ho)
    obtain ⟨ad, cp, rfl⟩ := own_formB ho
    clear hb3 ho k0 HX H2
    by_cases hl : 200000 < F.length
    · have hli : (200000 : Int) < (F.length : Int) := by omega
      have HA : Hid (WcAns fns ⟨#[]⟩) := hid ⟨0, k, i, HCK.out, by rw [HFF.out, if_neg (by omega)]⟩
      clear hl
      go_wp2
      go_ret
      exact ⟨_, rfl, HA.out, HX3.out.lo⟩
    · have hli : ¬ (200000 : Int) < (F.length : Int) := by omega
      have HA : Hid (WcAns fns ⟨F.toArray⟩) := hid ⟨0, k, i, HCK.out, by rw [HFF.out, if_pos (by omega)]⟩
      clear hl
      have hcv := HCV.out
      go_wp2
      go_ret
      exact ⟨_, rfl, HA.out, HX3.out.lo⟩
  · have HA : Hid (WcAns fns ⟨#[]⟩) := hid ⟨c, k, i, HCK.out, by rw [if_neg (by omega)]⟩
    rw [decide_eq_false hc]
    clear hc
    go_wp2
    go_ret
    exact ⟨_, rfl, HA.out, HX.out.lo⟩
end Go.Proofs.YtfndbnbnimhnaaaGreatDoor.C
