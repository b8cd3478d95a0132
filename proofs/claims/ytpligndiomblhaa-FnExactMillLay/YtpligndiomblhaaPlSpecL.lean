import Derived.Test.YtpligndiomblhaaPlPut
import Derived.Test.YtpligndiomblhaaPlIdxF
/-! Files laid by the model. Printed by gen_plspecl.py. -/
namespace Go.Proofs.Ytpligndiomblhaa.P
open Go.RowKit
open Go.Proofs.Ytpligndiomblhaa.J (Says says_t says_f FileOk Says.pos Says.neg l15Path_any)
open Go.Proofs.Ytpligndiomblhaa.R (hid small set_other Fl fl0 lt_hp hp_next B1 B2 row_cell row_room SFlR OkFlS below_drewN below_set info_parts info_Fl)
set_option maxRecDepth 20000
/-- Files that may be laid. -/
def LayP (l fs : List Fl) : Prop := PlOk l ∧ fs.length ≤ 40 ∧ AllF fs
def LayIs (l fs R : List Fl) (c : Int) : Prop := (¬ LayP l fs ∧ c = 1 ∧ R = []) ∨ (LayP l fs ∧ 40 < (putAll l fs).length ∧ c = 2 ∧ R = []) ∨ (LayP l fs ∧ (putAll l fs).length ≤ 40 ∧ c = 0 ∧ R = putAll l fs)
theorem LayIs.uniq {l fs R R' : List Fl} {c c' : Int} (h : LayIs l fs R c) (h' : LayIs l fs R' c') : R = R' ∧ c = c' := by
  rcases h with ⟨h1, h2, h3⟩ | ⟨h1, h0, h2, h3⟩ | ⟨h1, h0, h2, h3⟩ <;> rcases h' with ⟨k1, k2, k3⟩ | ⟨k1, k0, k2, k3⟩ | ⟨k1, k0, k2, k3⟩
  all_goals first | exact ⟨h3.trans k3.symm, h2.trans k2.symm⟩ | exact absurd h1 k1 | exact absurd k1 h1 | omega
def LayRes (l fs : List Fl) (w : World) (e : Ending) (w' : World) : Prop := ∃ v R c, e = .returned (.tuple #[.agg #[v], .int .i64 c]) ∧ LayIs l fs R c ∧ OwnF w.heap.size w' v R ∧ Below w.heap.size w w'
theorem own_mono {W : World} {B B' n : Nat} {v : Value} {xs : List Value} (h : W.ownsRow B' 55 2 v n xs) (hb : B ≤ B') : W.ownsRow B 55 2 v n xs := by
  obtain ⟨hl, h | ⟨g, cap, cur, e, hB, h⟩⟩ := h
  · exact ⟨hl, .inl h⟩
  · exact ⟨hl, .inr ⟨g, cap, cur, e, Nat.le_trans hb hB, h⟩⟩
theorem own_none (W : World) {B : Nat} (hb : B ≤ W.heap.size) : (W.alloc (.cells #[] 55)).ownsRow B 55 2 (.slice (some ⟨W.heap.size, 0, none⟩) 0 0) 0 [] := ⟨rfl, .inr ⟨W.heap.size, 0, #[], rfl, hb, heap_alloc_new _ _, Nat.le_refl _, Nat.zero_le _, rfl, rfl⟩⟩
theorem own_set2 {W : World} {B n : Nat} {v : Value} {xs : List Value} (h : W.ownsRow B 55 2 v n xs) {b : Nat} {cs : Array Value} (hb : W.heap[b]? = some (.cells cs 29)) {i : Nat} {u : Value} : (W.setCell ⟨b, i, none⟩ u).ownsRow B 55 2 v n xs := by
  obtain ⟨hl, h | ⟨g, cap, cur, e, hB, hc, h⟩⟩ := h
  · exact ⟨hl, .inl h⟩
  · refine ⟨hl, .inr ⟨g, cap, cur, e, hB, (set_other _ _ _ _ _ fun e => ?_).trans hc, h⟩⟩
    rw [e, hb] at hc
    cases hc
theorem ret_cell {w W : World} {o : Obj} (h : B2 w o (.cells #[.slice none 0 0] 29) W) (X : Value) : (W.setCell ⟨w.heap.size + 1, 0, none⟩ X).cell? ⟨w.heap.size + 1, 0, none⟩ = some X := (row_cell (R.set_at (i := 0) X h.f) 0).trans rfl
theorem own_nil (W : World) (B : Nat) : OwnF B W (.slice none 0 0) [] := ⟨rfl, .inl ⟨rfl, rfl⟩⟩
theorem oneCF : ∀ l : List Fl, ∀ u ∈ cellsF l, u.oneCell' = true
  | [], u, h => by cases h
  | x :: l, u, h => by
    simp only [cellsF, List.mem_cons] at h
    rcases h with rfl | rfl | h
    · rfl
    · rfl
    · exact oneCF l u h
theorem sfl_cells {B : Nat} {W : World} {g n c : Nat} {l : List Fl} (h : SFlR B W (.slice (some ⟨g, 0, none⟩) n c) l) : ∀ j u, (cellsF l)[j]? = some u → W.cell? ((⟨g, 0, none⟩ : Addr).add j) = some u := fun j u hj => by
  have hlt : j < l.length * 2 := by rw [← cellsF_len]; exact (List.getElem?_eq_some_iff.1 hj).1
  obtain ⟨i, hi, e⟩ : ∃ i, i < l.length ∧ (j = i * 2 ∨ j = i * 2 + 1) := ⟨j / 2, by omega, by omega⟩
  obtain ⟨_, a0, a1⟩ := fl_at h hi
  obtain ⟨b0, b1⟩ := cellsF_get l i hi
  rw [R.add_at]
  rcases e with rfl | rfl
  · rw [b0] at hj
    rw [a0, hj]
  · rw [b1] at hj
    rw [a1, hj]
set_option maxHeartbeats 4000000 in
theorem specLay_any (l fs : List Fl) {v fv : Value} {B B' : Nat} (w : World) (hO : OkFlS l) (hx : LowF l) (hL : LowF fs) (k0 : SFlR B w v l) (k1 : SFlR B' w fv fs) :
    Calls Try.prog 21 #[.agg #[v], fv] w (LayRes l fs w) := by
  have HO := hid hO
  have HX := hid hx
  have HL := hid hL
  have hll := hL.1
  have HK := hid k0
  have HK1 := hid k1
  obtain ⟨g, rfl⟩ := k0.sl
  obtain ⟨g1, rfl⟩ := k1.sl
  clear k0 k1 hx hL hO
  have HS := hid (B2.start w (.cells #[.slice (some ⟨g, 0, none⟩) l.length l.length] 29) (.cells #[.slice none 0 0] 29))
  have HEND : Hid (∀ (W : World) (c : Int), B2 w (.cells #[.slice (some ⟨g, 0, none⟩) l.length l.length] 29) (.cells #[.slice none 0 0] 29) W → LayIs l fs [] c → LayRes l fs w (.returned (.tuple #[.agg #[.slice none 0 0], .int .i64 c])) (W.setCell ⟨w.heap.size + 1, 0, none⟩ (.slice none 0 0))) := hid fun W c hb hi => ⟨_, _, _, rfl, hi, own_nil _ _, below_set hb.lo _ _ (by omega) _⟩
  obtain ⟨i0, hi, hz0, hz1, hz2⟩ := info_parts info_Fl
  have HHI := hid (And.intro hi (And.intro hz0 (And.intro hz1 hz2)))
  clear hi hz0 hz1 hz2
  go_enter Try.func21, Try.ntmps21
  go_upto_region 1 with fail
  obtain ⟨W0, hW0⟩ : ∃ W, (w.alloc (.cells #[.slice (some ⟨g, 0, none⟩) l.length l.length] 29)).alloc (.cells #[.slice none 0 0] 29) = W := ⟨_, rfl⟩
  rw [hW0] at HS ⊢
  clear hW0
  have a0 : W0.cell? ⟨w.heap.size, 0, none⟩ = some (.slice (some ⟨g, 0, none⟩) l.length l.length) := row_cell HS.out.e 0
  go_wp2_with fail
  refine (specPlace_any l _ HO.out HX.out.1 (HK.out.next HS.out.lo)).mono ?_
  rintro e w2 ⟨hsy, hb2⟩
  have HB2 := hid (HS.out.next hb2)
  clear hb2 a0 HS
  have f0 : w2.cell? ⟨w.heap.size + 1, 0, none⟩ = some (.slice none 0 0) := row_cell HB2.out.f 0
  have f1 : w2.frozen? ⟨w.heap.size + 1, 0, none⟩ = false := frozen_hp HB2.out.f 0
  by_cases hP : PlOk l
  · obtain rfl := hsy.pos hP
    clear hsy
    have HP := hid hP
    have h40 := hP.1
    have HASC := hid (asc_of hP)
    clear hP
    by_cases hf : fs.length ≤ 40
    · have hf2 : ¬ (40 : Int) < fs.length := by omega
      have hf3 : decide ((40 : Int) < fs.length) = false := by simp; omega
      have a0 : w2.cell? ⟨w.heap.size, 0, none⟩ = some (.slice (some ⟨g, 0, none⟩) l.length l.length) := row_cell HB2.out.e 0
      have a1 : (w2.alloc (.cells #[] 55)).cell? ⟨w.heap.size, 0, none⟩ = some (.slice (some ⟨g, 0, none⟩) l.length l.length) := row_cell (hp_next HB2.out.e ((Below.refl _ _).alloc (Nat.le_refl _) _)) 0
      have HBA := hid (HB2.out.next ((Below.refl _ _).alloc (Nat.le_refl _) (.cells #[] 55)))
      have HKA := hid (HK.out.next HBA.out.lo)
      have HSA := hid HBA.out.lo.size
      go_wp2_with (at_builtin; refine wpList_append_own_at _ rfl (.tmp 17) (.tmp 19) 27 rfl w.heap.size 55 i0 (.agg #[.string ⟨#[]⟩, .string ⟨#[]⟩]) 2 32 Try.underlying27 HHI.out.1 HHI.out.2.1 HHI.out.2.2.1 HHI.out.2.2.2 rfl (by decide) (.slice (some ⟨w2.heap.size, 0, none⟩) 0 0) 0 [] rfl (own_none _ HB2.out.lo.size) ⟨g, 0, none⟩ l.length l.length (cellsF l) rfl (cellsF_len l) (sfl_cells HKA.out) (oneCF l) (by unfold maxLen; omega) (by omega) HSA.out ?_; intro v5 w5 o5 g5 _ _; rw [Nat.zero_add, List.nil_append] at o5; have Ho5 := hid o5; have Hg5 := hid g5; have hs5 := own_form2 o5; obtain ⟨a5, c5, rfl⟩ := hs5; clear o5 g5)
      have HB5 : Hid (B2 w (.cells #[.slice (some ⟨g, 0, none⟩) l.length l.length] 29) (.cells #[.slice none 0 0] 29) w5) := hid ⟨grow_lo HBA.out.lo (own_none w2 HB2.out.lo.size) HSA.out Hg5.out, (Hg5.out.block _ (lt_hp HBA.out.e) (fun e => by simp [Value.ownBlock] at e; have := lt_hp HB2.out.e; omega)).trans HBA.out.e, (Hg5.out.block _ (lt_hp HBA.out.f) (fun e => by simp [Value.ownBlock] at e; have := lt_hp HB2.out.f; omega)).trans HBA.out.f⟩
      clear f0 f1 a0 a1 HKA HSA HBA Hg5
      go_loopw [6, 7] (fun q i wr => ∃ (j : Nat) (v : Value), j ≤ fs.length ∧ i = .int .i64 j ∧ q = v ∧ OwnF w.heap.size wr v (putAll l (fs.take j)) ∧ (∀ q, q < j → FOk (fs.getD q fl0)) ∧ B2 w (.cells #[.slice (some ⟨g, 0, none⟩) l.length l.length] 29) (.cells #[.slice none 0 0] 29) wr) (fun _ i _ => fs.length - (intOf i).toNat)
      case atStart => exact ⟨0, _, Nat.zero_le _, rfl, rfl, Ho5.out, fun p hp => absurd hp (Nat.not_lt_zero _), HB5.out⟩
      case round =>
        obtain ⟨j, v, hj, rfl, rfl, how, hall, hbr⟩ := hrel
        have HBR := hid hbr
        have HALL := hid hall
        have HOW := hid how
        obtain ⟨O, hO⟩ : ∃ O, putAll l (fs.take j) = O := ⟨_, rfl⟩
        have HOE := hid hO
        have hln : O.length ≤ 80 := by rw [← hO]; have := putAll_len (fs.take j) l; rw [List.length_take] at this; omega
        have HASO : Hid (Asc (nms O)) := hid (by rw [← hO]; exact (putAll_all _ _ HASC.out).1)
        rw [hO] at HOW how
        obtain ⟨av, cv, rfl⟩ := own_form2 how
        clear how hall hbr hO Ho5 HB5
        have f0 : wr.cell? ⟨w.heap.size + 1, 0, none⟩ = some (.slice none 0 0) := row_cell HBR.out.f 0
        have f1 : wr.frozen? ⟨w.heap.size + 1, 0, none⟩ = false := frozen_hp HBR.out.f 0
        by_cases hlt : j < fs.length
        · obtain ⟨hg1, a0, a1⟩ := fl_at (HK1.out.next HBR.out.lo) hlt
          have HSZ := hid (HL.out.2 j hlt)
          have hsz := HL.out.2 j hlt
          have HNX := hid (putAll_next (l := l) hlt)
          have HNO : Hid (¬ FOk (fs.getD j fl0) → ¬ LayP l fs) := hid fun h1 h2 => h1 (h2.2.2 j hlt)
          have HYE : Hid (FOk (fs.getD j fl0) → ∀ q, q < j + 1 → FOk (fs.getD q fl0)) := hid fun h => all_step HALL.out h
          obtain ⟨x, hxe⟩ : ∃ x, fs.getD j fl0 = x := ⟨_, rfl⟩
          rw [hxe] at a0 a1 HSZ HNO HYE HNX hsz
          clear hxe
          obtain ⟨n, t⟩ := x
          dsimp only at a0 a1 HSZ hsz
          rw [HOE.out] at HNX
          obtain ⟨hsn, hst⟩ := hsz
          go_upto_region 7 with fail
          go_wp2_with fail
          refine (l15Path_any n _ (by unfold maxLen; omega)).mono ?_
          rintro e w3 ⟨hs3, hw3⟩
          subst hw3
          by_cases hF : FileOk n
          · obtain rfl := hs3.pos hF
            clear hs3
            by_cases hT : t.size ≤ 3000
            · have hT2 : ¬ (3000 : Int) < t.size := by omega
              have hT3 : decide ((3000 : Int) < t.size) = false := by simp; omega
              have HFO := hid (HYE.out ⟨hF, hT⟩)
              clear hF
              have HRD : Hid (∀ V, Below w3.heap.size w3 V → RdF V (.slice av O.length cv) O) := hid fun V hV => (RdF.own HOW.out).next hV
              go_upto_region 9 with fail
              have HS9 : Hid (∀ V, Below w3.heap.size w3 V → V.cell? ⟨g1, j * 2, none⟩ = some (.string n) ∧ V.cell? ⟨g1, j * 2 + 1, none⟩ = some (.string t)) := hid fun V hV => ⟨(hV.cell (p := ⟨g1, _, none⟩) hg1).trans a0, (hV.cell (p := ⟨g1, _, none⟩) hg1).trans a1⟩
              go_region_held3 (fun V => V.cell? ⟨g1, j * 2, none⟩ = some (.string n) ∧ V.cell? ⟨g1, j * 2 + 1, none⟩ = some (.string t)) (first | (exact HS9.out _ HB4.out) | (exact HS9.out _ (Below.refl _ _).drew) | go_keep) (first
                | (go_at_call 41; refine (put_any O ⟨n, t⟩ _ HASO.out (by omega) (HRD.out _ (Below.refl _ _).drew)).mono ?_; rintro e w4 ⟨v4, rfl, o4, b4⟩; have HO4 := hid o4; have HB4 := hid ((Below.refl w3.heap.size w3).drew.trans b4); obtain ⟨a4, c4, rfl⟩ := own_form2 o4; clear o4 b4) | fail)
              have HB4B := hid (HBR.out.next HB4.out)
              have HOW4 : Hid (OwnF w.heap.size w4 (.slice a4 (putL O ⟨n, t⟩).length c4) (putAll l (fs.take (j + 1)))) := hid (by rw [HNX.out]; exact own_mono HO4.out HBR.out.lo.size)
              clear a0 a1 f0 f1
              go_wp2
              go_roundw
              case rel => exact ⟨j + 1, _, by omega, by go_num, rfl, HOW4.out, HFO.out, HB4B.out⟩
              case measure => simp [intOf]; omega
            · have hT2 : (3000 : Int) < t.size := by omega
              have hT3 : decide ((3000 : Int) < t.size) = true := by simp; omega
              have HE := hid (HEND.out w3 1 HBR.out (.inl ⟨HNO.out (fun h => hT h.2), rfl, rfl⟩))
              clear hF hT
              go_wp2
              have r0 := ret_cell HBR.out (.slice none 0 0)
              exact bodyPost_ret (v := .tuple #[.agg #[.slice none 0 0], .int .i64 1]) (by simp [results, Try.results21, go_sem, r0]) rfl HE.out
          · obtain rfl := hs3.neg hF
            have HE := hid (HEND.out w3 1 HBR.out (.inl ⟨HNO.out (fun h => hF h.1), rfl, rfl⟩))
            clear hF hs3
            go_wp2
            have r0 := ret_cell HBR.out (.slice none 0 0)
            exact bodyPost_ret (v := .tuple #[.agg #[.slice none 0 0], .int .i64 1]) (by simp [results, Try.results21, go_sem, r0]) rfl HE.out
        · obtain rfl : j = fs.length := by omega
          have HPA : Hid (LayP l fs) := hid ⟨HP.out, hf, HALL.out⟩
          rw [List.take_length] at HOE
          by_cases h9 : O.length ≤ 40
          · have h92 : ¬ (40 : Int) < O.length := by omega
            have h93 : decide ((40 : Int) < O.length) = false := by simp; omega
            have HE : Hid (LayRes l fs w (.returned (.tuple #[.agg #[.slice av O.length cv], .int .i64 0])) (wr.setCell ⟨w.heap.size + 1, 0, none⟩ (.slice av O.length cv))) := hid ⟨_, O, _, rfl, .inr (.inr ⟨HPA.out, by rw [HOE.out]; exact h9, rfl, HOE.out.symm⟩), own_set2 HOW.out HBR.out.f, below_set HBR.out.lo _ _ (by omega) _⟩
            go_wp2
            have r0 := ret_cell HBR.out (.slice av O.length cv)
            exact bodyPost_ret (v := .tuple #[.agg #[.slice av O.length cv], .int .i64 0]) (by simp [results, Try.results21, go_sem, r0]) rfl HE.out
          · have h92 : (40 : Int) < O.length := by omega
            have h93 : decide ((40 : Int) < O.length) = true := by simp; omega
            have HE := hid (HEND.out wr 2 HBR.out (.inr (.inl ⟨HPA.out, by rw [HOE.out]; omega, rfl, rfl⟩)))
            go_wp2
            have r0 := ret_cell HBR.out (.slice none 0 0)
            exact bodyPost_ret (v := .tuple #[.agg #[.slice none 0 0], .int .i64 2]) (by simp [results, Try.results21, go_sem, r0]) rfl HE.out
    · have hf2 : (40 : Int) < fs.length := by omega
      have hf3 : decide ((40 : Int) < fs.length) = true := by simp; omega
      have HE := hid (HEND.out w2 1 HB2.out (.inl ⟨fun h => hf h.2.1, rfl, rfl⟩))
      go_wp2
      have r0 := ret_cell HB2.out (.slice none 0 0)
      exact bodyPost_ret (v := .tuple #[.agg #[.slice none 0 0], .int .i64 1]) (by simp [results, Try.results21, go_sem, r0]) rfl HE.out
  · obtain rfl := hsy.neg hP
    have HE := hid (HEND.out w2 1 HB2.out (.inl ⟨fun h => hP h.1, rfl, rfl⟩))
    clear hsy
    go_wp2
    have r0 := ret_cell HB2.out (.slice none 0 0)
    exact bodyPost_ret (v := .tuple #[.agg #[.slice none 0 0], .int .i64 1]) (by simp [results, Try.results21, go_sem, r0]) rfl HE.out
end Go.Proofs.Ytpligndiomblhaa.P
