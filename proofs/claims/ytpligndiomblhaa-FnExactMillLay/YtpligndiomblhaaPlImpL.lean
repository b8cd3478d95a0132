import Derived.Test.YtpligndiomblhaaPlPlace
/-! Files laid by the program. -/
namespace Go.Proofs.Ytpligndiomblhaa.P
open Go.RowKit
open Go.Proofs.Ytpligndiomblhaa.J (Says says_t says_f FileOk Says.pos Says.neg)
open Go.Proofs.Ytpligndiomblhaa.R (hid small set_other Fl fl0 lt_hp hp_next B1 B2 row_cell row_room SFlR OkFlS below_drewN below_set)
set_option maxRecDepth 20000
theorem mem_get {l : List Fl} {y : Fl} (h : y ∈ l) : ∃ i, i < l.length ∧ l.getD i fl0 = y := by
  obtain ⟨i, hi, e⟩ := List.getElem_of_mem h
  exact ⟨i, hi, by rw [List.getD_eq_getElem?_getD, List.getElem?_eq_getElem hi]; exact e⟩
/-- Sizes of what was laid. -/
theorem putAll_low {M : Nat} : ∀ (fs l : List Fl), (∀ x ∈ l, x.name.size ≤ M ∧ x.text.size ≤ M) → (∀ x ∈ fs, x.name.size ≤ M ∧ x.text.size ≤ M) → ∀ x ∈ putAll l fs, x.name.size ≤ M ∧ x.text.size ≤ M
  | [], l, h, _ => h
  | y :: fs, l, h, h2 => putAll_low fs (putL l y) (fun x hx => by
      rw [putL_eq, List.mem_append, List.mem_cons] at hx
      rcases hx with hx | rfl | hx
      · exact h x (List.mem_of_mem_take hx)
      · exact h2 x List.mem_cons_self
      · exact h x (List.mem_of_mem_drop hx)) (fun x hx => h2 x (List.mem_cons_of_mem _ hx))
theorem low_mem {l : List Fl} (h : LowF l) : ∀ x ∈ l, x.name.size ≤ 1048576 ∧ x.text.size ≤ 1048576 := fun x hx => by
  obtain ⟨i, hi, e⟩ := mem_get hx
  have := h.2 i hi
  rwa [e] at this
theorem nms_mem {l : List Fl} {n : ByteArray} (h : n ∈ nms l) : ∃ x ∈ l, x.name = n := by simpa [nms] using h
/-- The names and the files of a place with files laid: those of the list. -/
theorem lay_same {l : List Fl} (hP : PlOk l) (fs : List Fl) : layN (layN [] l) fs = nms (putAll l fs) ∧ layF (layF (fun _ => none) l) fs = findF (putAll l fs) := by
  have h := putAll_all fs l (asc_of hP)
  have h2 : layF (fun _ => none) l = findF l := funext (files_of hP)
  rw [names_of hP, h2]
  exact ⟨h.2.1, h.2.2⟩
theorem lay_len (ns : List ByteArray) (fs : List Fl) : (layN ns fs).length ≤ ns.length + fs.length := layN_len fs ns
set_option maxHeartbeats 4000000 in
theorem implLay_any (l fs : List Fl) {v fv : Value} {B B' : Nat} (w : World) (hx : LowF l) (hL : LowF fs) (k0 : SFlR B w v l) (k1 : SFlR B' w fv fs) :
    Calls Try.prog 23 #[.agg #[v], fv] w (LayRes l fs w) := by
  have HX := hid hx
  have HL := hid hL
  have hll := hL.1
  have HK := hid k0
  have HK1 := hid k1
  obtain ⟨g, rfl⟩ := k0.sl
  obtain ⟨g1, rfl⟩ := k1.sl
  clear k0 k1 hx hL
  have HS := hid (B2.start w (.cells #[.slice (some ⟨g, 0, none⟩) l.length l.length] 29) (.cells #[.slice none 0 0] 29))
  have HEND : Hid (∀ (W : World) (c : Int), B2 w (.cells #[.slice (some ⟨g, 0, none⟩) l.length l.length] 29) (.cells #[.slice none 0 0] 29) W → LayIs l fs [] c → LayRes l fs w (.returned (.tuple #[.agg #[.slice none 0 0], .int .i64 c])) (W.setCell ⟨w.heap.size + 1, 0, none⟩ (.slice none 0 0))) := hid fun W c hb hi => ⟨_, _, _, rfl, hi, own_nil _ _, below_set hb.lo _ _ (by omega) _⟩
  go_enter Try.func23, Try.ntmps23
  go_upto_region 1 with fail
  obtain ⟨W0, hW0⟩ : ∃ W, (w.alloc (.cells #[.slice (some ⟨g, 0, none⟩) l.length l.length] 29)).alloc (.cells #[.slice none 0 0] 29) = W := ⟨_, rfl⟩
  rw [hW0] at HS ⊢
  clear hW0
  have a0 : W0.cell? ⟨w.heap.size, 0, none⟩ = some (.slice (some ⟨g, 0, none⟩) l.length l.length) := row_cell HS.out.e 0
  go_wp2_with fail
  refine (implPlace_any l _ HX.out (HK.out.next HS.out.lo)).mono ?_
  rintro e w2 ⟨hsy, hb2⟩
  have HB2 := hid (HS.out.next hb2)
  clear hb2 a0 HS
  have f0 : w2.cell? ⟨w.heap.size + 1, 0, none⟩ = some (.slice none 0 0) := row_cell HB2.out.f 0
  have f1 : w2.frozen? ⟨w.heap.size + 1, 0, none⟩ = false := frozen_hp HB2.out.f 0
  by_cases hP : PlOk l
  · obtain rfl := hsy.pos hP
    clear hsy
    have HP := hid hP
    have h40 := hP.1
    clear hP
    by_cases hf : fs.length ≤ 40
    · have hf2 : ¬ (40 : Int) < fs.length := by omega
      have hf3 : decide ((40 : Int) < fs.length) = false := by simp; omega
      go_wp2_with fail
      refine (containsF_any fs (HK1.out.next HB2.out.lo) HL.out).mono ?_
      rintro e w3 ⟨hs3, hb3⟩
      have HB3 := hid (HB2.out.next hb3)
      clear hb3 f0 f1
      by_cases hA : AllF fs
      · obtain rfl := hs3.neg (fun h => h hA)
        have HPA : Hid (LayP l fs) := hid ⟨HP.out, hf, hA⟩
        clear hs3 hA
        have a0 : w3.cell? ⟨w.heap.size, 0, none⟩ = some (.slice (some ⟨g, 0, none⟩) l.length l.length) := row_cell HB3.out.e 0
        go_wp2_with fail
        refine (new_any l (HK.out.next HB3.out.lo) HX.out (by omega)).mono ?_
        rintro e w4 ⟨b, vb, m, rfl, hbx, hb4⟩
        have HB4 := hid (HB3.out.next hb4)
        have HSZ3 := hid HB3.out.lo.size
        have HBX4 : Hid (∃ v', Bx w3.heap.size b (layN (layN [] l) (fs.take 0)) (layF (layF (fun _ => none) l) (fs.take 0)) (l.length + 0) v' m w4) := hid ⟨vb, hbx⟩
        have HLN0 : Hid ((layN [] l).length ≤ 40) := hid (by have := layN_len l []; simp at this; omega)
        have HW3 := hid (show w3.heap.size ≤ w4.heap.size from hb4.size)
        clear hbx hb4 a0
        go_wp2_with fail
        go_loopw [8, 26] (fun _ i wr => ∃ j : Nat, j ≤ fs.length ∧ i = .int .i64 j ∧ B2 w (.cells #[.slice (some ⟨g, 0, none⟩) l.length l.length] 29) (.cells #[.slice none 0 0] 29) wr ∧ w3.heap.size ≤ wr.heap.size ∧ ∃ v', Bx w3.heap.size b (layN (layN [] l) (fs.take j)) (layF (layF (fun _ => none) l) (fs.take j)) (l.length + j) v' m wr) (fun _ i _ => fs.length - (intOf i).toNat)
        case atStart => exact ⟨0, Nat.zero_le _, rfl, HB4.out, HW3.out, HBX4.out⟩
        case round =>
          obtain ⟨j, hj, rfl, hbr, hwr, v', hbx⟩ := hrel
          have HBR := hid hbr
          have HWR := hid hwr
          have HBX := hid hbx
          clear hbr hwr HBX4 HW3 HB4
          by_cases hlt : j < fs.length
          · obtain ⟨_, a0, a1⟩ := fl_at (HK1.out.next HBR.out.lo) hlt
            have HLO := hid (HL.out.2 j hlt)
            have HNN := hid (layN_next (ns := layN [] l) hlt)
            have HNF := hid (layF_next (f := layF (fun _ => none) l) hlt)
            have HLN : Hid ((layN (layN [] l) (fs.take j)).length ≤ 1000) := hid (by have := layN_len (fs.take j) (layN [] l); have := HLN0.out; rw [List.length_take] at *; omega)
            clear hbx
            obtain ⟨x, hxe⟩ : ∃ x, fs.getD j fl0 = x := ⟨_, rfl⟩
            rw [hxe] at a0 a1 HLO HNN HNF
            clear hxe
            have HA := hid ((Below.refl wr.heap.size wr).alloc (Nat.le_refl _) (.cells #[.string x.name, .string x.text] 55))
            have HBA := hid (HBX.out.next HA.out)
            have HBB := hid (HBR.out.next HA.out)
            have HSA : Hid (w3.heap.size ≤ (wr.alloc (.cells #[.string x.name, .string x.text] 55)).heap.size) := hid (Nat.le_trans HWR.out HA.out.size)
            go_wp2_with fail
            refine (lay_any x HBA.out HSA.out HLO.out.1 HLN.out (by omega)).mono ?_
            rintro e w5 ⟨rfl, ⟨v5, hb5⟩, hlo⟩
            have HB5 : Hid (B2 w (.cells #[.slice (some ⟨g, 0, none⟩) l.length l.length] 29) (.cells #[.slice none 0 0] 29) w5) := hid ⟨HBB.out.lo.trans (hlo.mono HSZ3.out), (hlo.block _ (lt_hp HB3.out.e)).trans HBB.out.e, (hlo.block _ (lt_hp HB3.out.f)).trans HBB.out.f⟩
            have HBX5 : Hid (∃ v', Bx w3.heap.size b (layN (layN [] l) (fs.take (j + 1))) (layF (layF (fun _ => none) l) (fs.take (j + 1))) (l.length + (j + 1)) v' m w5) := hid ⟨v5, by rw [HNN.out, HNF.out]; exact hb5⟩
            have HW5 := hid (Nat.le_trans HSA.out hlo.size)
            clear hb5 hlo a0 a1
            go_wp2
            go_roundw
            case rel => exact ⟨j + 1, by omega, by go_num, HB5.out, HW5.out, HBX5.out⟩
            case measure => simp [intOf]; omega
          · obtain rfl : j = fs.length := by omega
            rw [List.take_length] at hbx
            have HB9 := hid hbx
            obtain ⟨ad, c, rfl⟩ := own_form hbx.own
            clear hbx HBX
            have HSM := hid (lay_same HP.out fs)
            obtain ⟨NS, hNS⟩ : ∃ NS, layN (layN [] l) fs = NS := ⟨_, rfl⟩
            obtain ⟨FF, hFF⟩ : ∃ FF, layF (layF (fun _ => none) l) fs = FF := ⟨_, rfl⟩
            rw [hNS, hFF] at HB9 HSM
            have HNL : Hid (NS.length ≤ 80) := hid (by rw [← hNS]; have := layN_len fs (layN [] l); have := HLN0.out; omega)
            clear hNS hFF
            have HLE : Hid (NS.length = (putAll l fs).length) := hid (by rw [HSM.out.1, nms_len])
            have hnl := HNL.out
            have b0 : wr.cell? ⟨b, 0, none⟩ = some (.slice ad NS.length c) := row_cell HB9.out.e 0
            have f0 : wr.cell? ⟨w.heap.size + 1, 0, none⟩ = some (.slice none 0 0) := row_cell HBR.out.f 0
            have f1 : wr.frozen? ⟨w.heap.size + 1, 0, none⟩ = false := frozen_hp HBR.out.f 0
            by_cases h9 : NS.length ≤ 40
            · have h92 : ¬ (40 : Int) < NS.length := by omega
              have h93 : decide ((40 : Int) < NS.length) = false := by simp; omega
              have HPL := hid (place_any HB9.out (by omega) (by
                intro n hn
                rw [HSM.out.1] at hn
                obtain ⟨x, hx, rfl⟩ := nms_mem hn
                have h1 := putAll_low (M := 1048576) fs l (low_mem HX.out) (low_mem HL.out) x hx
                refine ⟨h1.1, ?_⟩
                unfold fileOf
                rw [HSM.out.2, findF_of (putAll_all fs l (asc_of HP.out)).1 hx]
                exact h1.2))
              have HME : Hid (NS.map (fileOf FF) = putAll l fs) := hid (by rw [HSM.out.1, HSM.out.2]; exact place_eq (putAll_all fs l (asc_of HP.out)).1)
              rw [HME.out] at HPL
              go_wp2_with fail
              refine HPL.out.mono ?_
              rintro e w6 ⟨v6, rfl, ho6, hb6⟩
              have HB6 := hid (HBR.out.next hb6)
              have HO6 := hid (own_mono ho6 HBR.out.lo.size)
              obtain ⟨a6, c6, rfl⟩ := own_form2 ho6
              clear ho6 hb6 f0 f1 b0
              have f0 : w6.cell? ⟨w.heap.size + 1, 0, none⟩ = some (.slice none 0 0) := row_cell HB6.out.f 0
              have f1 : w6.frozen? ⟨w.heap.size + 1, 0, none⟩ = false := frozen_hp HB6.out.f 0
              obtain ⟨N6, hN6⟩ : ∃ N, (putAll l fs).length = N := ⟨_, rfl⟩
              have HN6 := hid hN6
              have HE : Hid (LayRes l fs w (.returned (.tuple #[.agg #[.slice a6 (putAll l fs).length c6], .int .i64 0])) (w6.setCell ⟨w.heap.size + 1, 0, none⟩ (.slice a6 (putAll l fs).length c6))) := hid ⟨_, putAll l fs, _, rfl, .inr (.inr ⟨HPA.out, by rw [← HLE.out]; exact h9, rfl, rfl⟩), own_set2 HO6.out HB6.out.f, below_set HB6.out.lo _ _ (by omega) _⟩
              have r0 := ret_cell HB6.out (.slice a6 (putAll l fs).length c6)
              rw [hN6] at HE r0 ⊢
              clear hN6
              go_wp2
              exact bodyPost_ret (v := .tuple #[.agg #[.slice a6 N6 c6], .int .i64 0]) (by simp [results, Try.results23, go_sem, r0]) rfl HE.out
            · have h92 : (40 : Int) < NS.length := by omega
              have h93 : decide ((40 : Int) < NS.length) = true := by simp; omega
              have HE := hid (HEND.out wr 2 HBR.out (.inr (.inl ⟨HPA.out, by rw [← HLE.out]; omega, rfl, rfl⟩)))
              have r0 := ret_cell HBR.out (.slice none 0 0)
              go_wp2
              exact bodyPost_ret (v := .tuple #[.agg #[.slice none 0 0], .int .i64 2]) (by simp [results, Try.results23, go_sem, r0]) rfl HE.out
      · obtain rfl := hs3.pos hA
        have HE := hid (HEND.out w3 1 HB3.out (.inl ⟨fun h => hA h.2.2, rfl, rfl⟩))
        clear hs3 hA
        have f0 : w3.cell? ⟨w.heap.size + 1, 0, none⟩ = some (.slice none 0 0) := row_cell HB3.out.f 0
        have f1 : w3.frozen? ⟨w.heap.size + 1, 0, none⟩ = false := frozen_hp HB3.out.f 0
        have r0 := ret_cell HB3.out (.slice none 0 0)
        go_wp2
        exact bodyPost_ret (v := .tuple #[.agg #[.slice none 0 0], .int .i64 1]) (by simp [results, Try.results23, go_sem, r0]) rfl HE.out
    · have hf2 : (40 : Int) < fs.length := by omega
      have hf3 : decide ((40 : Int) < fs.length) = true := by simp; omega
      have HE := hid (HEND.out w2 1 HB2.out (.inl ⟨fun h => hf h.2.1, rfl, rfl⟩))
      have r0 := ret_cell HB2.out (.slice none 0 0)
      go_wp2
      exact bodyPost_ret (v := .tuple #[.agg #[.slice none 0 0], .int .i64 1]) (by simp [results, Try.results23, go_sem, r0]) rfl HE.out
  · obtain rfl := hsy.neg hP
    have HE := hid (HEND.out w2 1 HB2.out (.inl ⟨fun h => hP h.1, rfl, rfl⟩))
    clear hsy
    have r0 := ret_cell HB2.out (.slice none 0 0)
    go_wp2
    exact bodyPost_ret (v := .tuple #[.agg #[.slice none 0 0], .int .i64 1]) (by simp [results, Try.results23, go_sem, r0]) rfl HE.out
end Go.Proofs.Ytpligndiomblhaa.P
