import Derived.Test.YtpcfhbbialgcfaaHcSpec
/-! The packages of a place, by the program. -/
namespace Go.Proofs.Ytpcfhbbialgcfaa.P
open Go.RowKit
open Go.Proofs.Ytpcfhbbialgcfaa.J (Says says_t says_f Says.pos Says.neg)
open Go.Proofs.Ytpcfhbbialgcfaa.R (hid set_other Fl fl0 lt_hp hp_next B1 B2 row_cell SFlR OkFlS below_set set_at info_parts)
set_option maxRecDepth 20000
theorem mem_putL {l : List Fl} {x z : Fl} (h : z ∈ putL l x) : z ∈ l ∨ z = x := by
  unfold putL at h
  rcases List.mem_append.1 h with h | h
  · exact .inl (List.mem_of_mem_take h)
  · rcases List.mem_cons.1 h with h | h
    · exact .inr h
    · exact .inl (List.mem_of_mem_drop h)
theorem mem_putAll : ∀ (fs l : List Fl) {z : Fl}, z ∈ putAll l fs → z ∈ l ∨ z ∈ fs
  | [], _, _, h => .inl h
  | x :: fs, l, z, h => by
    rcases mem_putAll fs (putL l x) h with h | h
    · rcases mem_putL h with h | h
      · exact .inl h
      · exact .inr (by rw [h]; exact List.mem_cons_self)
    · exact .inr (List.mem_cons_of_mem _ h)
theorem zs_low {l : List Fl} (h : LowF l) {z : Fl} (hz : z ∈ zs l) : z.name.size ≤ 1048576 ∧ z.text.size ≤ 1048576 := by
  unfold zs at hz
  rcases mem_putAll _ _ hz with hz | hz
  · cases hz
  · unfold pks at hz
    obtain ⟨x, hx, rfl⟩ := List.mem_map.1 hz
    have hx := (List.mem_filter.1 hx).1
    obtain ⟨i, hi, e⟩ := List.getElem_of_mem hx
    have h1 := h.2 i hi
    rw [List.getD_eq_getElem?_getD, List.getElem?_eq_getElem hi] at h1
    simp only [Option.getD_some, e] at h1
    refine ⟨?_, h1.2⟩
    unfold pk cutB
    rw [ByteArray.size_extract]
    omega
theorem map_keepT {W V : World} {m n : Nat} {f : ByteArray → Option Fl} (h : MapF W m n f) {B t k c : Nat} {v : Value} {xs : List Value} (ho : W.ownsRow B t k v c xs) (hg : W.grownBy V v.ownBlock) : MapF V m n f := by
  obtain ⟨es, ck, e⟩ := h.obj
  exact h.keep ((grown_ty ho hg e (fun cs e2 => by cases e2)).trans e.symm)
theorem map_setW {W : World} {m n : Nat} {f : ByteArray → Option Fl} (h : MapF W m n f) {q i : Nat} {u : Value} {cs : Array Value} (hq : W.heap[q]? = some (.cells cs 29)) : MapF (W.setCell ⟨q, i, none⟩ u) m n f := by
  obtain ⟨es, ck, e⟩ := h.obj
  exact h.keep (set_other _ _ _ _ _ fun e2 => by rw [e2, hq] at e; cases e)
theorem map_next {W V : World} {m n : Nat} {f : ByteArray → Option Fl} (h : MapF W m n f) (hb : Below W.heap.size W V) : MapF V m n f := h.keep (hb.block _ h.lt)
theorem G.oneCf (a b : ByteArray) : ∀ u ∈ ([.string a, .string b] : List Value), u.oneCell' = true := fun u hu => by
  simp only [List.mem_cons, List.not_mem_nil, or_false] at hu
  rcases hu with rfl | rfl <;> rfl
set_option maxHeartbeats 16000000 in
theorem implClays_any (l : List Fl) {v : Value} {B : Nat} (w : World) (hx : LowF l) (k0 : SFlR B w v l) :
    Calls Try.prog 7 #[.agg #[v]] w (HcEnd l w) := by
  have HX := hid hx
  have hll := hx.1
  have HK := hid k0
  obtain ⟨g, rfl⟩ := k0.sl
  clear k0 hx
  obtain ⟨i1, hi1, hy0, hy1, hy2⟩ := info_parts str_info
  have HHN := hid (And.intro hi1 (And.intro hy0 (And.intro hy1 hy2)))
  clear hi1 hy0 hy1 hy2
  obtain ⟨i0, hi0, hz0, hz1, hz2⟩ := info_parts G.info_Cf
  have HHI := hid (And.intro hi0 (And.intro hz0 (And.intro hz1 hz2)))
  clear hi0 hz0 hz1 hz2
  have HZL := hid (fun z (hz : z ∈ zs l) => zs_low HX.out hz)
  have HASC := hid (zs_asc l)
  have HB0 := hid (B2.start w (.cells #[.slice (some ⟨g, 0, none⟩) l.length l.length] 33) (.cells #[.slice none 0 0, .slice none 0 0] 29))
  go_enter Try.func7, Try.ntmps7
  go_upto_region 1 with fail
  obtain ⟨W0, hW0⟩ : ∃ W, (w.alloc (.cells #[.slice (some ⟨g, 0, none⟩) l.length l.length] 33)).alloc (.cells #[.slice none 0 0, .slice none 0 0] 29) = W := ⟨_, rfl⟩
  rw [hW0] at HB0 ⊢
  clear hW0
  have k0 : W0.cell? ⟨w.heap.size, 0, none⟩ = some (.slice (some ⟨g, 0, none⟩) l.length l.length) := row_cell HB0.out.e 0
  go_wp2_with fail
  refine (packs_any l (HK.out.next HB0.out.lo) HX.out).mono ?_
  rintro e w1 ⟨m, f, n, rfl, hm0, hmp, hn, hh, hb1⟩
  have HB1 := hid (HB0.out.next hb1)
  have HMP := hid hmp
  have HH := hid hh
  clear hmp hh hb1 k0
  have k0 : w1.cell? ⟨w.heap.size, 0, none⟩ = some (.slice (some ⟨g, 0, none⟩) l.length l.length) := row_cell HB1.out.e 0
  go_wp2_with fail
  refine (implPlace_any l w1 HX.out (HK.out.next HB1.out.lo)).mono ?_
  rintro e w2 ⟨hsy, hb2⟩
  have HB2 := hid (HB1.out.next hb2)
  have HM2 := hid (map_next HMP.out hb2)
  clear hb2 k0
  have HEND : Hid (¬ (PlOk l ∧ (zs l).length ≤ 20) → HcEnd l w (.returned (.agg #[.slice none 0 0, .slice none 0 0])) ((w2.setCell ⟨w.heap.size + 1, 0, none⟩ (.slice none 0 0)).setCell ⟨w.heap.size + 1, 1, none⟩ (.slice none 0 0))) := hid fun hn => ⟨_, _, [], [], rfl, .inr ⟨hn, rfl, rfl⟩, own_nilF _ _, own_nilN _ _, below_set (below_set HB2.out.lo _ _ (by omega) _) _ _ (by omega) _⟩
  have HRET : Hid (((w2.setCell ⟨w.heap.size + 1, 0, none⟩ (.slice none 0 0)).setCell ⟨w.heap.size + 1, 1, none⟩ (.slice none 0 0)).cell? ⟨w.heap.size + 1, 0, none⟩ = some (.slice none 0 0) ∧ ((w2.setCell ⟨w.heap.size + 1, 0, none⟩ (.slice none 0 0)).setCell ⟨w.heap.size + 1, 1, none⟩ (.slice none 0 0)).cell? ⟨w.heap.size + 1, 1, none⟩ = some (.slice none 0 0)) := hid ⟨row_cell (set_at (i := 1) _ (set_at (i := 0) _ HB2.out.f)) 0, row_cell (set_at (i := 1) _ (set_at (i := 0) _ HB2.out.f)) 1⟩
  have f0 : w2.cell? ⟨w.heap.size + 1, 0, none⟩ = some (.slice none 0 0) := row_cell HB2.out.f 0
  have f1 : w2.frozen? ⟨w.heap.size + 1, 0, none⟩ = false := frozen_hp HB2.out.f 0
  have f2 : w2.cell? ⟨w.heap.size + 1, 1, none⟩ = some (.slice none 0 0) := row_cell HB2.out.f 1
  have f3 : w2.frozen? ⟨w.heap.size + 1, 1, none⟩ = false := frozen_hp HB2.out.f 1
  by_cases hP : PlOk l
  · obtain rfl := hsy.pos hP
    clear hsy
    have HP := hid hP
    have h40 := hP.1
    clear hP
    have hlen := HM2.out.size HH.out HASC.out 3
    have HZ40 : Hid ((zs l).length ≤ 40) := hid (Nat.le_trans (zs_len l) h40)
    by_cases h20 : (zs l).length ≤ 20
    · have h20i : ¬ (20 : Int) < ((zs l).length : Int) := by omega
      have h20d : decide ((20 : Int) < ((zs l).length : Int)) = false := by simp; omega
      go_upto_region 4 with fail
      clear hlen f0 f1 f2 f3 HEND HRET
      have HC3 : Hid (CW w (w.heap.size + 1) w2.heap.size (.slice (some ⟨g, 0, none⟩) l.length l.length) (.slice none 0 0) (.slice none 0 0) (w2.alloc (.cells #[.slice none 0 0, .slice none 0 0] 29))) := hid (by
        have h := HB2.out.next ((Below.refl w2.heap.size w2).alloc (Nat.le_refl _) (.cells #[.slice none 0 0, .slice none 0 0] 29))
        have hl := lt_hp HB2.out.f
        exact ⟨h.lo, by omega, by omega, by omega, h.e, h.f, heap_alloc_new _ _⟩)
      have HM3 : Hid (MapF (w2.alloc (.cells #[.slice none 0 0, .slice none 0 0] 29)) m n f) := hid (map_next HM2.out ((Below.refl w2.heap.size w2).alloc (Nat.le_refl _) _))
      go_upto_region 5 with fail
      obtain ⟨W3, hW3⟩ : ∃ W, w2.alloc (.cells #[.slice none 0 0, .slice none 0 0] 29) = W := ⟨_, rfl⟩
      rw [hW3] at HC3 HM3 ⊢
      obtain ⟨p, hp⟩ : ∃ p, w2.heap.size = p := ⟨_, rfl⟩
      obtain ⟨r, hr⟩ : ∃ r, w.heap.size + 1 = r := ⟨_, rfl⟩
      rw [hp, hr] at HC3 ⊢
      clear hW3 hp hr HB2 HM2 HMP HB1 HB0
      have HKEY := hid (keys_any (some m) W3)
      have HC4 := hid (HC3.out.next ((Below.refl W3.heap.size W3).alloc (Nat.le_refl _) (.cells #[.map (some m)] 48)))
      have HM4 := hid (map_next HM3.out ((Below.refl W3.heap.size W3).alloc (Nat.le_refl _) (.cells #[.map (some m)] 48)))
      have HSRT := hid (sorted_any (b0 := W3.heap.size) _ HM4.out HH.out HASC.out (by omega) (row_cell (heap_alloc_new W3 _) 0) (by simp))
      obtain ⟨Z, hZ⟩ : ∃ Z, zs l = Z := ⟨_, rfl⟩
      have HZE := hid hZ
      rw [hZ] at HSRT HASC HH HZL h20
      clear hZ h20d h20i
      go_upto_region 6 with (first
        | (go_at_call 21; refine HKEY.out.mono ?_; rintro e w5 ⟨rfl, hw5⟩; have hw6 := hw5.symm; clear hw5; subst hw6)
        | (go_at_call 20; refine HSRT.out.mono ?_; rintro e w6 ⟨kv, rfl, hok, hb6⟩; have HKR := hid (And.intro hok (HC4.out.next hb6)); have HM6 := hid (map_next HM4.out hb6); have HN6 := own_formK hok; obtain ⟨ka, kc, rfl⟩ := HN6; clear hok hb6))
      have hnz : (nms Z).length = Z.length := nms_len Z
      rw [hnz] at HKR ⊢
      clear hnz HKEY HSRT HC3 HM3 HC4 HM4
      go_loopw [6, 24] (fun _ i wr => ∃ (j : Nat) (a : Value), j ≤ Z.length ∧ i = .int .i64 j ∧ CW w r p (.slice (some ⟨g, 0, none⟩) l.length l.length) a (.slice none 0 0) wr ∧ G.OwnF w.heap.size wr a (Z.take j) ∧ OwnN 0 wr (.slice ka Z.length kc) (nms Z) ∧ MapF wr m n f) (fun _ i _ => Z.length - (intOf i).toNat)
      case atStart => exact ⟨0, _, Nat.zero_le _, rfl, HKR.out.2, own_nilF _ _, own_monoK HKR.out.1 (Nat.zero_le _), HM6.out⟩
      case round =>
        obtain ⟨j, a, hj, rfl, hcw, hof, hon, hmf⟩ := hrel
        have HCW := hid hcw
        have HON := hid hon
        have HMF := hid hmf
        obtain ⟨O, hO⟩ : ∃ O, Z.take j = O := ⟨_, rfl⟩
        have HOE := hid hO
        have hln : O.length ≤ 20 := by rw [← hO, List.length_take]; omega
        rw [hO] at hof
        have HOW := hid hof
        obtain ⟨av, ac, rfl⟩ := own_formK hof
        clear hcw hof hon hmf hO HKR HM6
        by_cases hlt : j < Z.length
        · obtain ⟨kg, hke, a0⟩ := own_cell HON.out (j := j) (by rw [nms_len]; exact hlt)
          subst hke
          have HNX : Hid (Z.take (j + 1) = O ++ [Z.getD j fl0]) := hid (by rw [take_next hlt, HOE.out])
          have HTX := hid (HH.out.text HASC.out hlt)
          have HSZ := hid (HZL.out (Z.getD j fl0) (by rw [List.getD_eq_getElem?_getD, List.getElem?_eq_getElem hlt]; exact List.getElem_mem hlt))
          rw [nms_get hlt] at a0
          obtain ⟨⟨nm, tf⟩, hxe⟩ : ∃ x, Z.getD j fl0 = x := ⟨_, rfl⟩
          rw [hxe] at a0 HNX HTX HSZ
          clear hxe
          dsimp only at a0 HTX HSZ
          obtain ⟨⟨nf, tf2⟩, hff⟩ : ∃ x, (f nm).getD fl0 = x := ⟨_, rfl⟩
          rw [hff] at HTX
          dsimp only at HTX
          obtain rfl : tf2 = tf := HTX.out
          have HCN : Hid (∀ V, Calls Try.prog 22 #[.string nm] V fun e w' => e = .returned (.string nm) ∧ Below V.heap.size V w') := hid fun V => clone_any nm V HSZ.out.1
          have HCT : Hid (∀ V, Calls Try.prog 22 #[.string tf2] V fun e w' => e = .returned (.string tf2) ∧ Below V.heap.size V w') := hid fun V => clone_any tf2 V HSZ.out.2
          have HG : Hid (∀ V, Below wr.heap.size wr V → V.cell? ⟨p, 0, none⟩ = some (.slice av O.length ac) ∧ (Instr.lookup 48 (.map (some m)) (.string nm) false).run Try.prog V = .ok (.agg #[.string nf, .string tf2]) V) := hid fun V hV => by
            have h1 := (map_next HMF.out hV).get1 nm (by have := HSZ.out.1; unfold maxLen; omega)
            rw [hff] at h1
            exact ⟨row_cell (HCW.out.next hV).p_ 0, h1⟩
          clear hff HTX
          have hfd : ∀ W, (Instr.field 45 (.agg #[.string nf, .string tf2]) 1).run Try.prog W = .ok (.string tf2) W := fun W => by kernel_rfl
          go_upto_region 8 with fail
          obtain ⟨p6, _⟩ := HG.out _ (Below.refl _ _)
          obtain ⟨_, k6⟩ := HG.out _ (Below.refl _ _).drew
          go_region_law (first
            | (refine step_enter rfl (f := 22) (vals := #[.string nm]) (by kernel_rfl) (HCN.out _) ?_; intro e w7 hq7; obtain ⟨rfl, hb7⟩ := hq7; refine ⟨_, rfl, ?_⟩; have HB7 : Hid (Below wr.heap.size wr w7) := hid ((Below.refl wr.heap.size wr).drew.trans hb7); obtain ⟨p7, k7⟩ := HG.out _ HB7.out; clear hb7)
            | (refine step_enter rfl (f := 22) (vals := #[.string tf2]) (by kernel_rfl) (HCT.out _) ?_; intro e w8 hq8; obtain ⟨rfl, hb8⟩ := hq8; refine ⟨_, rfl, ?_⟩; have HB8 : Hid (Below wr.heap.size wr w8) := hid (HB7.out.trans (hb8.mono HB7.out.size)); obtain ⟨p8, _⟩ := HG.out _ HB8.out; have HB8A := hid (HB8.out.alloc HB8.out.size (.cells #[.string nm, .string tf2] 55)); obtain ⟨p8a, _⟩ := HG.out _ HB8A.out; clear hb8)
            | (refine step_append_own_at rfl (.tmp 29) (.tmp 38) 26 rfl w.heap.size 55 i0 (.agg #[.string ⟨#[]⟩, .string ⟨#[]⟩]) 2 32 Try.underlying26 HHI.out.1 HHI.out.2.1 HHI.out.2.2.1 HHI.out.2.2.2 rfl (by decide) (.slice av O.length ac) O.length (cellsF O) (by simp [Act.eval]) (own_next HOW.out HB8A.out) ⟨w8.heap.size, 0, none⟩ 1 1 [.string nm, .string tf2] (by simp [Act.eval]) rfl (G.lit_cells _ nm tf2) (G.oneCf _ _) (by unfold maxLen; omega) (by omega) (Nat.le_trans HCW.out.lo.size HB8A.out.size) ?_; intro v9 w9 o9 g9 _ _; have HO9 := hid o9; have HCA := hid ((HCW.out.next HB8A.out).grown (own_next HOW.out HB8A.out) g9 (by decide) (by decide)); have HKA := hid (own_grownK (own_next HON.out HB8A.out) (own_next HOW.out HB8A.out) g9 (by decide)); have HMA := hid (map_keepT (map_next HMF.out HB8A.out) (own_next HOW.out HB8A.out) g9); obtain ⟨av9, ac9, rfl⟩ := own_formK o9; have q9 := row_cell HCA.out.p_ 0; have z9 := frozen_hp HCA.out.p_ 0; clear o9 g9))
          all_goals
            have HCB := hid (HCA.out.setF (.slice av9 (O.length + 1) ac9))
            have HFB : Hid (G.OwnF w.heap.size (w9.setCell ⟨p, 0, none⟩ (.slice av9 (O.length + 1) ac9)) (.slice av9 (O.length + 1) ac9) (Z.take (j + 1))) := hid (by rw [HNX.out]; exact own_setW (G.own_more (x := ⟨nm, tf2⟩) HO9.out rfl) HCA.out.p_ (by decide))
            have HKB := hid (own_setW (q := p) (i := 0) (u := .slice av9 (O.length + 1) ac9) HKA.out HCA.out.p_ (by decide))
            have HMB := hid (map_setW (q := p) (i := 0) (u := .slice av9 (O.length + 1) ac9) HMA.out HCA.out.p_)
            clear HG
            go_wp2
            go_roundw
            case rel => exact ⟨j + 1, _, by omega, by go_num, HCB.out, HFB.out, HKB.out, HMB.out⟩
            case measure => simp [intOf]; omega
        · obtain rfl : j = Z.length := by omega
          rw [List.take_length] at HOE
          obtain rfl : Z = O := HOE.out
          clear HON HMF HOE
          have k0 : wr.cell? ⟨w.heap.size, 0, none⟩ = some (.slice (some ⟨g, 0, none⟩) l.length l.length) := row_cell HCW.out.e 0
          obtain ⟨w8, hw8⟩ : ∃ W, wr = W := ⟨_, rfl⟩
          rw [hw8] at HCW HOW k0 ⊢
          clear hw8
          go_wp2
          clear k0
          go_loopw [8, 45] (fun _ i wr => ∃ (j : Nat) (b : Value), j ≤ l.length ∧ i = .int .i64 j ∧ CW w r p (.slice (some ⟨g, 0, none⟩) l.length l.length) (.slice av Z.length ac) b wr ∧ G.OwnF w.heap.size wr (.slice av Z.length ac) Z ∧ OwnN w.heap.size wr b (nms (l.take j))) (fun _ i _ => l.length - (intOf i).toNat)
          case atStart => exact ⟨0, _, Nat.zero_le _, rfl, HCW.out, HOW.out, own_nilN _ _⟩
          case round =>
            obtain ⟨j, b, hj2, rfl, hcw, hof, hon⟩ := hrel
            have HCX := hid hcw
            have HOF := hid hof
            obtain ⟨Nj, hNj⟩ : ∃ Z, nms (l.take j) = Z := ⟨_, rfl⟩
            have HNE := hid hNj
            have hnl : Nj.length ≤ 40 := by rw [← hNj, nms_len, List.length_take]; omega
            rw [hNj] at hon
            have HON := hid hon
            obtain ⟨bv, bc, rfl⟩ := own_formK hon
            clear hcw hof hon hNj HCW HOW
            by_cases hlt2 : j < l.length
            · obtain ⟨_, a0, a1⟩ := fl_at (HK.out.next HCX.out.lo) hlt2
              have HLO := hid (HX.out.2 j hlt2)
              have HNX := hid (nms_next hlt2)
              obtain ⟨⟨nm, tx⟩, hxe⟩ : ∃ x, l.getD j fl0 = x := ⟨_, rfl⟩
              rw [hxe] at a0 a1 HLO HNX
              clear hxe
              dsimp only at a0 a1 HLO HNX
              rw [HNE.out] at HNX
              have HCN : Hid (∀ V, Calls Try.prog 22 #[.string nm] V fun e w' => e = .returned (.string nm) ∧ Below V.heap.size V w') := hid fun V => clone_any nm V HLO.out.1
              have HBX := hid (B1.start wr (.cells #[.string nm, .string tx] 45))
              have HCY := hid (HCX.out.next HBX.out.lo)
              have HFY := hid (own_next HOF.out HBX.out.lo)
              have HOY := hid (own_next HON.out HBX.out.lo)
              go_upto_region 13 with fail
              obtain ⟨W1, hW1⟩ : ∃ W, wr.alloc (.cells #[.string nm, .string tx] 45) = W := ⟨_, rfl⟩
              rw [hW1] at HBX HCY HFY HOY ⊢
              clear hW1 a0 a1
              have HG : Hid (∀ V, Below W1.heap.size W1 V → V.cell? ⟨p, 1, none⟩ = some (.slice bv Nj.length bc) ∧ V.cell? ⟨wr.heap.size, 0, none⟩ = some (.string nm)) := hid fun V hV => ⟨row_cell (HCY.out.next hV).p_ 1, row_cell (HBX.out.next hV).e 0⟩
              obtain ⟨p6, m6⟩ := HG.out _ (Below.refl _ _)
              go_region_law (first
                | (refine step_enter rfl (f := 22) (vals := #[.string nm]) (by kernel_rfl) (HCN.out _) ?_; intro e w7 hq7; obtain ⟨rfl, hb7⟩ := hq7; refine ⟨_, rfl, ?_⟩; have HB7 : Hid (Below W1.heap.size W1 w7) := hid ((Below.refl W1.heap.size W1).drew.trans hb7); obtain ⟨p7, m7⟩ := HG.out _ HB7.out; have HB7A := hid (HB7.out.alloc HB7.out.size (.cells #[.string nm] 9)); obtain ⟨p7a, m7a⟩ := HG.out _ HB7A.out; clear hb7)
                | (refine step_append_own_at rfl (.tmp 50) (.tmp 54) 27 rfl w.heap.size 9 i1 (.string ⟨#[]⟩) 1 16 Try.underlying27 HHN.out.1 HHN.out.2.1 HHN.out.2.2.1 HHN.out.2.2.2 rfl (by decide) (.slice bv Nj.length bc) Nj.length (Nj.map fun t => Value.string t) (by simp [Act.eval]) (own_next HOY.out HB7A.out) ⟨w7.heap.size, 0, none⟩ 1 1 [.string nm] (by simp [Act.eval]) rfl (lit_str _ nm) (one_str nm) (by unfold maxLen; omega) (by omega) (Nat.le_trans HCY.out.lo.size HB7A.out.size) ?_; intro v9 w9 o9 g9 _ _; have HX9 := hid o9; have HCA := hid ((HCY.out.next HB7A.out).grown (own_next HOY.out HB7A.out) g9 (by decide) (by decide)); have HFA := hid (own_grownK (own_next HFY.out HB7A.out) (own_next HOY.out HB7A.out) g9 (by decide)); obtain ⟨bv9, bc9, rfl⟩ := own_formK o9; have q10 := row_cell HCA.out.p_ 1; have z10 := frozen_hp HCA.out.p_ 1; clear o9 g9))
              all_goals
                have HCB := hid (HCA.out.setN (.slice bv9 (Nj.length + 1) bc9))
                have HFB := hid (own_setW (q := p) (i := 1) (u := .slice bv9 (Nj.length + 1) bc9) HFA.out HCA.out.p_ (by decide))
                have HOB : Hid (OwnN w.heap.size (w9.setCell ⟨p, 1, none⟩ (.slice bv9 (Nj.length + 1) bc9)) (.slice bv9 (Nj.length + 1) bc9) (nms (l.take (j + 1)))) := hid (by rw [HNX.out]; exact own_setW (moreN HX9.out rfl) HCA.out.p_ (by decide))
                clear HG
                go_wp2
                go_roundw
                case rel => exact ⟨j + 1, _, by omega, by go_num, HCB.out, HFB.out, HOB.out⟩
                case measure => simp [intOf]; omega
            · obtain rfl : j = l.length := by omega
              rw [List.take_length] at HNE
              have q0 : wr.cell? ⟨p, 0, none⟩ = some (.slice av Z.length ac) := row_cell HCX.out.p_ 0
              have q1 : wr.cell? ⟨p, 1, none⟩ = some (.slice bv Nj.length bc) := row_cell HCX.out.p_ 1
              have f0 : wr.cell? ⟨r, 0, none⟩ = some (.slice none 0 0) := row_cell HCX.out.r_ 0
              have f1 : wr.frozen? ⟨r, 0, none⟩ = false := frozen_hp HCX.out.r_ 0
              have f2 : wr.cell? ⟨r, 1, none⟩ = some (.slice none 0 0) := row_cell HCX.out.r_ 1
              have f3 : wr.frozen? ⟨r, 1, none⟩ = false := frozen_hp HCX.out.r_ 1
              have HE : Hid (HcEnd l w (.returned (.agg #[.slice av Z.length ac, .slice bv Nj.length bc])) ((wr.setCell ⟨r, 0, none⟩ (.slice av Z.length ac)).setCell ⟨r, 1, none⟩ (.slice bv Nj.length bc))) := hid ⟨_, _, Z, Nj, rfl, .inl ⟨HP.out, by rw [HZE.out]; exact h20, HZE.out.symm, HNE.out.symm⟩, HCX.out.own2 HOF.out (by decide) _ _, HCX.out.own2 HON.out (by decide) _ _, (HCX.out.ret _ _).2.2⟩
              have HR := hid (HCX.out.ret (.slice av Z.length ac) (.slice bv Nj.length bc))
              go_wp2
              have r0 := HR.out.1
              have r1 := HR.out.2.1
              exact bodyPost_ret (v := .agg #[.slice av Z.length ac, .slice bv Nj.length bc]) (by simp [results, Try.results7, go_sem, r0, r1]) rfl HE.out
    · have h20i : (20 : Int) < ((zs l).length : Int) := by omega
      have h20d : decide ((20 : Int) < ((zs l).length : Int)) = true := by simp; omega
      have HE := hid (HEND.out fun h => h20 h.2)
      clear h20
      go_wp2
      have r0 := HRET.out.1
      have r1 := HRET.out.2
      exact bodyPost_ret (v := .agg #[.slice none 0 0, .slice none 0 0]) (by simp [results, Try.results7, go_sem, r0, r1]) rfl HE.out
  · obtain rfl := hsy.neg hP
    have HE := hid (HEND.out fun h => hP h.1)
    clear hsy hP
    go_wp2
    have r0 := HRET.out.1
    have r1 := HRET.out.2
    exact bodyPost_ret (v := .agg #[.slice none 0 0, .slice none 0 0]) (by simp [results, Try.results7, go_sem, r0, r1]) rfl HE.out
end Go.Proofs.Ytpcfhbbialgcfaa.P
