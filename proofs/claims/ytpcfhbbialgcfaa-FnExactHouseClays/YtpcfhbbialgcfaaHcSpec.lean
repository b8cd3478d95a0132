import Derived.Test.YtpcfhbbialgcfaaHcW
/-! The packages of a place, by the model. -/
namespace Go.Proofs.Ytpcfhbbialgcfaa.P
open Go.RowKit
open Go.Proofs.Ytpcfhbbialgcfaa.J (Says says_t says_f Says.pos Says.neg)
open Go.Proofs.Ytpcfhbbialgcfaa.R (hid set_other Fl fl0 lt_hp hp_next B1 B2 row_cell SFlR OkFlS below_set set_at info_parts)
set_option maxRecDepth 20000
theorem CW.start (w : World) (pv : Value) : CW w (w.heap.size + 1) (w.heap.size + 1 + 1) pv (.slice none 0 0) (.slice none 0 0) (((w.alloc (.cells #[pv] 33)).alloc (.cells #[.slice none 0 0, .slice none 0 0] 29)).alloc (.cells #[.slice none 0 0, .slice none 0 0] 29)) := by
  have h1 := B2.start w (.cells #[pv] 33) (.cells #[.slice none 0 0, .slice none 0 0] 29)
  have hs : ((w.alloc (.cells #[pv] 33)).alloc (.cells #[.slice none 0 0, .slice none 0 0] 29)).heap.size = w.heap.size + 1 + 1 := by simp
  obtain ⟨W, hW⟩ : ∃ W, (w.alloc (.cells #[pv] 33)).alloc (.cells #[.slice none 0 0, .slice none 0 0] 29) = W := ⟨_, rfl⟩
  rw [hW] at h1 hs ⊢
  have h2 := h1.next ((Below.refl W.heap.size W).alloc (Nat.le_refl _) (.cells #[.slice none 0 0, .slice none 0 0] 29))
  have h3 := heap_alloc_new W (.cells #[.slice none 0 0, .slice none 0 0] 29)
  rw [hs] at h3
  exact ⟨h2.lo, by omega, by omega, by omega, h2.e, h2.f, h3⟩
/-- The answer's box, written. -/
theorem CW.ret {w : World} {r p : Nat} {pv a b : Value} {W : World} (h : CW w r p pv a b W) (u v : Value) : ((W.setCell ⟨r, 0, none⟩ u).setCell ⟨r, 1, none⟩ v).cell? ⟨r, 0, none⟩ = some u ∧ ((W.setCell ⟨r, 0, none⟩ u).setCell ⟨r, 1, none⟩ v).cell? ⟨r, 1, none⟩ = some v ∧ Below w.heap.size w ((W.setCell ⟨r, 0, none⟩ u).setCell ⟨r, 1, none⟩ v) := by
  have h2 := set_at (i := 1) v (set_at (i := 0) u h.r_)
  exact ⟨row_cell h2 0, row_cell h2 1, below_set (below_set h.lo _ _ (Nat.le_of_lt h.hr) _) _ _ (Nat.le_of_lt h.hr) _⟩
theorem CW.own2 {w : World} {r p : Nat} {pv a b : Value} {W : World} (h : CW w r p pv a b W) {B t k n : Nat} {x : Value} {xs : List Value} (ho : W.ownsRow B t k x n xs) (ht : t ≠ 29) (u v : Value) : ((W.setCell ⟨r, 0, none⟩ u).setCell ⟨r, 1, none⟩ v).ownsRow B t k x n xs :=
  own_setW (own_setW ho h.r_ ht) (set_at (i := 0) u h.r_) ht
set_option maxHeartbeats 8000000 in
theorem specClays_any (l : List Fl) {v : Value} {B : Nat} (w : World) (hO : OkFlS l) (hx : LowF l) (k0 : SFlR B w v l) :
    Calls Try.prog 5 #[.agg #[v]] w (HcEnd l w) := by
  have HO := hid hO
  have HX := hid hx
  have hll := hx.1
  have HK := hid k0
  obtain ⟨g, rfl⟩ := k0.sl
  clear k0 hx hO
  obtain ⟨i1, hi1, hy0, hy1, hy2⟩ := info_parts str_info
  have HHN := hid (And.intro hi1 (And.intro hy0 (And.intro hy1 hy2)))
  clear hi1 hy0 hy1 hy2
  have HC0 := hid (CW.start w (.slice (some ⟨g, 0, none⟩) l.length l.length))
  go_enter Try.func5, Try.ntmps5
  go_upto_region 2 with fail
  obtain ⟨W0, hW0⟩ : ∃ W, ((w.alloc (.cells #[.slice (some ⟨g, 0, none⟩) l.length l.length] 33)).alloc (.cells #[.slice none 0 0, .slice none 0 0] 29)).alloc (.cells #[.slice none 0 0, .slice none 0 0] 29) = W := ⟨_, rfl⟩
  rw [hW0] at HC0 ⊢
  clear hW0
  obtain ⟨r, hr⟩ : ∃ r, w.heap.size + 1 = r := ⟨_, rfl⟩
  obtain ⟨p, hp⟩ : ∃ p, w.heap.size + 1 + 1 = p := ⟨_, rfl⟩
  rw [hp] at HC0 ⊢
  rw [hr] at HC0 ⊢
  clear hr hp
  have k0 : W0.cell? ⟨w.heap.size, 0, none⟩ = some (.slice (some ⟨g, 0, none⟩) l.length l.length) := row_cell HC0.out.e 0
  have HEND : Hid (∀ W, CW w r p (.slice (some ⟨g, 0, none⟩) l.length l.length) (.slice none 0 0) (.slice none 0 0) W → ¬ (PlOk l ∧ (zs l).length ≤ 20) → HcEnd l w (.returned (.agg #[.slice none 0 0, .slice none 0 0])) ((W.setCell ⟨r, 0, none⟩ (.slice none 0 0)).setCell ⟨r, 1, none⟩ (.slice none 0 0))) := hid fun W hc hn => ⟨_, _, [], [], rfl, .inr ⟨hn, rfl, rfl⟩, own_nilF _ _, own_nilN _ _, (hc.ret _ _).2.2⟩
  go_wp2_with fail
  refine (specPlace_any l _ HO.out HX.out.1 (HK.out.next HC0.out.lo)).mono ?_
  rintro e w2 ⟨hsy, hb2⟩
  have HC := hid (HC0.out.next hb2)
  clear hb2 k0 HC0
  by_cases hP : PlOk l
  · obtain rfl := hsy.pos hP
    clear hsy
    have HP := hid hP
    have h40 := hP.1
    clear hP
    go_upto_region 5 with fail
    go_loopw [4, 5, 6] (fun i _ _ wr => ∃ (j : Nat) (a b : Value), j ≤ l.length ∧ i = .int .i64 j ∧ CW w r p (.slice (some ⟨g, 0, none⟩) l.length l.length) a b wr ∧ G.OwnF w.heap.size wr a (zs (l.take j)) ∧ OwnN w.heap.size wr b (nms (l.take j))) (fun i _ _ _ => l.length - (intOf i).toNat)
    case atStart => exact ⟨0, _, _, Nat.zero_le _, rfl, HC.out, own_nilF _ _, own_nilN _ _⟩
    case round =>
      obtain ⟨j, a, b, hj, rfl, hcw, hof, hon⟩ := hrel
      have HCW := hid hcw
      have HOF := hid hof
      have HON := hid hon
      have HZL : Hid ((zs (l.take j)).length ≤ 40) := hid (Nat.le_trans (zs_len _) (by rw [List.length_take]; omega))
      have HNL : Hid ((nms (l.take j)).length ≤ 40) := hid (by rw [nms_len, List.length_take]; omega)
      obtain ⟨Zj, hZj⟩ : ∃ Z, zs (l.take j) = Z := ⟨_, rfl⟩
      obtain ⟨Nj, hNj⟩ : ∃ Z, nms (l.take j) = Z := ⟨_, rfl⟩
      have HZE := hid hZj
      have HNE := hid hNj
      have HAS : Hid (Asc (nms Zj)) := hid (by rw [← hZj]; exact zs_asc _)
      rw [hZj] at HOF HZL hof
      rw [hNj] at HON HNL hon
      obtain ⟨av, ac, rfl⟩ := own_formK hof
      obtain ⟨bv, bc, rfl⟩ := own_formK hon
      clear hcw hof hon hZj hNj HC
      have hzl := HZL.out
      have hnl := HNL.out
      have k0 : wr.cell? ⟨w.heap.size, 0, none⟩ = some (.slice (some ⟨g, 0, none⟩) l.length l.length) := row_cell HCW.out.e 0
      by_cases hlt : j < l.length
      · obtain ⟨_, a0, a1⟩ := fl_at (HK.out.next HCW.out.lo) hlt
        have HLO := hid (HX.out.2 j hlt)
        have HZY := hid (zs_yes hlt)
        have HZN := hid (zs_no hlt)
        have HNX := hid (nms_next hlt)
        have HAT : Hid (∀ V, Below w.heap.size w V → V.cell? ⟨g, j * 2, none⟩ = some (.string (l.getD j fl0).name) ∧ V.cell? ⟨g, j * 2 + 1, none⟩ = some (.string (l.getD j fl0).text)) := hid fun V hV => (fl_at (HK.out.next hV) hlt).2
        obtain ⟨⟨n, t⟩, hxe⟩ : ∃ x, l.getD j fl0 = x := ⟨_, rfl⟩
        rw [hxe] at a0 a1 HLO HZY HZN HNX HAT
        clear hxe
        dsimp only at a0 a1 HLO HZY HZN HNX HAT
        rw [HZE.out] at HZY HZN
        rw [HNE.out] at HNX
        go_wp2_with fail
        refine (specPk_any n _ (by have := HLO.out.1; unfold maxLen; omega)).mono ?_
        rintro e w3 ⟨pn, b3, rfl, hy, hn0, hb3⟩
        have HY := hid hy
        have HN := hid hn0
        have HC3 := hid (HCW.out.next hb3)
        have HF3 := hid (own_next HOF.out hb3)
        have HO3 := hid (own_next HON.out hb3)
        clear hy hn0 hb3 a0 a1 k0 HCW HOF HON
        by_cases hp : isPk n = true
        · have hyy := HY.out hp
          obtain ⟨rfl, rfl⟩ := hyy
          have HZ2 := hid (HZY.out hp)
          have HPUT := hid (fun V (hV : Below w3.heap.size w3 V) => G.put_any Zj (pk ⟨n, t⟩) V HAS.out (by omega) (G.RdF.own (own_next HF3.out hV)))
          dsimp only [pk] at HPUT HZ2
          have HG3 : Hid (∀ V, Below w3.heap.size w3 V → V.cell? ⟨w.heap.size, 0, none⟩ = some (.slice (some ⟨g, 0, none⟩) l.length l.length) ∧ V.cell? ⟨p, 0, none⟩ = some (.slice av Zj.length ac) ∧ V.cell? ⟨g, j * 2 + 1, none⟩ = some (.string t) ∧ V.frozen? ⟨p, 0, none⟩ = false) := hid fun V hV => ⟨row_cell (HC3.out.next hV).e 0, row_cell (HC3.out.next hV).p_ 0, (HAT.out V (HC3.out.next hV).lo).2, frozen_hp (HC3.out.next hV).p_ 0⟩
          go_upto_region 9 with fail
          obtain ⟨p6, m6, q6, z6⟩ := HG3.out _ (Below.refl _ _)
          go_region_law (refine step_enter rfl (f := 16) (vals := #[.slice av Zj.length ac, .string (cutB n), .string t]) (by kernel_rfl) (HPUT.out _ (Below.refl _ _).drew) ?_; intro e w7 hq7; obtain ⟨v7, rfl, ho7, hb7⟩ := hq7; refine ⟨_, rfl, ?_⟩; have HB7 : Hid (Below w3.heap.size w3 w7) := hid ((Below.refl w3.heap.size w3).drew.trans hb7); have HO7 : Hid (G.OwnF w.heap.size w7 v7 (putL Zj ⟨cutB n, t⟩)) := hid (own_monoK ho7 (show w.heap.size ≤ w3.drew.heap.size from HC3.out.lo.size)); obtain ⟨av7, ac7, rfl⟩ := own_formK ho7; obtain ⟨p7, m7, q7, z7⟩ := HG3.out _ HB7.out; clear hb7 ho7)
          all_goals
            have HC8 := hid ((HC3.out.next HB7.out).setF (.slice av7 (putL Zj ⟨cutB n, t⟩).length ac7))
            have HF8 : Hid (G.OwnF w.heap.size (w7.setCell ⟨p, 0, none⟩ (.slice av7 (putL Zj ⟨cutB n, t⟩).length ac7)) (.slice av7 (putL Zj ⟨cutB n, t⟩).length ac7) (zs (l.take (j + 1)))) := hid (by rw [HZ2.out]; exact own_setW HO7.out (HC3.out.next HB7.out).p_ (by decide))
            have HO8 : Hid (OwnN w.heap.size (w7.setCell ⟨p, 0, none⟩ (.slice av7 (putL Zj ⟨cutB n, t⟩).length ac7)) (.slice bv Nj.length bc) Nj) := hid (own_setW (own_next HO3.out HB7.out) (HC3.out.next HB7.out).p_ (by decide))
            obtain ⟨W8, hW8⟩ : ∃ W, w7.setCell ⟨p, 0, none⟩ (.slice av7 (putL Zj ⟨cutB n, t⟩).length ac7) = W := ⟨_, rfl⟩
            obtain ⟨m8, hm8⟩ : ∃ m, (putL Zj ⟨cutB n, t⟩).length = m := ⟨_, rfl⟩
            rw [hW8] at HC8 HF8 HO8 ⊢
            rw [hm8] at HC8 HF8 ⊢
            clear hW8 hm8 p6 m6 q6 z6 p7 m7 q7 z7 HPUT HG3
            clear hp
            have HG8 : Hid (∀ V, Below W8.heap.size W8 V → V.cell? ⟨w.heap.size, 0, none⟩ = some (.slice (some ⟨g, 0, none⟩) l.length l.length) ∧ V.cell? ⟨p, 1, none⟩ = some (.slice bv Nj.length bc) ∧ V.cell? ⟨g, j * 2, none⟩ = some (.string n)) := hid fun V hV => ⟨row_cell (HC8.out.next hV).e 0, row_cell (HC8.out.next hV).p_ 1, (HAT.out V (HC8.out.next hV).lo).1⟩
            go_upto_region 10 with fail
            obtain ⟨p8, m8x, q8⟩ := HG8.out _ (Below.refl _ _)
            have HA8 : Hid (Below W8.heap.size W8 (W8.alloc (.cells #[.string n] 9)).drew) := hid (((Below.refl _ _).alloc (Nat.le_refl _) _).drew)
            obtain ⟨p9, m9x, q9⟩ := HG8.out (W8.alloc (.cells #[.string n] 9)) ((Below.refl _ _).alloc (Nat.le_refl _) _)
            have HC9 := hid (HC8.out.next HA8.out)
            have HF9 := hid (own_next HF8.out HA8.out)
            have HO9 := hid (own_next HO8.out HA8.out)
            go_region_law (refine step_append_own_at rfl (.tmp 42) (.tmp 49) 27 rfl w.heap.size 9 i1 (.string ⟨#[]⟩) 1 16 Try.underlying27 HHN.out.1 HHN.out.2.1 HHN.out.2.2.1 HHN.out.2.2.2 rfl (by decide) (.slice bv Nj.length bc) Nj.length (Nj.map fun t => Value.string t) (by simp [Act.eval]) HO9.out ⟨W8.heap.size, 0, none⟩ 1 1 [.string n] (by simp [Act.eval]) rfl (lit_str _ n) (one_str n) (by unfold maxLen; omega) (by omega) HC9.out.lo.size ?_; intro v9 w9 o9 g9 _ _; have HX9 := hid o9; have HCA := hid (HC9.out.grown HO9.out g9 (by decide) (by decide)); have HFA : Hid (G.OwnF w.heap.size w9 _ (zs (l.take (j + 1)))) := hid (own_grownK HF9.out HO9.out g9 (by decide)); obtain ⟨bv9, bc9, rfl⟩ := own_formK o9; have q10 := row_cell HCA.out.p_ 1; have z10 := frozen_hp HCA.out.p_ 1; clear o9 g9)
            all_goals
              have HCB := hid (HCA.out.setN (.slice bv9 (Nj.length + 1) bc9))
              have HFB : Hid (G.OwnF w.heap.size (w9.setCell ⟨p, 1, none⟩ (.slice bv9 (Nj.length + 1) bc9)) _ (zs (l.take (j + 1)))) := hid (own_setW HFA.out HCA.out.p_ (by decide))
              have HOB : Hid (OwnN w.heap.size (w9.setCell ⟨p, 1, none⟩ (.slice bv9 (Nj.length + 1) bc9)) (.slice bv9 (Nj.length + 1) bc9) (nms (l.take (j + 1)))) := hid (by rw [HNX.out]; exact own_setW (moreN HX9.out rfl) HCA.out.p_ (by decide))
              clear HG8 HAT
              go_wp2
              go_roundw
              case rel => exact ⟨j + 1, _, _, by omega, by go_num, HCB.out, HFB.out, HOB.out⟩
              case measure => simp [intOf]; omega
        · have hp2 : isPk n = false := by simpa using hp
          obtain rfl := HN.out hp2
          have HZ2 := hid (HZN.out hp2)
          obtain ⟨W8, hW8⟩ : ∃ W, w3 = W := ⟨_, rfl⟩
          obtain ⟨m8, hm8⟩ : ∃ m, Zj.length = m := ⟨_, rfl⟩
          obtain ⟨av7, hav⟩ : ∃ m, av = m := ⟨_, rfl⟩
          obtain ⟨ac7, hac⟩ : ∃ m, ac = m := ⟨_, rfl⟩
          have HC8 := hid HC3.out
          have HF8 : Hid (G.OwnF w.heap.size w3 (.slice av Zj.length ac) (zs (l.take (j + 1)))) := hid (by rw [HZ2.out]; exact HF3.out)
          have HO8 := hid HO3.out
          rw [hW8] at HC8 HF8 HO8 ⊢
          rw [hm8, hav, hac] at HC8 HF8
          clear hW8 hm8 hav hac hp2
          clear hp
          have HG8 : Hid (∀ V, Below W8.heap.size W8 V → V.cell? ⟨w.heap.size, 0, none⟩ = some (.slice (some ⟨g, 0, none⟩) l.length l.length) ∧ V.cell? ⟨p, 1, none⟩ = some (.slice bv Nj.length bc) ∧ V.cell? ⟨g, j * 2, none⟩ = some (.string n)) := hid fun V hV => ⟨row_cell (HC8.out.next hV).e 0, row_cell (HC8.out.next hV).p_ 1, (HAT.out V (HC8.out.next hV).lo).1⟩
          go_upto_region 10 with fail
          obtain ⟨p8, m8x, q8⟩ := HG8.out _ (Below.refl _ _)
          have HA8 : Hid (Below W8.heap.size W8 (W8.alloc (.cells #[.string n] 9)).drew) := hid (((Below.refl _ _).alloc (Nat.le_refl _) _).drew)
          obtain ⟨p9, m9x, q9⟩ := HG8.out (W8.alloc (.cells #[.string n] 9)) ((Below.refl _ _).alloc (Nat.le_refl _) _)
          have HC9 := hid (HC8.out.next HA8.out)
          have HF9 := hid (own_next HF8.out HA8.out)
          have HO9 := hid (own_next HO8.out HA8.out)
          go_region_law (refine step_append_own_at rfl (.tmp 42) (.tmp 49) 27 rfl w.heap.size 9 i1 (.string ⟨#[]⟩) 1 16 Try.underlying27 HHN.out.1 HHN.out.2.1 HHN.out.2.2.1 HHN.out.2.2.2 rfl (by decide) (.slice bv Nj.length bc) Nj.length (Nj.map fun t => Value.string t) (by simp [Act.eval]) HO9.out ⟨W8.heap.size, 0, none⟩ 1 1 [.string n] (by simp [Act.eval]) rfl (lit_str _ n) (one_str n) (by unfold maxLen; omega) (by omega) HC9.out.lo.size ?_; intro v9 w9 o9 g9 _ _; have HX9 := hid o9; have HCA := hid (HC9.out.grown HO9.out g9 (by decide) (by decide)); have HFA : Hid (G.OwnF w.heap.size w9 _ (zs (l.take (j + 1)))) := hid (own_grownK HF9.out HO9.out g9 (by decide)); obtain ⟨bv9, bc9, rfl⟩ := own_formK o9; have q10 := row_cell HCA.out.p_ 1; have z10 := frozen_hp HCA.out.p_ 1; clear o9 g9)
          all_goals
            have HCB := hid (HCA.out.setN (.slice bv9 (Nj.length + 1) bc9))
            have HFB : Hid (G.OwnF w.heap.size (w9.setCell ⟨p, 1, none⟩ (.slice bv9 (Nj.length + 1) bc9)) _ (zs (l.take (j + 1)))) := hid (own_setW HFA.out HCA.out.p_ (by decide))
            have HOB : Hid (OwnN w.heap.size (w9.setCell ⟨p, 1, none⟩ (.slice bv9 (Nj.length + 1) bc9)) (.slice bv9 (Nj.length + 1) bc9) (nms (l.take (j + 1)))) := hid (by rw [HNX.out]; exact own_setW (moreN HX9.out rfl) HCA.out.p_ (by decide))
            clear HG8 HAT
            go_wp2
            go_roundw
            case rel => exact ⟨j + 1, _, _, by omega, by go_num, HCB.out, HFB.out, HOB.out⟩
            case measure => simp [intOf]; omega
      · obtain rfl : j = l.length := by omega
        rw [List.take_length] at HZE HNE
        have q0 : wr.cell? ⟨p, 0, none⟩ = some (.slice av Zj.length ac) := row_cell HCW.out.p_ 0
        have q1 : wr.cell? ⟨p, 1, none⟩ = some (.slice bv Nj.length bc) := row_cell HCW.out.p_ 1
        have f0 : wr.cell? ⟨r, 0, none⟩ = some (.slice none 0 0) := row_cell HCW.out.r_ 0
        have f1 : wr.frozen? ⟨r, 0, none⟩ = false := frozen_hp HCW.out.r_ 0
        have f2 : wr.cell? ⟨r, 1, none⟩ = some (.slice none 0 0) := row_cell HCW.out.r_ 1
        have f3 : wr.frozen? ⟨r, 1, none⟩ = false := frozen_hp HCW.out.r_ 1
        by_cases h20 : Zj.length ≤ 20
        · have h20i : ¬ (20 : Int) < (Zj.length : Int) := by omega
          have HE : Hid (HcEnd l w (.returned (.agg #[.slice av Zj.length ac, .slice bv Nj.length bc])) ((wr.setCell ⟨r, 0, none⟩ (.slice av Zj.length ac)).setCell ⟨r, 1, none⟩ (.slice bv Nj.length bc))) := hid ⟨_, _, Zj, Nj, rfl, .inl ⟨HP.out, by rw [HZE.out]; exact h20, HZE.out.symm, HNE.out.symm⟩, HCW.out.own2 HOF.out (by decide) _ _, HCW.out.own2 HON.out (by decide) _ _, (HCW.out.ret _ _).2.2⟩
          have HR := hid (HCW.out.ret (.slice av Zj.length ac) (.slice bv Nj.length bc))
          clear h20
          go_wp2
          have r0 := HR.out.1
          have r1 := HR.out.2.1
          exact bodyPost_ret (v := .agg #[.slice av Zj.length ac, .slice bv Nj.length bc]) (by simp [results, Try.results5, go_sem, r0, r1]) rfl HE.out
        · have h20i : (20 : Int) < (Zj.length : Int) := by omega
          have HE : Hid (HcEnd l w (.returned (.agg #[.slice none 0 0, .slice none 0 0])) ((wr.setCell ⟨r, 0, none⟩ (.slice none 0 0)).setCell ⟨r, 1, none⟩ (.slice none 0 0))) := hid ⟨_, _, [], [], rfl, .inr ⟨fun h => h20 (by rw [← HZE.out]; exact h.2), rfl, rfl⟩, own_nilF _ _, own_nilN _ _, (HCW.out.ret _ _).2.2⟩
          have HR := hid (HCW.out.ret (.slice none 0 0) (.slice none 0 0))
          clear h20
          go_wp2
          have r0 := HR.out.1
          have r1 := HR.out.2.1
          exact bodyPost_ret (v := .agg #[.slice none 0 0, .slice none 0 0]) (by simp [results, Try.results5, go_sem, r0, r1]) rfl HE.out
  · obtain rfl := hsy.neg hP
    have HE := hid (HEND.out w2 HC.out (fun h => hP h.1))
    have HR := hid (HC.out.ret (.slice none 0 0) (.slice none 0 0))
    clear hsy hP
    have q0 : w2.cell? ⟨p, 0, none⟩ = some (.slice none 0 0) := row_cell HC.out.p_ 0
    have q1 : w2.cell? ⟨p, 1, none⟩ = some (.slice none 0 0) := row_cell HC.out.p_ 1
    have f0 : w2.cell? ⟨r, 0, none⟩ = some (.slice none 0 0) := row_cell HC.out.r_ 0
    have f1 : w2.frozen? ⟨r, 0, none⟩ = false := frozen_hp HC.out.r_ 0
    have f2 : w2.cell? ⟨r, 1, none⟩ = some (.slice none 0 0) := row_cell HC.out.r_ 1
    have f3 : w2.frozen? ⟨r, 1, none⟩ = false := frozen_hp HC.out.r_ 1
    go_wp2
    have r0 := HR.out.1
    have r1 := HR.out.2.1
    exact bodyPost_ret (v := .agg #[.slice none 0 0, .slice none 0 0]) (by simp [results, Try.results5, go_sem, r0, r1]) rfl HE.out
end Go.Proofs.Ytpcfhbbialgcfaa.P
