import Derived.Test.YtdhcjmlcpnljiaaDoorMSLeaf
import Derived.Test.YtdhcjmlcpnljiaaDoorMStep
import Derived.Shelf.Abstract
namespace Go.Proofs.YtdhcjmlcpnljiaaDoor
open Go.RowKit Go.Shelf
set_option maxRecDepth 20000
def munqV (n : Nat) (u : Option (List UInt8 × Nat)) : Value :=
  match u with
  | none => .tuple #[.string ⟨#[]⟩, .int .i64 n, .bool false]
  | some x => .tuple #[.string ⟨x.1.toArray⟩, .int .i64 x.2, .bool true]
set_option maxHeartbeats 1000000 in
theorem l10Unquote_any (s : ByteArray) (n : Nat) (w : World) (hs : s.size ≤ 12000) (hn : n < s.size) :
    Calls Tryd.prog 30 #[.string s, .int .i64 n] w fun e w' => e = .returned (munqV n (unqAt (s.size - n) s.data.toList (n + 1) [])) ∧ Below w.heap.size w w' := by
  obtain ⟨U, hU⟩ : ∃ U, unqAt (s.size - n) s.data.toList (n + 1) [] = U := ⟨_, rfl⟩
  rw [hU]
  have HU : Hid (unqAt (s.size - n) s.data.toList (n + 1) [] = U) := hU
  clear hU
  obtain ⟨i0, hi, hz0, hz1, hz2⟩ := info_parts info_u8
  have HHI : Hid (Tryd.prog.info? 5 = some i0 ∧ i0.zero = some (.int .u8 0) ∧ i0.size = 1 ∧ i0.bytes = 1) := ⟨hi, hz0, hz1, hz2⟩
  clear hi hz0 hz1 hz2
  go_enter Tryd.func30, Tryd.ntmps30
  go_wp2
  go_loopw [7, 8] (fun v i wr => ∃ (p f : Nat) (acc : List UInt8), i = .int .i64 p ∧ n + 1 ≤ p ∧ p ≤ s.size ∧ s.size - p < f ∧ acc.length ≤ p ∧ wr.ownsRow w.heap.size 5 1 v acc.length (Lib.byteCells acc) ∧ Below w.heap.size w wr ∧ unqAt f s.data.toList p acc = U)
    (fun _ i _ => s.size - (intOf i).toNat)
  case atStart => exact ⟨n + 1, s.size - n, [], by go_num, by omega, by omega, by omega, by simp, World.ownsRow_made w #[] 0 (Nat.le_refl _) (by unfold maxLen; omega) rfl, (Below.refl _ _).alloc (Nat.le_refl _) _, HU.out⟩
  case round =>
    obtain ⟨p, f, acc, rfl, hp1, hp2, hf, hacc, hown, hbel, hrel⟩ := hrel
    have HR : Hid (unqAt f s.data.toList p acc = U) := hrel
    obtain ⟨ao, cap, hvs⟩ := own_slice2 hown
    subst hvs
    have OWN := hid hown
    have HB := hid hbel
    clear hrel hown hbel
    by_cases hlt : p < s.size
    · obtain ⟨f, rfl⟩ : ∃ f', f = f' + 1 := ⟨f - 1, by omega⟩
      have hl : p < s.data.toList.length := by rw [len_size]; exact hlt
      by_cases c1 : s[p].toNat = 34
      · have c1' : ((s[p].toNat : Int) == 34) = true := by rw [beq_iff_eq]; omega
        have HE : Hid (U = some (acc, p + 1)) := by
          show _ = _; rw [← HR.out]; exact unqAt_quote f _ p acc hl (by rw [get_eq s p hlt]; exact c1)
        have hconv := conv_row wr w.heap.size _ acc OWN.out
        clear c1
        go_wp2
        go_ret3
        exact ⟨by rw [HE.out]; rfl, HB.out⟩
      · have c1' : ((s[p].toNat : Int) == 34) = false := by rw [beq_eq_false_iff_ne]; omega
        by_cases c2 : s[p].toNat = 92
        · have c2' : ((s[p].toNat : Int) != 92) = false := by simp; omega
          have HBR : Hid (bare (s[p].toNat : Int) = false) := by show _ = _; unfold bare; simp; omega
          by_cases c3 : p + 2 < s.size
          · have hx1 := hexv_le (s[p + 1].toNat : Int)
            have hx2 := hexv_le (s[p + 2].toNat : Int)
            have b1 := byte_bd s[p + 1]
            have b2 := byte_bd s[p + 2]
            have HT := hid (tb_hex s.data.toList p (by rw [len_size]; exact c3) (by rw [get_eq s p hlt]; exact c2))
            have i1 : (p : Int) + 1 < s.size := by omega
            have i2 : (p : Int) + 2 < s.size := by omega
            have HC1 := hid c1
            clear c1 c2
            by_cases d1 : hexv (s[p + 1].toNat : Int) < 0
            · have HE : Hid (U = none) := by
                show _ = _; rw [← HR.out]; exact unqAt_bad f _ p acc hl (by rw [get_eq s p hlt]; exact HC1.out) (by rw [HT.out]; exact if_pos (.inl d1))
              clear HT
              go_wp2_with (first
                | (go_at_call 53; refine (l10Bare_any _ _).mono ?_; rintro e w' ⟨rfl, hw⟩; have hw2 := hw.symm; clear hw; subst hw2; rw [HBR.out])
                | (go_at_call 54; refine (l10Hex_any _ _ (by omega) (by omega)).mono ?_; rintro e w' ⟨rfl, hw⟩; have hw2 := hw.symm; clear hw; subst hw2))
              go_ret3
              exact ⟨by rw [HE.out]; rfl, HB.out⟩
            · have d1' : 0 ≤ hexv (s[p + 1].toNat : Int) := by omega
              by_cases d2 : hexv (s[p + 2].toNat : Int) < 0
              · have HE : Hid (U = none) := by
                  show _ = _; rw [← HR.out]; exact unqAt_bad f _ p acc hl (by rw [get_eq s p hlt]; exact HC1.out) (by rw [HT.out]; exact if_pos (.inr d2))
                clear HT
                go_wp2_with (first
                | (go_at_call 53; refine (l10Bare_any _ _).mono ?_; rintro e w' ⟨rfl, hw⟩; have hw2 := hw.symm; clear hw; subst hw2; rw [HBR.out])
                | (go_at_call 54; refine (l10Hex_any _ _ (by omega) (by omega)).mono ?_; rintro e w' ⟨rfl, hw⟩; have hw2 := hw.symm; clear hw; subst hw2))
                go_ret3
                exact ⟨by rw [HE.out]; rfl, HB.out⟩
              · have d2' : 0 ≤ hexv (s[p + 2].toNat : Int) := by omega
                have NEXT : Hid (unqAt f s.data.toList (p + 3) (acc ++ [(hexv s[p + 1].toNat * 16 + hexv s[p + 2].toNat).toNat.toUInt8]) = U) := by
                  show _ = _; rw [← HR.out]
                  exact (unqAt_go f _ p acc hl (by rw [get_eq s p hlt]; exact HC1.out) (by rw [HT.out]; exact if_neg (by rintro (h | h); exact d1 h; exact d2 h))).symm
                have HBY := hid (hex_byte (hexv s[p + 1].toNat) (hexv s[p + 2].toNat) (by omega) (by omega))
                have HNX : Hid (∀ v' w1, World.ownsRow w1 w.heap.size 5 1 v' (acc.length + 1) (Lib.byteCells acc ++ [.int .u8 (16 * hexv s[p + 1].toNat + hexv s[p + 2].toNat)]) → World.ownsRow w1 w.heap.size 5 1 v' (acc ++ [(hexv s[p + 1].toNat * 16 + hexv s[p + 2].toNat).toNat.toUInt8]).length (Lib.byteCells (acc ++ [(hexv s[p + 1].toNat * 16 + hexv s[p + 2].toNat).toNat.toUInt8]))) := fun v' w1 hown' => by
                  have e : Lib.byteCells (acc ++ [(hexv s[p + 1].toNat * 16 + hexv s[p + 2].toNat).toNat.toUInt8]) = Lib.byteCells acc ++ [.int .u8 (16 * hexv s[p + 1].toNat + hexv s[p + 2].toNat)] := by
                    rw [Lib.byteCells_append]; simp only [Lib.byteCells, List.map_cons, List.map_nil]; rw [HBY.out, Int.mul_comm]
                  rw [e, List.length_append]; exact hown'
                clear HT d1 d2
                go_wp2_with (first
                  | (go_at_call 53; refine (l10Bare_any _ _).mono ?_; rintro e w' ⟨rfl, hw⟩; have hw2 := hw.symm; clear hw; subst hw2; rw [HBR.out])
                  | (go_at_call 54; refine (l10Hex_any _ _ (by omega) (by omega)).mono ?_; rintro e w' ⟨rfl, hw⟩; have hw2 := hw.symm; clear hw; subst hw2))
                have HENT := hid (enters_of (P := Tryd.prog) Tryd.func54 (by kernel_rfl) rfl)
                have ht1 : ((p : Int) + 1).toNat = p + 1 := by omega
                have ht2 : ((p : Int) + 2).toNat = p + 2 := by omega
                have hwr1 : IntKind.i64.wrap ((p : Int) + 1) = ((p + 1 : Nat) : Int) := by rw [IntKind.wrap_i64]; omega
                have hwr2 : IntKind.i64.wrap ((p : Int) + 2) = ((p + 2 : Nat) : Int) := by rw [IntKind.wrap_i64]; omega
                have hwi1 : ((p + 1 : Nat) : Int) < s.size := by omega
                have hwi2 : ((p + 2 : Nat) : Int) < s.size := by omega
                have hwr3 : IntKind.i64.wrap (16 * hexv (s[p + 1].toNat : Int)) = 16 * hexv (s[p + 1].toNat : Int) := by rw [IntKind.wrap_i64]; omega
                have hwr4 : IntKind.i64.wrap (16 * hexv (s[p + 1].toNat : Int) + hexv (s[p + 2].toNat : Int)) = 16 * hexv (s[p + 1].toNat : Int) + hexv (s[p + 2].toNat : Int) := by rw [IntKind.wrap_i64]; omega
                have hwr5 : IntKind.u8.wrap (16 * hexv (s[p + 1].toNat : Int) + hexv (s[p + 2].toNat : Int)) = 16 * hexv (s[p + 1].toNat : Int) + hexv (s[p + 2].toNat : Int) := by rw [IntKind.wrap_u8]; omega
                go_region_law (first
                  | (refine step_call1 rfl 54 (.tmp 68) 5 rfl HENT.out (.int .u8 s[p + 1].toNat) (by simp [Act.eval, Act.put]) (l10Hex_any _ _ (by omega) (by omega)) ?_; rintro e w' ⟨rfl, hw⟩; have hw2 := hw.symm; clear hw; subst hw2; refine ⟨_, rfl, ?_⟩)
                  | (refine step_call1 rfl 54 (.tmp 74) 5 rfl HENT.out (.int .u8 s[p + 2].toNat) (by simp [Act.eval, Act.put]) (l10Hex_any _ _ (by omega) (by omega)) ?_; rintro e w' ⟨rfl, hw⟩; have hw2 := hw.symm; clear hw; subst hw2; refine ⟨_, rfl, ?_⟩)
                  | (refine step_append_own_at rfl (.tmp 64) (.tmp 78) 68 rfl w.heap.size 5 i0 (.int .u8 0) 1 1 Tryd.underlying68 HHI.out.1 HHI.out.2.1 HHI.out.2.2.1 HHI.out.2.2.2 rfl (by decide) (.slice ao acc.length cap) acc.length (Lib.byteCells acc) (by simp [Act.eval]) (OWN.out.drew.alloc _) ⟨wr.heap.size, 0, none⟩ 1 1 [.int .u8 (16 * hexv s[p + 1].toNat + hexv s[p + 2].toNat)] (by simp [Act.eval]) rfl (cell_one_new _ _ _) (by simp [Value.oneCell']) (by unfold maxLen; omega) (by omega) (by have := HB.out.size; simp; omega) ?_; intro v' w1 hown' hgrow _ _; have R := hid (row_below OWN.out.drew HB.out.drew (Nat.le_refl _) hgrow); have R2 := hid (HNX.out v' w1 hown'); clear hown' hgrow))
                all_goals
                  go_wp2
                  go_roundw
                  case rel => exact ⟨p + 3, f, acc ++ [(hexv s[p + 1].toNat * 16 + hexv s[p + 2].toNat).toNat.toUInt8], by go_num, by omega, by omega, by omega, by simp; omega, R2.out, R.out, NEXT.out⟩
                  case measure => simp [intOf]; omega
          · have HE : Hid (U = none) := by
              show _ = _; rw [← HR.out]; exact unqAt_bad f _ p acc hl (by rw [get_eq s p hlt]; exact c1) (tb_short _ p hl (by rw [get_eq s p hlt]; exact c2) (by rw [len_size]; omega))
            have c3' : (s.size : Int) ≤ (p : Int) + 2 := by omega
            clear c1 c2
            go_wp2_with (go_at_call 53; refine (l10Bare_any _ _).mono ?_; rintro e w' ⟨rfl, hw⟩; have hw2 := hw.symm; clear hw; subst hw2; rw [HBR.out])
            go_ret3
            exact ⟨by rw [HE.out]; rfl, HB.out⟩
        · have c2' : ((s[p].toNat : Int) != 92) = true := by simp; omega
          by_cases c3 : s[p].toNat < 32 ∨ 126 < s[p].toNat
          · have HE : Hid (U = none) := by
              show _ = _; rw [← HR.out]; exact unqAt_bad f _ p acc hl (by rw [get_eq s p hlt]; exact c1) (tb_low _ p hl (by rw [get_eq s p hlt]; exact c3))
            have HBR : Hid (bare (s[p].toNat : Int) = false) := by show _ = _; unfold bare; simp; omega
            clear c1 c2 c3
            go_wp2_with (go_at_call 53; refine (l10Bare_any _ _).mono ?_; rintro e w' ⟨rfl, hw⟩; have hw2 := hw.symm; clear hw; subst hw2; rw [HBR.out])
            go_ret3
            exact ⟨by rw [HE.out]; rfl, HB.out⟩
          · have HBR : Hid (bare (s[p].toNat : Int) = true) := by show _ = _; unfold bare; simp; omega
            have NEXT : Hid (unqAt f s.data.toList (p + 1) (acc ++ [s[p]]) = U) := by
              show _ = _; rw [← HR.out]
              exact (unqAt_go f _ p acc hl (by rw [get_eq s p hlt]; exact c1) (tb_plain _ p hl (by rw [get_eq s p hlt]; omega) (by rw [get_eq s p hlt]; omega) (by rw [get_eq s p hlt]; exact c2))).symm
            clear c1 c2 c3
            go_wp2_with (first
          | (go_at_call 53; refine (l10Bare_any _ _).mono ?_; rintro e w' ⟨rfl, hw⟩; have hw2 := hw.symm; clear hw; subst hw2; rw [HBR.out])
          | (at_builtin; refine wpList_append_own _ rfl (.tmp 28) (.tmp 32) 68 rfl w.heap.size 5 i0 (.int .u8 0) 1 1 Tryd.underlying68 HHI.out.1 HHI.out.2.1 HHI.out.2.2.1 HHI.out.2.2.2 rfl (by decide) _ _ _ rfl (OWN.out.alloc _) ⟨wr.heap.size, 0, none⟩ 1 1 [.int .u8 s[p].toNat] rfl rfl (cell_one_new _ _ _) (by simp [Value.oneCell']) (by unfold maxLen; omega) (by omega) (by have := HB.out.size; simp; omega) ?_; intro v' w1 hown' hgrow _))
            have R := hid (row_below OWN.out HB.out (Nat.le_refl _) hgrow)
            have R2 : Hid (w1.ownsRow w.heap.size 5 1 v' (acc ++ [s[p]]).length (Lib.byteCells (acc ++ [s[p]]))) := by
              show World.ownsRow _ _ _ _ _ _ _
              simpa [Lib.byteCells] using hown'
            clear hown' hgrow
            go_wp2
            go_roundw
            case rel => exact ⟨p + 1, f, acc ++ [s[p]], by go_num, by omega, by omega, by omega, by simp; omega, R2.out, R.out, NEXT.out⟩
            case measure => simp [intOf]; omega
    · have HE : Hid (U = none) := by
        show _ = _; rw [← HR.out]; exact unqAt_end f _ p acc (by rw [len_size]; omega)
      go_wp2
      go_ret3
      exact ⟨by rw [HE.out]; rfl, HB.out⟩
end Go.Proofs.YtdhcjmlcpnljiaaDoor
