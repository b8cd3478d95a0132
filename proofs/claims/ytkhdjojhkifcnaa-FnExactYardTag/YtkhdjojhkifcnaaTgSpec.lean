import Derived.Test.YtkhdjojhkifcnaaTgImp
/-! The model's tag. -/
namespace Go.Proofs.Ytkhdjojhkifcnaa.Y
open Go.RowKit J
set_option maxRecDepth 20000
theorem key_size (k b : ByteArray) : (k ++ ⟨#[0]⟩ ++ b : ByteArray).size = k.size + 1 + b.size := by
  simp only [ByteArray.size_append]
  rfl
theorem key_list (k b : ByteArray) : (k ++ ⟨#[0]⟩ ++ b : ByteArray).data.toList = k.data.toList ++ [0] ++ b.data.toList := by
  simp
set_option maxHeartbeats 4000000 in
theorem specTag_any (b k : ByteArray) (w : World) (hb : b.size ≤ 1048576) : Calls Try.prog 4 #[.string b, .string k] w fun e w' => e = .returned (.string ⟨(tagOf b k).toArray⟩) ∧ Below w.heap.size w w' := by
  obtain ⟨i0, hi, hz0, hz1, hz2⟩ := info_parts (P := Try.prog) (e := 5) (z := .int .u8 0) (size := 1) (bytes := 1) (by kernel_rfl)
  have HHI := hid (And.intro hi (And.intro hz0 (And.intro hz1 hz2)))
  clear hi hz0 hz1 hz2
  go_enter Try.func4, Try.ntmps4
  by_cases hk : k.size ≤ 30
  · have HT : Hid (tagL (sumL 14695981039346656037 (k ++ ⟨#[0]⟩ ++ b : ByteArray).data.toList) = tagOf b k) := by
      show _ = _
      rw [tagOf, if_pos hk, key_list]
    obtain ⟨s, hs⟩ : ∃ s, (k ++ ⟨#[0]⟩ ++ b : ByteArray) = s := ⟨_, rfl⟩
    have hsz := key_size k b
    rw [hs] at HT hsz
    have HS := hid (sum_succ 14695981039346656037 s)
    have HA := hid (sum_all 14695981039346656037 s)
    have h1 : ¬ (9223372036854775807 < k.size + 1) := by omega
    have h2 : ¬ (9223372036854775807 < k.size + 1 + b.size) := by omega
    go_wp2
    go_loopw [6, 7] (fun x c wr => ∃ j : Nat, j ≤ s.size ∧ c = .int .i64 j ∧ x = .int .u64 (sumL 14695981039346656037 (s.data.toList.take j)) ∧ wr = w) (fun _ c _ => s.size - (intOf c).toNat)
    case atStart => exact ⟨0, Nat.zero_le _, rfl, rfl, rfl⟩
    obtain ⟨j, hj, rfl, rfl, hw⟩ := hrel
    have hw2 := hw.symm
    subst hw2
    by_cases hlt : j < s.size
    · have HJ := hid (HS.out j hlt)
      obtain ⟨V, hV⟩ : ∃ V, sumL 14695981039346656037 (s.data.toList.take j) = V := ⟨_, rfl⟩
      rw [hV] at HJ ⊢
      clear hV
      go_wp2
      go_roundw
      case rel => exact ⟨j + 1, by omega, by go_num, by rw [HJ.out]; rfl, trivial⟩
      case measure => simp [intOf]; omega
    obtain rfl : j = s.size := by omega
    rw [HA.out]
    obtain ⟨V, hV⟩ : ∃ V, sumL 14695981039346656037 s.data.toList = V := ⟨_, rfl⟩
    rw [hV] at HT ⊢
    clear hV HS HA hs hsz h1 h2
    have HST : Hid ((w.alloc (.cells #[] 5)).ownsRow w.heap.size 5 1 (.slice (some ⟨w.heap.size, 0, none⟩) 0 0) 0 (Lib.byteCells ((tagL V).take 0))) :=
      ⟨rfl, .inr ⟨w.heap.size, 0, #[], rfl, Nat.le_refl _, heap_alloc_new w _, Nat.le_refl _, by unfold maxLen; omega, rfl, rfl⟩⟩
    go_wp2
    go_loopw [8, 9] (fun v c wr => ∃ j : Nat, j ≤ 8 ∧ c = .int .i64 (7 - (j : Int)) ∧ wr.ownsRow w.heap.size 5 1 v j (Lib.byteCells ((tagL V).take j)) ∧ Below w.heap.size w wr) (fun _ c _ => ((intOf c) + 1).toNat)
    case atStart => exact ⟨0, Nat.zero_le _, rfl, HST.out, (Below.refl _ _).alloc (Nat.le_refl _) _⟩
    case round =>
      obtain ⟨j, hj, rfl, hown, hbel⟩ := hrel
      have OWN := hid hown
      have HB := hid hbel
      have hz := hbel.size
      clear hown hbel
      obtain ⟨ao, cap, rfl⟩ := own_slice' OWN.out
      obtain rfl | hlt : j = 8 ∨ j < 8 := by omega
      · have e : (7 : Int) - ((8 : Nat) : Int) = -1 := by decide
        rw [e]
        have hcv := conv_row wr w.heap.size _ (tagL V) OWN.out
        go_wp2
        go_ret
        exact ⟨by rw [← HT.out]; rfl, HB.out⟩
      obtain rfl | rfl | rfl | rfl | rfl | rfl | rfl | rfl : j = 0 ∨ j = 1 ∨ j = 2 ∨ j = 3 ∨ j = 4 ∨ j = 5 ∨ j = 6 ∨ j = 7 := by omega
      · have e : (7 : Int) - ((0 : Nat) : Int) = 7 := by decide
        rw [e]
        go_wp2_with (at_builtin; refine wpList_append_own _ rfl (.tmp 35) (.tmp 42) 25 rfl w.heap.size 5 i0 (.int .u8 0) 1 1 Try.underlying25 HHI.out.1 HHI.out.2.1 HHI.out.2.2.1 HHI.out.2.2.2 rfl (by decide) _ _ _ rfl (OWN.out.alloc _) ⟨wr.heap.size, 0, none⟩ 1 1 [.int .u8 (byt V 7).toNat] rfl rfl ?c1 ?c2 ?c3 ?c4 ?c5 ?_)
        case c1 =>
          intro j u hj
          match j, hj with
          | 0, hj => simp at hj; subst hj; simp [Addr.add, byt_val]
        case c2 => intro u hu; simp at hu; subst hu; rfl
        case c3 => unfold maxLen; omega
        case c4 => omega
        case c5 => simp; omega
        intro v' w1 hown' hgrow _
        have HO1 : Hid (w1.ownsRow w.heap.size 5 1 v' 1 (Lib.byteCells ((tagL V).take 1))) := hown'
        have HB1 := hid ((HB.out.alloc hz _).grown hgrow (by simp; omega) (fun k e => (OWN.out.lt k e).1))
        obtain ⟨a1, c1, rfl⟩ := own_slice' HO1.out
        clear hown' hgrow
        go_wp2
        go_roundw
        case rel => exact ⟨1, by omega, by go_num, HO1.out, HB1.out⟩
        case measure => simp [intOf]
      · have e : (7 : Int) - ((1 : Nat) : Int) = 6 := by decide
        rw [e]
        go_wp2_with (at_builtin; refine wpList_append_own _ rfl (.tmp 35) (.tmp 42) 25 rfl w.heap.size 5 i0 (.int .u8 0) 1 1 Try.underlying25 HHI.out.1 HHI.out.2.1 HHI.out.2.2.1 HHI.out.2.2.2 rfl (by decide) _ _ _ rfl (OWN.out.alloc _) ⟨wr.heap.size, 0, none⟩ 1 1 [.int .u8 (byt V 6).toNat] rfl rfl ?c1 ?c2 ?c3 ?c4 ?c5 ?_)
        case c1 =>
          intro j u hj
          match j, hj with
          | 0, hj => simp at hj; subst hj; simp [Addr.add, byt_val]
        case c2 => intro u hu; simp at hu; subst hu; rfl
        case c3 => unfold maxLen; omega
        case c4 => omega
        case c5 => simp; omega
        intro v' w1 hown' hgrow _
        have HO1 : Hid (w1.ownsRow w.heap.size 5 1 v' 2 (Lib.byteCells ((tagL V).take 2))) := hown'
        have HB1 := hid ((HB.out.alloc hz _).grown hgrow (by simp; omega) (fun k e => (OWN.out.lt k e).1))
        obtain ⟨a1, c1, rfl⟩ := own_slice' HO1.out
        clear hown' hgrow
        go_wp2
        go_roundw
        case rel => exact ⟨2, by omega, by go_num, HO1.out, HB1.out⟩
        case measure => simp [intOf]
      · have e : (7 : Int) - ((2 : Nat) : Int) = 5 := by decide
        rw [e]
        go_wp2_with (at_builtin; refine wpList_append_own _ rfl (.tmp 35) (.tmp 42) 25 rfl w.heap.size 5 i0 (.int .u8 0) 1 1 Try.underlying25 HHI.out.1 HHI.out.2.1 HHI.out.2.2.1 HHI.out.2.2.2 rfl (by decide) _ _ _ rfl (OWN.out.alloc _) ⟨wr.heap.size, 0, none⟩ 1 1 [.int .u8 (byt V 5).toNat] rfl rfl ?c1 ?c2 ?c3 ?c4 ?c5 ?_)
        case c1 =>
          intro j u hj
          match j, hj with
          | 0, hj => simp at hj; subst hj; simp [Addr.add, byt_val]
        case c2 => intro u hu; simp at hu; subst hu; rfl
        case c3 => unfold maxLen; omega
        case c4 => omega
        case c5 => simp; omega
        intro v' w1 hown' hgrow _
        have HO1 : Hid (w1.ownsRow w.heap.size 5 1 v' 3 (Lib.byteCells ((tagL V).take 3))) := hown'
        have HB1 := hid ((HB.out.alloc hz _).grown hgrow (by simp; omega) (fun k e => (OWN.out.lt k e).1))
        obtain ⟨a1, c1, rfl⟩ := own_slice' HO1.out
        clear hown' hgrow
        go_wp2
        go_roundw
        case rel => exact ⟨3, by omega, by go_num, HO1.out, HB1.out⟩
        case measure => simp [intOf]
      · have e : (7 : Int) - ((3 : Nat) : Int) = 4 := by decide
        rw [e]
        go_wp2_with (at_builtin; refine wpList_append_own _ rfl (.tmp 35) (.tmp 42) 25 rfl w.heap.size 5 i0 (.int .u8 0) 1 1 Try.underlying25 HHI.out.1 HHI.out.2.1 HHI.out.2.2.1 HHI.out.2.2.2 rfl (by decide) _ _ _ rfl (OWN.out.alloc _) ⟨wr.heap.size, 0, none⟩ 1 1 [.int .u8 (byt V 4).toNat] rfl rfl ?c1 ?c2 ?c3 ?c4 ?c5 ?_)
        case c1 =>
          intro j u hj
          match j, hj with
          | 0, hj => simp at hj; subst hj; simp [Addr.add, byt_val]
        case c2 => intro u hu; simp at hu; subst hu; rfl
        case c3 => unfold maxLen; omega
        case c4 => omega
        case c5 => simp; omega
        intro v' w1 hown' hgrow _
        have HO1 : Hid (w1.ownsRow w.heap.size 5 1 v' 4 (Lib.byteCells ((tagL V).take 4))) := hown'
        have HB1 := hid ((HB.out.alloc hz _).grown hgrow (by simp; omega) (fun k e => (OWN.out.lt k e).1))
        obtain ⟨a1, c1, rfl⟩ := own_slice' HO1.out
        clear hown' hgrow
        go_wp2
        go_roundw
        case rel => exact ⟨4, by omega, by go_num, HO1.out, HB1.out⟩
        case measure => simp [intOf]
      · have e : (7 : Int) - ((4 : Nat) : Int) = 3 := by decide
        rw [e]
        go_wp2_with (at_builtin; refine wpList_append_own _ rfl (.tmp 35) (.tmp 42) 25 rfl w.heap.size 5 i0 (.int .u8 0) 1 1 Try.underlying25 HHI.out.1 HHI.out.2.1 HHI.out.2.2.1 HHI.out.2.2.2 rfl (by decide) _ _ _ rfl (OWN.out.alloc _) ⟨wr.heap.size, 0, none⟩ 1 1 [.int .u8 (byt V 3).toNat] rfl rfl ?c1 ?c2 ?c3 ?c4 ?c5 ?_)
        case c1 =>
          intro j u hj
          match j, hj with
          | 0, hj => simp at hj; subst hj; simp [Addr.add, byt_val]
        case c2 => intro u hu; simp at hu; subst hu; rfl
        case c3 => unfold maxLen; omega
        case c4 => omega
        case c5 => simp; omega
        intro v' w1 hown' hgrow _
        have HO1 : Hid (w1.ownsRow w.heap.size 5 1 v' 5 (Lib.byteCells ((tagL V).take 5))) := hown'
        have HB1 := hid ((HB.out.alloc hz _).grown hgrow (by simp; omega) (fun k e => (OWN.out.lt k e).1))
        obtain ⟨a1, c1, rfl⟩ := own_slice' HO1.out
        clear hown' hgrow
        go_wp2
        go_roundw
        case rel => exact ⟨5, by omega, by go_num, HO1.out, HB1.out⟩
        case measure => simp [intOf]
      · have e : (7 : Int) - ((5 : Nat) : Int) = 2 := by decide
        rw [e]
        go_wp2_with (at_builtin; refine wpList_append_own _ rfl (.tmp 35) (.tmp 42) 25 rfl w.heap.size 5 i0 (.int .u8 0) 1 1 Try.underlying25 HHI.out.1 HHI.out.2.1 HHI.out.2.2.1 HHI.out.2.2.2 rfl (by decide) _ _ _ rfl (OWN.out.alloc _) ⟨wr.heap.size, 0, none⟩ 1 1 [.int .u8 (byt V 2).toNat] rfl rfl ?c1 ?c2 ?c3 ?c4 ?c5 ?_)
        case c1 =>
          intro j u hj
          match j, hj with
          | 0, hj => simp at hj; subst hj; simp [Addr.add, byt_val]
        case c2 => intro u hu; simp at hu; subst hu; rfl
        case c3 => unfold maxLen; omega
        case c4 => omega
        case c5 => simp; omega
        intro v' w1 hown' hgrow _
        have HO1 : Hid (w1.ownsRow w.heap.size 5 1 v' 6 (Lib.byteCells ((tagL V).take 6))) := hown'
        have HB1 := hid ((HB.out.alloc hz _).grown hgrow (by simp; omega) (fun k e => (OWN.out.lt k e).1))
        obtain ⟨a1, c1, rfl⟩ := own_slice' HO1.out
        clear hown' hgrow
        go_wp2
        go_roundw
        case rel => exact ⟨6, by omega, by go_num, HO1.out, HB1.out⟩
        case measure => simp [intOf]
      · have e : (7 : Int) - ((6 : Nat) : Int) = 1 := by decide
        rw [e]
        go_wp2_with (at_builtin; refine wpList_append_own _ rfl (.tmp 35) (.tmp 42) 25 rfl w.heap.size 5 i0 (.int .u8 0) 1 1 Try.underlying25 HHI.out.1 HHI.out.2.1 HHI.out.2.2.1 HHI.out.2.2.2 rfl (by decide) _ _ _ rfl (OWN.out.alloc _) ⟨wr.heap.size, 0, none⟩ 1 1 [.int .u8 (byt V 1).toNat] rfl rfl ?c1 ?c2 ?c3 ?c4 ?c5 ?_)
        case c1 =>
          intro j u hj
          match j, hj with
          | 0, hj => simp at hj; subst hj; simp [Addr.add, byt_val]
        case c2 => intro u hu; simp at hu; subst hu; rfl
        case c3 => unfold maxLen; omega
        case c4 => omega
        case c5 => simp; omega
        intro v' w1 hown' hgrow _
        have HO1 : Hid (w1.ownsRow w.heap.size 5 1 v' 7 (Lib.byteCells ((tagL V).take 7))) := hown'
        have HB1 := hid ((HB.out.alloc hz _).grown hgrow (by simp; omega) (fun k e => (OWN.out.lt k e).1))
        obtain ⟨a1, c1, rfl⟩ := own_slice' HO1.out
        clear hown' hgrow
        go_wp2
        go_roundw
        case rel => exact ⟨7, by omega, by go_num, HO1.out, HB1.out⟩
        case measure => simp [intOf]
      · have e : (7 : Int) - ((7 : Nat) : Int) = 0 := by decide
        rw [e]
        go_wp2_with (at_builtin; refine wpList_append_own _ rfl (.tmp 35) (.tmp 42) 25 rfl w.heap.size 5 i0 (.int .u8 0) 1 1 Try.underlying25 HHI.out.1 HHI.out.2.1 HHI.out.2.2.1 HHI.out.2.2.2 rfl (by decide) _ _ _ rfl (OWN.out.alloc _) ⟨wr.heap.size, 0, none⟩ 1 1 [.int .u8 (byt V 0).toNat] rfl rfl ?c1 ?c2 ?c3 ?c4 ?c5 ?_)
        case c1 =>
          intro j u hj
          match j, hj with
          | 0, hj => simp at hj; subst hj; simp [Addr.add, byt_val]
        case c2 => intro u hu; simp at hu; subst hu; rfl
        case c3 => unfold maxLen; omega
        case c4 => omega
        case c5 => simp; omega
        intro v' w1 hown' hgrow _
        have HO1 : Hid (w1.ownsRow w.heap.size 5 1 v' 8 (Lib.byteCells ((tagL V).take 8))) := hown'
        have HB1 := hid ((HB.out.alloc hz _).grown hgrow (by simp; omega) (fun k e => (OWN.out.lt k e).1))
        obtain ⟨a1, c1, rfl⟩ := own_slice' HO1.out
        clear hown' hgrow
        go_wp2
        go_roundw
        case rel => exact ⟨8, by omega, by go_num, HO1.out, HB1.out⟩
        case measure => simp [intOf]
  · have HT : Hid (tagOf b k = []) := if_neg hk
    go_wp2
    go_ret
    exact ⟨by rw [HT.out]; rfl, Below.refl _ _⟩
end Go.Proofs.Ytkhdjojhkifcnaa.Y
