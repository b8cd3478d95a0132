import Derived.Test.YtmmgpbjmegfffaaDoorVDrA
import Derived.OwnWalk
import Derived.Lib.Slices
import Derived.Lib.Strings
import Derived.Lib.BufferRead
/-! Draws: texts, numbers. -/
namespace Go.Proofs.YtmmgpbjmegfffaaDoor.V
open Go.RowKit Go.Shelf
set_option maxRecDepth 20000
theorem own_sv {w w1 : World} {R B e size k : Nat} {v : Value} {xs : List Value} (h : w.ownsRow B e size v k xs) (hb : Sv (fun k => k = R) w w1) (hR : R < B) : w1.ownsRow B e size v k xs := by
  obtain ⟨h1, h2 | ⟨g, cap, cur, a, b, c, d⟩⟩ := h
  · exact ⟨h1, .inl h2⟩
  · refine ⟨h1, .inr ⟨g, cap, cur, a, b, ?_, d⟩⟩
    have hg : g < w.heap.size := (Array.getElem?_eq_some_iff.1 c).1
    rw [hb.block g hg (by omega)]; exact c
theorem own_slice' {w : World} {B e size k : Nat} {v : Value} {xs : List Value} (h : w.ownsRow B e size v k xs) : ∃ a cap, v = .slice a k cap := by
  rcases h.2 with ⟨hv, h0⟩ | ⟨g, cap, cur, hv, _⟩
  · exact ⟨none, 0, by rw [hv, h0]⟩
  · exact ⟨_, _, hv⟩
theorem At.grown {R b B : Nat} {w W W2 : World} {row : Option Nat} (h : At R w b W) (hg : W.grownBy W2 row) (hr : ∀ k, row = some k → B ≤ k) (hR : R < B) (hB : w.heap.size ≤ B) (hBW : B ≤ W.heap.size) : At R w b W2 := by
  have hb : Below B W W2 := (Below.refl B W).grown hg hBW hr
  obtain ⟨q, h1, h2, h3⟩ := h
  obtain ⟨ad, n, cap, e1, e2, e3⟩ := h2
  refine ⟨q, h1, ⟨ad, n, cap, (hb.block R hR).trans e1, e2, ?_⟩, ⟨hb.os.trans h3.os, hb.tape.trans h3.tape, hb.output.trans h3.output, Nat.le_trans h3.size hb.size, fun k hk hs => (hb.block k (by omega)).trans (h3.block k hk hs)⟩⟩
  rcases e3 with e3 | ⟨a, f1, f2, f3⟩
  · exact .inl e3
  · refine .inr ⟨a, f1, f2, fun j hj => ?_⟩
    obtain ⟨x, hx⟩ := f3 j hj
    exact ⟨x, (hb.cell (p := a.add j) (by rw [add_block]; omega)).trans hx⟩
theorem conv_row (w : World) (base : Nat) (v : Value) (l : List UInt8) (h : w.ownsRow base 5 1 v l.length (Lib.byteCells l)) :
    (convert 31 9 v).run Tryd.prog w = .ok (.string ⟨l.toArray⟩) w := by
  obtain ⟨_, ⟨rfl, h0⟩ | ⟨g, cap, cur, rfl, _, hg, _, _, _, htk⟩⟩ := h
  · have e : l = [] := List.eq_nil_of_length_eq_zero h0
    subst e
    exact Lib.run_convert_nil_bytes w _ _ 5 0 Tryd.underlying31 Tryd.underlying5 Tryd.underlying9
  · exact run_convert_bytes_back w _ _ 5 _ cap l Tryd.underlying31 Tryd.underlying5 Tryd.underlying9 (Lib.bytes_of_row hg (by rw [Nat.mul_one] at htk; exact htk))
set_option maxHeartbeats 4000000 in
theorem text_at {R b : Nat} {w W : World} (h : At R w b W) (hb : b ≤ 800000) :
    Calls Tryd.prog 60 #[.pointer (some ⟨R, 0, none⟩)] W fun e w' => ∃ s : ByteArray, e = .returned (.string s) ∧ At R w (b + 10) w' := by
  have HA := hid h
  have HR := hid h.lt
  have HZ := hid h.size
  clear h
  obtain ⟨i0, hi, hz0, hz1, hz2⟩ := info_parts (P := Tryd.prog) (e := 5) (z := .int .u8 0) (size := 1) (bytes := 1) (by kernel_rfl)
  have HHI := hid (And.intro hi (And.intro hz0 (And.intro hz1 hz2)))
  clear hi hz0 hz1 hz2
  go_enter Tryd.func60, Tryd.ntmps60
  go_wp2_with fail
  refine (pick_at HA.out (by omega) 12 (by omega)).mono ?_
  rintro e w1 ⟨x, rfl, hx, a1, s1⟩
  have HA1 := hid a1
  have HZ1 := hid s1.size
  clear a1 s1
  by_cases h6 : x ≤ 6
  · obtain rfl | rfl | rfl | rfl | rfl | rfl | rfl : x = 0 ∨ x = 1 ∨ x = 2 ∨ x = 3 ∨ x = 4 ∨ x = 5 ∨ x = 6 := by omega
    iterate 6
      · go_wp2
        go_ret
        exact ⟨_, rfl, HA1.out.mono (by omega)⟩
    · go_wp2_with fail
      refine (path_at HA1.out (by omega)).mono ?_
      rintro e w2 ⟨s, rfl, a2⟩
      have HA2 := hid a2
      clear a2
      go_wp2
      go_ret
      exact ⟨s, rfl, HA2.out.mono (by omega)⟩
  · have n0 : ¬ x = 0 := by omega
    have n1 : ¬ x = 1 := by omega
    have n2 : ¬ x = 2 := by omega
    have n3 : ¬ x = 3 := by omega
    have n4 : ¬ x = 4 := by omega
    have n5 : ¬ x = 5 := by omega
    have n6 : ¬ x = 6 := by omega
    go_wp2_with fail
    refine (pick_at HA1.out (by omega) 5 (by omega)).mono ?_
    rintro e w2 ⟨y, rfl, hy, a2, s2⟩
    have HA2 := hid a2
    have HZ2 := hid (Nat.le_trans HZ1.out s2.size)
    have hy4 : y ≤ 4 := by omega
    clear a2 s2 hy n0 n1 n2 n3 n4 n5 n6 h6 hx
    have HST : Hid ((w2.alloc (.cells #[] 5)).ownsRow W.heap.size 5 1 (.slice (some ⟨w2.heap.size, 0, none⟩) 0 0) 0 (Lib.byteCells [])) :=
      ⟨rfl, .inr ⟨w2.heap.size, 0, #[], rfl, HZ2.out, heap_alloc_new w2 _, Nat.le_refl _, by unfold maxLen; omega, rfl, rfl⟩⟩
    go_wp2
    go_loopw [4, 5] (fun v c wr => ∃ (L : List UInt8) (i : Nat), c = .int .i64 i ∧ i ≤ y + 1 ∧ L.length = i ∧ wr.ownsRow W.heap.size 5 1 v L.length (Lib.byteCells L) ∧ At R w (b + 2 + i) wr ∧ W.heap.size ≤ wr.heap.size) (fun _ c _ => y + 1 - (intOf c).toNat)
    case atStart => exact ⟨[], 0, rfl, by omega, rfl, HST.out, HA2.out.alloc _, by have := HZ2.out; simp; omega⟩
    case round =>
      obtain ⟨L, i, rfl, hi, hL, hown, hat, hsz⟩ := hrel
      have OWN := hid hown
      have HAT := hid hat
      have HSZ := hid hsz
      have HLL := hid hL
      clear hown hat hsz hL
      by_cases hlt : i ≤ y
      · obtain ⟨ao, cap, rfl⟩ := own_slice' OWN.out
        go_wp2_with fail
        refine (pick_at HAT.out (by omega) 4 (by omega)).mono ?_
        rintro e w3 ⟨z, rfl, hz, a3, s3⟩
        have HA3 := hid a3
        have OW3 := hid (own_sv OWN.out s3 HR.out)
        have HS3 := hid (Nat.le_trans HSZ.out s3.size)
        have hl6 : L.length ≤ 5 := by have := HLL.out; omega
        clear a3 s3
        obtain ⟨c, hc⟩ : ∃ c : UInt8, (97 : Int) + z = c.toNat := by
          obtain rfl | rfl | rfl | rfl : z = 0 ∨ z = 1 ∨ z = 2 ∨ z = 3 := by omega
          · exact ⟨97, rfl⟩
          · exact ⟨98, rfl⟩
          · exact ⟨99, rfl⟩
          · exact ⟨100, rfl⟩
        have hcb := c.toNat_lt
        have hz4 : (z : Int) ≤ 3 := by omega
        go_wp2_with (at_builtin; refine wpList_append_own _ rfl _ _ 31 rfl W.heap.size 5 i0 (.int .u8 0) 1 1 Tryd.underlying31 HHI.out.1 HHI.out.2.1 HHI.out.2.2.1 HHI.out.2.2.2 rfl (by decide) _ _ _ rfl (OW3.out.alloc _) ⟨w3.heap.size, 0, none⟩ 1 1 [.int .u8 c.toNat] rfl rfl ?c1 ?c2 ?c3 ?c4 ?c5 ?_)
        case c1 =>
          intro j u hj
          match j, hj with
          | 0, hj => simp at hj; subst hj; simp [Addr.add]
        case c2 => intro u hu; simp at hu; subst hu; rfl
        case c3 => unfold maxLen; omega
        case c4 => omega
        case c5 => have := HS3.out; simp; omega
        intro v' w4 hown' hgrow _
        have HO4 : Hid (w4.ownsRow W.heap.size 5 1 v' (L ++ [c]).length (Lib.byteCells (L ++ [c]))) := by
          show World.ownsRow _ _ _ _ _ _ _
          simpa [Lib.byteCells] using hown'
        have HA4 := hid ((HA3.out.alloc (.cells #[.int .u8 c.toNat] 5)).grown hgrow (fun k e => (OW3.out.lt k e).1) HR.out HZ.out (by have := HS3.out; simp; omega))
        have HS4 := hid (Nat.le_trans HS3.out (Nat.le_trans (by simp) hgrow.size))
        obtain ⟨a1, c1, rfl⟩ := own_slice' HO4.out
        clear hown' hgrow
        go_wp2
        go_roundw
        case rel => exact ⟨L ++ [c], i + 1, by go_num, by omega, by simp [HLL.out], HO4.out, HA4.out.mono (by omega), HS4.out⟩
        case measure => simp [intOf]; omega
      · obtain ⟨ao, cap, rfl⟩ := own_slice' OWN.out
        have hcv := conv_row wr W.heap.size _ L OWN.out
        go_wp2
        go_ret
        exact ⟨_, rfl, HAT.out.mono (by omega)⟩
end Go.Proofs.YtmmgpbjmegfffaaDoor.V
