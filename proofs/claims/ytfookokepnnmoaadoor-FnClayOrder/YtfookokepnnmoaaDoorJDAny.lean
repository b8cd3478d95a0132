import Derived.Test.YtfookokepnnmoaaDoorJDSpoil
namespace Go.Proofs.YtfookokepnnmoaaDoor
open Go.RowKit
set_option maxRecDepth 20000
theorem TxOk.val {A : Nat} {l : List At} (h : TxOk A l) : ∀ x ∈ l, x.text.size ≤ maxLen := fun x hx => by have := h.2 x hx; unfold maxLen; omega
theorem PB3v : PB 3 = 796000000 := by kernel_rfl
theorem PB3 (p : Nat) (h : p ≤ 700000000) : p ≤ PB 3 := by rw [PB3v]; exact Nat.le_trans h (by decide)
set_option maxHeartbeats 4000000 in
theorem l5Any_any (R p : Nat) (w : World) (hp : p ≤ 600000000) (hr : Rd R w p) :
    Calls Tryd.prog 16 #[.pointer (some ⟨R, 0, none⟩)] w fun e w' => AnyEnd R 2000 3000 p w e w' := by
  have HR := hid hr
  have HP3 : Hid (∀ q, q ≤ p + 10000 → q ≤ PB 3) := fun q h => PB3 q (by omega)
  clear hr
  go_enter Tryd.func16, Tryd.ntmps16
  go_wp2_with fail
  have HI0 := hid (Inn.start HR.out)
  refine (pick_any R p 24 _ (by omega) (by omega) HI0.out.rd).mono ?_
  rintro e w1 ⟨⟨z1, rfl, hz1⟩, hr1, hs1⟩
  have HI1 := hid (HI0.out.drew hs1 hr1 (by omega))
  clear hr1 hs1
  by_cases h0 : z1 = 0
  · subst h0
    go_wp2_with fail
    refine (l5Edge_any R (p + 1) _ (by omega) HI1.out.rd).mono ?_
    rintro e w2 ⟨s2, l2, rfl, hv2, hne2, ha2, q2, hq2, hq2', hr2, hs2⟩
    have HI2 := hid (HI1.out.drew hs2 hr2 (by omega))
    have HV2 := hid hv2
    obtain ⟨t1, t2⟩ := HI2.out.cells
    obtain ⟨g2, o2, N2, c2, rfl, _⟩ := hv2
    clear hr2 hs2
    go_wp2
    exact bodyPost_ret (v := .agg #[.slice (some ⟨g2, o2, none⟩) N2 c2]) (by simp [results, Tryd.results16, go_sem, t1]) rfl (HI2.out.finA HV2.out (ha2.tx.mono (by omega)) (by omega))
  · have hz0 : ((z1 : Int) == 0) = false := by simp; omega
    by_cases h1 : z1 = 1
    · subst h1
      go_wp2_with fail
      refine (draw3 R (p + 1) _ (HP3.out _ (by omega)) HI1.out.rd).mono ?_
      rintro e w2 ⟨s2, l2, rfl, hv2, hne2, ha2, q2, hq2, hq2', hr2, hs2⟩
      have HI2 := hid (HI1.out.drew hs2 hr2 (by omega))
      have HV2 := hid hv2
      clear hr2 hs2
      go_wp2_with fail
      refine (l5Spoil_any R q2 s2 l2 _ (by omega) HI2.out.rd HV2.out hne2 (ha2.mono (by omega))).mono ?_
      rintro e w3 ⟨s3, l3, rfl, hv3, ha3, q3, hq3, hq3', hr3, hs3⟩
      have HI3 := hid (HI2.out.drew hs3 hr3 (by omega))
      have HV3 := hid hv3
      obtain ⟨t1, t2⟩ := HI3.out.cells
      obtain ⟨g3, o3, N3, c3, rfl, _⟩ := hv3
      clear hr3 hs3
      go_wp2
      exact bodyPost_ret (v := .agg #[.slice (some ⟨g3, o3, none⟩) N3 c3]) (by simp [results, Tryd.results16, go_sem, t1]) rfl (HI3.out.finA HV3.out (ha3.mono (by omega)) (by omega))
    · have hz1' : ((z1 : Int) == 1) = false := by simp; omega
      go_wp2_with fail
      refine (draw3 R (p + 1) _ (HP3.out _ (by omega)) HI1.out.rd).mono ?_
      rintro e w2 ⟨s2, l2, rfl, hv2, hne2, ha2, q2, hq2, hq2', hr2, hs2⟩
      have HI2 := hid (HI1.out.drew hs2 hr2 (by omega))
      have HV2 := hid hv2
      obtain ⟨t1, t2⟩ := HI2.out.cells
      obtain ⟨g2, o2, N2, c2, rfl, _⟩ := hv2
      clear hr2 hs2
      go_wp2
      exact bodyPost_ret (v := .agg #[.slice (some ⟨g2, o2, none⟩) N2 c2]) (by simp [results, Tryd.results16, go_sem, t1]) rfl (HI2.out.finA HV2.out (ha2.tx.mono (by omega)) (by omega))
/-- Bytes that came in. -/
def CodeA (w : World) (ad : Option Addr) (n : Nat) : Prop := n = 0 ∨ ∃ a : Addr, ad = some a ∧ a.block < w.heap.size ∧ ∀ i, i < n → ∃ x : UInt8, w.cell? (a.add i) = some (.int .u8 x.toNat)
theorem CodeA.box {w : World} {ad : Option Addr} {n m : Nat} {o : Obj} (h : CodeA w ad n) (hm : m ≤ n) : CodeIn w.heap.size (w.alloc o) ad m := by
  rcases h with h | ⟨a, e, h1, h2⟩
  · exact .inl (by omega)
  · refine .inr ⟨a, e, h1, fun i hi => ?_⟩
    obtain ⟨x, hx⟩ := h2 i (by omega)
    exact ⟨x, (((Below.refl w.heap.size w).alloc (Nat.le_refl _) o).cell (p := a.add i) (by rw [add_block]; exact h1)).trans hx⟩
set_option maxHeartbeats 2000000 in
theorem l1Open_any (ad : Option Addr) (n cap : Nat) (w : World) (hn : n ≤ 1048576) (hc : n ≤ cap) (hcm : cap ≤ 9223372036854775807) (h : CodeA w ad n) (hnil : ad = none → n = 0 ∧ cap = 0) :
    Calls Tryd.prog 15 #[.slice ad n cap] w fun e w' => e = .returned (.pointer (some ⟨w.heap.size, 0, none⟩)) ∧ Rd w.heap.size w' 0 ∧ Below w.heap.size w w' := by
  by_cases h2 : n ≤ 2000
  · have HRD : Hid (Rd w.heap.size (w.alloc (.cells #[.slice ad n cap, .int .i64 0] 56)) 0) := ⟨ad, n, cap, heap_alloc_new w _, h2, h.box (Nat.le_refl _)⟩
    clear h hnil
    go_enter Tryd.func15, Tryd.ntmps15
    go_wp2
    go_ret
    exact ⟨rfl, HRD.out, (Below.refl _ _).alloc (Nat.le_refl _) _⟩
  · obtain ⟨a, rfl⟩ : ∃ a, ad = some a := by
      cases ad with
      | none => have := (hnil rfl).1; omega
      | some a => exact ⟨a, rfl⟩
    have HRD : Hid (Rd w.heap.size (w.alloc (.cells #[.slice (some a) 2000 cap, .int .i64 0] 56)) 0) := ⟨_, 2000, cap, heap_alloc_new w _, by omega, h.box (by omega)⟩
    have hn3 : (2000 : Int) < (n : Int) := by omega
    have hc3 : (2000 : Int) ≤ (cap : Int) := by omega
    clear h hnil
    go_enter Tryd.func15, Tryd.ntmps15
    go_wp2
    go_ret
    exact ⟨rfl, HRD.out, (Below.refl _ _).alloc (Nat.le_refl _) _⟩
end Go.Proofs.YtfookokepnnmoaaDoor
