import Derived.Deep.DeepCutAuto
import Derived.Deep.RegionHeld3
import Derived.Test.YtabefhpgeaihgaaGreatDoorJ40
/-! The model's built words. Printed by gen_vblt.py. -/
namespace Go.Proofs.YtabefhpgeaihgaaGreatDoor.V
open Go.RowKit Go.Shelf
set_option maxRecDepth 20000
theorem ok_len {any op : Int} {N : Nat} {vl : Nat → Vl} (h : OkArgs any op N vl) : (wants any op).length = N := by have := h.2.1; rwa [tsOf_len] at this
theorem ok_at {any op : Int} {N : Nat} {vl : Nat → Vl} (h : OkArgs any op N vl) (i : Nat) (hi : i < N) : fit1 any ((wants any op).getD i 0) (vl i).t := by
  have := h.2.2 i (by rw [tsOf_len]; exact hi)
  rwa [tsOf_get N vl i hi] at this
theorem valid_tx {t n : Int} {s : ByteArray} (h : validB t n s = true) (ht : t = 2) : n = 0 ∧ s.size ≤ 3000 := by
  subst ht
  simp [validB] at h
  exact ⟨h.1, by omega⟩
theorem valid_nm {t n : Int} {s : ByteArray} (h3 : 3 ≤ t) (h4 : t ≤ 10) (h : validB t n s = true) : n = into t n := by
  rw [valid_int h3 h4] at h
  simp at h
  exact h.2
/-- What came in, and the box for the answer. -/
structure Bs (w : World) (g N : Nat) (vl : Nat → Vl) (V : World) : Prop where
  lo : Below w.heap.size w V
  vals : ValsAt V g N vl
  rb : V.heap[w.heap.size]? = some (vbox 0 0 wNone)
theorem Bs.next {w W V : World} {g N : Nat} {vl : Nat → Vl} (h : Bs w g N vl W) (hg : g < w.heap.size) (hb : Below W.heap.size W V) : Bs w g N vl V :=
  ⟨h.lo.trans (hb.mono h.lo.size), h.vals.below hb (Nat.lt_of_lt_of_le hg h.lo.size), keep_box h.rb hb⟩
theorem val0 {W : World} {g N : Nat} {vl : Nat → Vl} (h : ValsAt W g N vl) (hN : 0 < N) : W.cell? ⟨g, 0, none⟩ = some (.int .i64 (vl 0).t) ∧ W.cell? ⟨g, 1, none⟩ = some (.int .i64 (vl 0).n) ∧ W.cell? ⟨g, 2, none⟩ = some (.string (vl 0).s) := h 0 hN
theorem val1 {W : World} {g N : Nat} {vl : Nat → Vl} (h : ValsAt W g N vl) (hN : 1 < N) : W.cell? ⟨g, 3, none⟩ = some (.int .i64 (vl 1).t) ∧ W.cell? ⟨g, 4, none⟩ = some (.int .i64 (vl 1).n) ∧ W.cell? ⟨g, 5, none⟩ = some (.string (vl 1).s) := h 1 hN
theorem val2 {W : World} {g N : Nat} {vl : Nat → Vl} (h : ValsAt W g N vl) (hN : 2 < N) : W.cell? ⟨g, 6, none⟩ = some (.int .i64 (vl 2).t) ∧ W.cell? ⟨g, 7, none⟩ = some (.int .i64 (vl 2).n) ∧ W.cell? ⟨g, 8, none⟩ = some (.string (vl 2).s) := h 2 hN
/-- The model's answer. -/
def SEnd (op : Int) (N : Nat) (vl : Nat → Vl) (w : World) (e : Ending) (w' : World) : Prop := ∃ y z st wd, e = .returned (ans y z st wd) ∧ BltRes op N vl y z st wd ∧ Below w.heap.size w w'
set_option maxHeartbeats 1000000 in
theorem sText_any (s : ByteArray) (w : World) :
    Calls Tryz.prog 50 #[.string s] w fun e w' => e = .returned (val 2 0 s) ∧ Below w.heap.size w w' := by
  go_enter Tryz.func50, Tryz.ntmps50
  go_wp2
  exact bodyPost_ret (v := val 2 0 s) (by simp [results, Tryz.results50, go_sem]) rfl ⟨rfl, alloc_below _ _⟩
theorem set3_cell {V : World} {k j i : Nat} (h : j ≠ k) (a b c : Value) : (((V.setCell ⟨k, 0, none⟩ a).setCell ⟨k, 1, none⟩ b).setCell ⟨k, 2, none⟩ c).cell? ⟨j, i, none⟩ = V.cell? ⟨j, i, none⟩ := by
  have e : ∀ (X : World) (q : Nat) (v : Value), (X.setCell ⟨k, q, none⟩ v).cell? ⟨j, i, none⟩ = X.cell? ⟨j, i, none⟩ := fun X q v => World.cell?_of_block (w := X) (Below.heap_setCell _ _ _ _ (show j ≠ k from h))
  rw [e, e, e]
theorem chr_byte {n : Int} (h : n = into 3 n) : 0 ≤ n ∧ n ≤ 255 ∧ IntKind.u8.wrap n = ((UInt8.ofNat n.toNat).toNat : Int) := by
  have hb : 0 ≤ n ∧ n ≤ 255 := by
    simp [into, intoK, kT3, IntKind.wrap, IntKind.bits, IntKind.signed] at h
    omega
  refine ⟨hb.1, hb.2, ?_⟩
  rw [UInt8.toNat_ofNat', IntKind.wrap_u8]
  omega
end Go.Proofs.YtabefhpgeaihgaaGreatDoor.V
