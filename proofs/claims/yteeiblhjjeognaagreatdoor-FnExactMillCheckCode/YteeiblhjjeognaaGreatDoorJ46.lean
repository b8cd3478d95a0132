import Derived.Laws.CopyOwn
import Derived.Test.YteeiblhjjeognaaGreatDoorJ45
/-! What the program answers of a code. -/
namespace Go.Proofs.YteeiblhjjeognaaGreatDoor.C
open Go.RowKit
set_option maxRecDepth 20000
def ErrT (W : World) : Prop := W.cell? ⟨0, 0, none⟩ = some (.iface 127 (.agg #[.pointer (some ⟨3, 53, none⟩)]))
theorem ErrT.lt {W : World} (h : ErrT W) : 0 < W.heap.size := by
  unfold ErrT World.cell? at h
  rcases Nat.lt_or_ge 0 W.heap.size with hl | hl
  · exact hl
  · rw [Array.getElem?_eq_none hl] at h; cases h
theorem ErrT.next {W V : World} (h : ErrT W) (hb : Below W.heap.size W V) : ErrT V := (hb.cell (p := ⟨0, 0, none⟩) h.lt).trans h
/-- The code's box, and the flaw's. -/
structure MX (w : World) (cv : Value) (W : World) : Prop where
  lo : Below w.heap.size w W
  e0 : W.heap[w.heap.size]? = some (.cells #[cv] 30)
  e1 : W.heap[w.heap.size + 1]? = some (.cells #[.int .i64 0, .int .i64 0, .int .i64 0] 50)
theorem MX.start (w : World) (cv : Value) : MX w cv ((w.alloc (.cells #[cv] 30)).alloc (.cells #[.int .i64 0, .int .i64 0, .int .i64 0] 50)) := by
  refine ⟨((Below.refl _ _).alloc (Nat.le_refl _) _).alloc (by simp) _, ?_, ?_⟩
  · rw [Below.heap_alloc _ _ _ (by simp)]
    exact heap_alloc_new _ _
  · have := heap_alloc_new (w.alloc (.cells #[cv] 30)) (.cells #[.int .i64 0, .int .i64 0, .int .i64 0] 50)
    rwa [World.size_alloc] at this
theorem MX.next {w : World} {cv : Value} {W V : World} (h : MX w cv W) (hb : Below W.heap.size W V) : MX w cv V := ⟨h.lo.trans (hb.mono h.lo.size), hp_next h.e0 hb, hp_next h.e1 hb⟩
theorem as_end (c k i : Nat) {w W : World} {cv : Value} (h : MX w cv W) (hg : ErrT W) : Calls Tryz.prog 21 #[.iface 50 (.agg #[.int .i64 c, .int .i64 k, .int .i64 i]), .iface 55 (.pointer (some ⟨w.heap.size + 1, 0, none⟩))] W fun e w' => e = .returned (.bool true) ∧ w'.heap[w.heap.size + 1]? = some (.cells #[.int .i64 c, .int .i64 k, .int .i64 i] 50) ∧ Below w.heap.size w w' := by
  refine (as_flaw c k i (w.heap.size + 1) W h.e1 hg).mono ?_
  rintro e w' ⟨rfl, rfl⟩
  have hA : Below W.heap.size W ((((W.alloc (.cells #[.pointer (some ⟨w.heap.size + 1, 0, none⟩)] 55)).alloc (vP W.heap.size)).alloc (vP W.heap.size)).alloc (vF c k i)) := (((Below.refl W.heap.size W).alloc (Nat.le_refl _) _).alloc (by simp) _ |>.alloc (by simp; omega) _).alloc (by simp; omega) _
  have h2 := h.next hA
  exact ⟨rfl, setRow_heap _ _ _ _ _ _ h2.e1, below_setRow h2.lo (by omega) _⟩
set_option maxHeartbeats 2000000 in
theorem checkCode_any {fns : List Fn} {w : World} {cv : Value} (h1 : FnsRow w cv fns) (hC : CodeS fns) (hE : EnvI w) (hT : ErrT w) :
    Calls Tryz.prog 8 #[.agg #[cv]] w (ChkEnd fns w) := by
  have HX0 := hid (MX.start w cv)
  have HCO := hid (code_any (h1.next HX0.out.lo) hC (hE.next HX0.out.lo))
  have HT := hid (hT.next HX0.out.lo)
  obtain ⟨aF, cF, hcv⟩ := h1.sl
  subst hcv
  clear h1 hC hE hT
  go_enter Tryz.func8, Tryz.ntmps8
  go_upto_region 2 with fail
  obtain ⟨W1, hW1⟩ : ∃ W, (w.alloc (.cells #[.slice aF fns.length cF] 30)).alloc (.cells #[.int .i64 0, .int .i64 0, .int .i64 0] 50) = W := ⟨_, rfl⟩
  rw [hW1] at HX0 HCO HT ⊢
  clear hW1
  have k0 := cx HX0.out.e0
  go_wp2_with fail
  refine HCO.out.mono ?_
  rintro e w2 ⟨hcs, hb2⟩
  have HX := hid (HX0.out.next hb2)
  have HT2 := hid (HT.out.next hb2)
  clear hb2 k0 HX0 HCO HT
  rcases hcs with ⟨rfl, hp⟩ | ⟨c, k, i, hc0, rfl, hp⟩
  · have HCK := hid hp
    clear hp
    go_wp2_with fail
    refine (as_nil _ _).mono ?_
    rintro e w3 ⟨rfl, hw3⟩
    have hw4 := hw3.symm
    clear hw3
    subst hw4
    go_wp2_with fail
    go_ret3
    exact ⟨0, 0, 0, rfl, HCK.out, HX.out.lo⟩
  · have HCK := hid hp
    have HC0 := hid hc0
    clear hp hc0
    unfold flaw
    go_wp2_with fail
    refine (as_end c k i HX.out HT2.out).mono ?_
    rintro e w3 ⟨rfl, h3, hb3⟩
    have HB3 := hid hb3
    have c0 : w3.cell? ⟨w.heap.size + 1, 0, none⟩ = some (.int .i64 c) := cell_hp h3 0
    have c1 : w3.cell? ⟨w.heap.size + 1, 1, none⟩ = some (.int .i64 k) := cell_hp h3 1
    have c2 : w3.cell? ⟨w.heap.size + 1, 2, none⟩ = some (.int .i64 i) := cell_hp h3 2
    clear h3 hb3
    go_wp2_with fail
    go_quiet (fail)
    go_wp2
    go_ret3
    exact ⟨c, k, i, rfl, HCK.out, below_drewN HB3.out _⟩
end Go.Proofs.YteeiblhjjeognaaGreatDoor.C
