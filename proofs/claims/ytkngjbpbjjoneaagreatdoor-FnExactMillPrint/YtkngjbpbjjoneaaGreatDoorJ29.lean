import Derived.Test.YtkngjbpbjjoneaaGreatDoorJ25
import Derived.Test.YtkngjbpbjjoneaaGreatDoorJ03
import Derived.Test.YtkngjbpbjjoneaaGreatDoorJ04
/-! The model's pen, and what lies under it. -/
namespace Go.Proofs.YtkngjbpbjjoneaaGreatDoor.Q
open Go.RowKit Go.Shelf
set_option maxRecDepth 20000
/-- The call answered the text l. -/
def Str (e : Ending) (l : List UInt8) : Prop := ∃ y : ByteArray, e = .returned (.string y) ∧ y.data.toList = l
theorem Str.get {e : Ending} {l : List UInt8} (h : Str e l) : ∃ y : ByteArray, e = .returned (.string y) ∧ Hid (y.data.toList = l) ∧ y.size = l.length := by
  obtain ⟨y, h1, h2⟩ := h
  exact ⟨y, h1, h2, by rw [← h2, len_size]⟩
theorem str_of {y : ByteArray} {l : List UInt8} (h : y.data.toList = l) : Str (.returned (.string y)) l := ⟨y, rfl, h⟩
theorem str_eq' {e : Ending} {l : List UInt8} : Str e l ↔ e = .returned (.string ⟨l.toArray⟩) := by
  constructor
  · rintro ⟨y, rfl, rfl⟩; rfl
  · rintro rfl; exact str_of (by simp)
theorem ba_list (a b : ByteArray) : (a ++ b).data.toList = a.data.toList ++ b.data.toList := by simp
/-- The pen at block P: the nodes at b, the rows of kids at g. -/
structure PenAt (nd : Nat → Nd) (O : List (List Nat)) (N b cap g co P : Nat) (W : World) : Prop where
  c0 : W.cell? ⟨P, 0, none⟩ = some (.slice (some ⟨b, 0, none⟩) N cap)
  c1 : W.cell? ⟨P, 1, none⟩ = some (.slice (some ⟨g, 0, none⟩) N co)
  pl : P < W.heap.size
  bl : b < W.heap.size
  gl : g < W.heap.size
  nodes : NodesAt W b N nd
  kids : ∀ j, j < N → ∃ gk ck, W.cell? ⟨g, j, none⟩ = some (.slice (some ⟨gk, 0, none⟩) (O.getD j []).length ck) ∧ RowAt W 3 gk ck (O.getD j []).length (intRow (O.getD j []))
theorem PenAt.next {nd : Nat → Nd} {O : List (List Nat)} {N b cap g co P : Nat} {W W' : World} (h : PenAt nd O N b cap g co P W) (hb : Below W.heap.size W W') : PenAt nd O N b cap g co P W' := by
  have hz := hb.size
  refine ⟨(hb.cell (p := ⟨P, _, none⟩) h.pl).trans h.c0, (hb.cell (p := ⟨P, _, none⟩) h.pl).trans h.c1, Nat.lt_of_lt_of_le h.pl hz, Nat.lt_of_lt_of_le h.bl hz, Nat.lt_of_lt_of_le h.gl hz, h.nodes.below hb h.bl, fun j hj => ?_⟩
  obtain ⟨gk, ck, h1, h2⟩ := h.kids j hj
  exact ⟨gk, ck, (hb.cell (p := ⟨g, j, none⟩) h.gl).trans h1, h2.below hb h2.lt⟩
theorem row_int {W : World} {gk ck : Nat} {ks : List Nat} (h : RowAt W 3 gk ck ks.length (intRow ks)) (i : Nat) (hi : i < ks.length) : W.cell? ⟨gk, i, none⟩ = some (.int .i64 (ks.getD i 0 : Nat)) := by
  rw [h.cell i hi]
  simp [intRow, hi]
/-- What the walk over node j finds: its six cells and the row of its kids. -/
theorem PenAt.at {nd : Nat → Nd} {O : List (List Nat)} {N b cap g co P : Nat} {W : World} (h : PenAt nd O N b cap g co P W) {j : Nat} (hj : j < N) :
    ∃ gk ck, W.cell? ⟨g, j, none⟩ = some (.slice (some ⟨gk, 0, none⟩) (O.getD j []).length ck) ∧ gk < W.heap.size ∧ NodeAt W b j (nd j) ∧ Hid (RowAt W 3 gk ck (O.getD j []).length (intRow (O.getD j []))) := by
  obtain ⟨gk, ck, h1, h2⟩ := h.kids j hj
  exact ⟨gk, ck, h1, h2.lt, h.nodes j hj, h2⟩
def ExprOk (nd : Nat → Nd) (O : List (List Nat)) (N b cap g co P k : Nat) : Prop :=
  ∀ W, PenAt nd O N b cap g co P W → Calls Tryz.prog 65 #[.pointer (some ⟨P, 0, none⟩), .int .i64 k] W fun e w' => Str e (tvE nd O k) ∧ Below W.heap.size W w'
set_option maxHeartbeats 1000000 in
theorem held_any {nd : Nat → Nd} {O : List (List Nat)} {N b cap g co P k : Nat} (hk : k < N) (hE : ExprOk nd O N b cap g co P k) (hl : (tvE nd O k).length ≤ 200000000) (W : World) (hp : PenAt nd O N b cap g co P W) :
    Calls Tryz.prog 87 #[.pointer (some ⟨P, 0, none⟩), .int .i64 k] W fun e w' => Str e (heldOf nd (tvE nd O) k) ∧ Below W.heap.size W w' := by
  have HE := hid hE
  have HP := hid hp
  have p0 := hp.c0
  have n0 := (hp.nodes k hk).1
  clear hE hp
  by_cases h6 : (nd k).kind = 6
  · have HT : Hid (heldOf nd (tvE nd O) k = [40] ++ tvE nd O k ++ [41]) := if_pos h6
    rw [h6] at n0
    clear h6
    go_enter Tryz.func87, Tryz.ntmps87
    go_wp2_with fail
    refine (HE.out _ HP.out).mono ?_
    rintro e w1 ⟨hs, hb⟩
    obtain ⟨y, rfl, HY, hy⟩ := hs.get
    have HB := hid hb
    clear hs hb
    go_wp2
    go_ret
    refine ⟨str_of ?_, HB.out⟩
    rw [HT.out, ba_list, ba_list, HY.out]
  · have HT : Hid (heldOf nd (tvE nd O) k = tvE nd O k) := if_neg h6
    have e6 : ((nd k).kind == 6) = false := by simpa using h6
    clear h6
    go_enter Tryz.func87, Tryz.ntmps87
    go_wp2_with fail
    refine (HE.out _ HP.out).mono ?_
    rintro e w1 ⟨hs, hb⟩
    obtain ⟨y, rfl, HY, hy⟩ := hs.get
    have HB := hid hb
    clear hs hb
    go_wp2
    go_ret
    refine ⟨str_of ?_, HB.out⟩
    rw [HT.out, HY.out]
end Go.Proofs.YtkngjbpbjjoneaaGreatDoor.Q
