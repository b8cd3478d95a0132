import Derived.Test.YtlopcjhipajdcaaGreatDoorJ00
/-! Rows of texts that came in, or that were made: sizes, copies, sameness. -/
namespace Go.Proofs.YtlopcjhipajdcaaGreatDoor.J
open Go.RowKit
set_option maxRecDepth 20000
/-- N texts at an address. -/
def TextsA (W : World) (ad : Option Addr) (N : Nat) (s : Nat → ByteArray) : Prop := N = 0 ∨ ∃ a, ad = some a ∧ a.block < W.heap.size ∧ ∀ i, i < N → W.cell? (a.add i) = some (.string (s i))
theorem info_tx : (Tryz.prog.info? 9).map (fun i => (i.zero, i.size, i.bytes)) = some (some (.string ⟨#[]⟩), 1, 16) := by kernel_rfl
def TextsAt (W : World) (g N : Nat) (s : Nat → ByteArray) : Prop := ∀ i, i < N → W.cell? ⟨g, i, none⟩ = some (.string (s i))
theorem TextsAt.a {W : World} {g N : Nat} {s : Nat → ByteArray} (h : TextsAt W g N s) (hg : g < W.heap.size) : TextsA W (some ⟨g, 0, none⟩) N s := .inr ⟨_, rfl, hg, fun i hi => by rw [add_at]; exact h i hi⟩
theorem row_room {W : World} {g i : Nat} {cur : Array Value} {t : TypeId} (h : W.heap[g]? = some (.cells cur t (0, 0))) (hi : i < cur.size) :
    (∃ v, W.cell? ⟨g, i, none⟩ = some v) ∧ W.frozen? ⟨g, i, none⟩ = false :=
  ⟨⟨cur[i], by unfold World.cell?; rw [h]; simp [hi]⟩, by unfold World.frozen?; rw [h]; simp⟩
theorem row_cell {W : World} {g : Nat} {cur : Array Value} {t : TypeId} (h : W.heap[g]? = some (.cells cur t (0, 0))) (i : Nat) : W.cell? ⟨g, i, none⟩ = cur[i]? := by
  unfold World.cell?
  rw [h]; rfl
end Go.Proofs.YtlopcjhipajdcaaGreatDoor.J
