import Derived.Test.YtlgpbmnajlhaoaaWT
namespace Go.Proofs.Ytlgpbmnajlhaoaa
open Go.RowKit
set_option maxRecDepth 20000
theorem block_at {w w1 : World} {X Y Z : Obj} (h : Below (((w.alloc X).alloc Y).alloc Z).heap.size (((w.alloc X).alloc Y).alloc Z) w1) :
    w1.heap[w.heap.size]? = some X ∧ w1.heap[w.heap.size + 1]? = some Y ∧ w1.heap[w.heap.size + 1 + 1]? = some Z := by
  refine ⟨?_, ?_, ?_⟩
  · rw [h.block _ (by simp; omega), Below.heap_alloc _ _ _ (by simp; omega), Below.heap_alloc _ _ _ (by simp)]
    exact heap_alloc_new w X
  · rw [h.block _ (by simp), Below.heap_alloc _ _ _ (by simp)]
    have := heap_alloc_new (w.alloc X) Y
    rwa [World.size_alloc] at this
  · rw [h.block _ (by simp)]
    have := heap_alloc_new ((w.alloc X).alloc Y) Z
    rwa [World.size_alloc, World.size_alloc] at this
theorem FilesAt.set {W : World} {g N b i : Nat} {f : Nat → Fl} (h : FilesAt W g N f) (hb : b ≠ g) (v : Value) : FilesAt (W.setCell ⟨b, i, none⟩ v) g N f := by
  have k : ∀ j, (W.setCell ⟨b, i, none⟩ v).cell? ⟨g, j, none⟩ = W.cell? ⟨g, j, none⟩ := fun j => by
    unfold World.cell? World.setCell
    simp only [Array.getElem?_modify]
    rw [if_neg hb]
  intro j hj
  exact ⟨(k _).trans (h j hj).1, (k _).trans (h j hj).2⟩
theorem TextsAt.set {W : World} {g N b i : Nat} {s : Nat → ByteArray} (h : TextsAt W g N s) (hb : b ≠ g) (v : Value) : TextsAt (W.setCell ⟨b, i, none⟩ v) g N s := by
  intro j hj
  refine Eq.trans ?_ (h j hj)
  unfold World.cell? World.setCell
  simp only [Array.getElem?_modify]
  rw [if_neg hb]
set_option maxHeartbeats 2000000 in
theorem toWorld_any (ad an : Option Addr) (N M c1 c2 : Nat) (f : Nat → Fl) (s : Nat → ByteArray) (w : World) (hN : N ≤ 1048576) (hM : M ≤ 1048576) (hF : FilesA w ad N f) (hS : TextsA w an M s) :
    Calls Try.prog 6 #[.agg #[.slice ad N c1, .slice an M c2]] w fun e w' => ∃ g k, e = .returned (.agg #[.slice (some ⟨g, 0, none⟩) N N, .slice (some ⟨k, 0, none⟩) M M]) ∧ FilesAt w' g N f ∧ TextsAt w' k M s ∧ g < w'.heap.size ∧ k < w'.heap.size ∧ w.heap.size ≤ g ∧ w.heap.size ≤ k ∧ Below w.heap.size w w' := by
  have HB3 := hid ((below_two' w (.cells #[.slice ad N c1, .slice an M c2] 25) (.cells #[.slice none 0 0, .slice none 0 0] 30)).alloc (by simp; omega) (.cells #[.slice none 0 0, .slice none 0 0] 30))
  have HF := hid hF
  have HS := hid hS
  clear hF hS
  go_enter Try.func6, Try.ntmps6
  go_wp2_with fail
  refine (toFileS_all ad N c1 f _ hN (HF.out.below HB3.out)).mono ?_
  rintro e w1 ⟨rfl, hno, hlt, hb1⟩
  obtain ⟨p0, p1, p2⟩ := block_at hb1
  have HP1 := hid (And.intro p1 p2)
  have HNO := hid hno
  have HLT := hid hlt
  have HB1 := hid (HB3.out.trans (hb1.mono (by simp; omega)))
  have x0 : w1.cell? ⟨w.heap.size, 1, none⟩ = some (.slice an M c2) := by unfold World.cell?; rw [p0]; rfl
  have x1 : w1.cell? ⟨w.heap.size + 1 + 1, 0, none⟩ = some (.slice none 0 0) := by unfold World.cell?; rw [p2]; rfl
  have y1 : w1.frozen? ⟨w.heap.size + 1 + 1, 0, none⟩ = false := by unfold World.frozen?; rw [p2]; rfl
  clear hno hlt hb1 p0 p1 p2
  go_wp2_with fail
  have hs0 : w.heap.size + 1 + 1 + 1 < w1.heap.size := by simpa using HLT.out
  have HB2 := hid (below_set HB1.out (w.heap.size + 1 + 1) 0 (by omega) (.slice (some ⟨w.heap.size + 1 + 1 + 1, 0, none⟩) N N))
  refine (toTextS_all an M c2 s _ hM (HS.out.below HB2.out)).mono ?_
  rintro e w2 ⟨rfl, hno2, hlt2, hb2⟩
  have q2 := set_at (i := 0) (.slice (some ⟨w.heap.size + 1 + 1 + 1, 0, none⟩) N N) HP1.out.2
  have q1 : (w1.setCell ⟨w.heap.size + 1 + 1, 0, none⟩ (.slice (some ⟨w.heap.size + 1 + 1 + 1, 0, none⟩) N N)).heap[w.heap.size + 1]? = some (.cells #[.slice none 0 0, .slice none 0 0] 30) := (Below.heap_setCell w1 ⟨w.heap.size + 1 + 1, 0, none⟩ _ _ (by show w.heap.size + 1 ≠ w.heap.size + 1 + 1; omega)).trans HP1.out.1
  rw [← hb2.block _ (by simp; omega)] at q1 q2
  have hno1 : FilesAt w2 (w.heap.size + 1 + 1 + 1) N f := by
    have h := HNO.out
    simp only [World.size_alloc] at h
    exact (h.set (by omega) _).below hb2 (by simpa using hs0)
  have HN1 := hid hno1
  have HN2 := hid hno2
  have HBX := hid (HB2.out.trans (hb2.mono HB2.out.size))
  have hsz : (w1.setCell ⟨w.heap.size + 1 + 1, 0, none⟩ (.slice (some ⟨w.heap.size + 1 + 1 + 1, 0, none⟩) N N)).heap.size = w1.heap.size := by simp
  rw [hsz] at hlt2 HN2
  have HL := hid hlt2
  have x2 : w2.cell? ⟨w.heap.size + 1 + 1, 0, none⟩ = some (.slice (some ⟨w.heap.size + 1 + 1 + 1, 0, none⟩) N N) := by unfold World.cell?; rw [q2]; rfl
  have x3 : w2.cell? ⟨w.heap.size + 1 + 1, 1, none⟩ = some (.slice none 0 0) := by unfold World.cell?; rw [q2]; rfl
  have y3 : w2.frozen? ⟨w.heap.size + 1 + 1, 1, none⟩ = false := by unfold World.frozen?; rw [q2]; rfl
  have x4 : w2.cell? ⟨w.heap.size + 1, 0, none⟩ = some (.slice none 0 0) := by unfold World.cell?; rw [q1]; rfl
  have x5 : w2.cell? ⟨w.heap.size + 1, 1, none⟩ = some (.slice none 0 0) := by unfold World.cell?; rw [q1]; rfl
  have y4 : w2.frozen? ⟨w.heap.size + 1, 0, none⟩ = false := by unfold World.frozen?; rw [q1]; rfl
  have y5 : w2.frozen? ⟨w.heap.size + 1, 1, none⟩ = false := by unfold World.frozen?; rw [q1]; rfl
  clear x0 x1 y1 hno1 hno2 hlt2 hb2 q1 q2 hsz
  go_wp2
  refine bodyPost_ret (v := .agg #[.slice (some ⟨w.heap.size + 1 + 1 + 1, 0, none⟩) N N, .slice (some ⟨w1.heap.size, 0, none⟩) M M]) (by simp [results, Try.results6, go_sem, x4, x5]) rfl ⟨w.heap.size + 1 + 1 + 1, w1.heap.size, rfl, ?_, ?_, ?_, ?_, by omega, ?_, ?_⟩
  · exact ((HN1.out.set (by omega) _).set (by omega) _).set (by omega) _
  · exact ((HN2.out.set (by omega) _).set (by omega) _).set (by omega) _
  · have := HL.out; simp; omega
  · have := HL.out; simp; omega
  · exact HB1.out.size
  · exact below_set (below_set (below_set HBX.out _ _ (by omega) _) _ _ (by omega) _) _ _ (by omega) _
end Go.Proofs.Ytlgpbmnajlhaoaa
